/-
  IsValidExpr in the model.
-/
import Derived.Test.YthpnghbhfbiljaaEValid2
import Derived.Test.YthpnghbhfbiljaaEDepth
import Derived.Test.YthpnghbhfbiljaaERemote
namespace Go.Proofs.Ythpnghbhfbiljaa
open Go.ChangeShapes Go.WideShapes Go.ChangeAt Go.RowKit Go.Deep

set_option maxHeartbeats 6400000 in
set_option maxRecDepth 100000 in
theorem spec_l4Bare_1 {a6 : Option Addr} {c6 : Nat} (x : DExpr) (hk : x.fKind = 1) (bq : Bool) (hb : bq = true ↔ Bare (nodeOfX x 0)) (w : World) :
    Calls Try.prog 70 #[.agg #[.int .i64 x.fKind, .int .i64 x.fN, .int .i64 x.fPos, .int .i64 x.fType, .string x.fSymbol, .string x.fName, .slice a6 x.fArgs.length c6]] w fun e w' => e = .returned (.bool bq) ∧ Below w.heap.size w w' := by
  have hk2 : (nodeOfX x 0).fKind = 1 := hk
  have HY := Lib.hid (show x.fPos = 0 → x.fSymbol.toList = [] → x.fName.toList = [] → x.fArgs.length = 0 → bq = true from fun g2 g4 g5 g6 => hb.2 ⟨(by rw [hk2]; exact g6), Or.inr (Or.inr (g2)), Or.inr (Or.inr (g5)), Or.inl hk2, Or.inl hk2, Or.inr (g4)⟩)
  have hbf : ¬ Bare (nodeOfX x 0) → bq = false := fun h => Bool.eq_false_iff.2 fun hq => h (hb.1 hq)
  have N2 := Lib.hid (show ¬ x.fPos = 0 → bq = false from fun g => hbf fun hb => by rcases hb.2.1 with h | h | h <;> first | exact g h | omega)
  have N4 := Lib.hid (show ¬ x.fSymbol.toList = [] → bq = false from fun g => hbf fun hb => by rcases hb.2.2.2.2.2 with h | h <;> first | exact g h | omega)
  have N5 := Lib.hid (show ¬ x.fName.toList = [] → bq = false from fun g => hbf fun hb => by rcases hb.2.2.1 with h | h | h <;> first | exact g h | omega)
  have N6 := Lib.hid (show ¬ x.fArgs.length = 0 → bq = false from fun g => hbf fun hb => by have h := hb.1; rw [hk2] at h; exact g h)
  rw [hk]
  clear hk hk2 hb hbf
  generalize x.fN = a1 at *
  generalize x.fPos = a2 at *
  generalize x.fType = a3 at *
  generalize x.fSymbol = a4 at *
  generalize x.fName = a5 at *
  generalize x.fArgs.length = a6n at *
  by_cases g6 : a6n = 0
  · have e6 : (((a6n : Nat) : Int) == 0) = true := beq_iff_eq.2 (by omega)
    have e7 : (((a6n : Nat) : Int) != 0) = false := by rw [bne, e6]; rfl
    go_enter Try.func70, Try.ntmps70
    go_wp2
    all_goals go_ret
    all_goals
      first
        | (exact ⟨ret_b (N2.out (by assumption)).symm, (by repeat (first | (with_reducible exact Below.refl _ _) | (with_reducible apply Below.drew) | (refine Below.alloc ?_ (by simp <;> omega) _)) : Below w.heap.size w _)⟩)
        | (exact ⟨ret_b (N4.out (by assumption)).symm, (by repeat (first | (with_reducible exact Below.refl _ _) | (with_reducible apply Below.drew) | (refine Below.alloc ?_ (by simp <;> omega) _)) : Below w.heap.size w _)⟩)
        | (exact ⟨ret_b (N5.out (by assumption)).symm, (by repeat (first | (with_reducible exact Below.refl _ _) | (with_reducible apply Below.drew) | (refine Below.alloc ?_ (by simp <;> omega) _)) : Below w.heap.size w _)⟩)
        | (exact ⟨ret_b (HY.out (by assumption) (by assumption) (by assumption) g6).symm, (by repeat (first | (with_reducible exact Below.refl _ _) | (with_reducible apply Below.drew) | (refine Below.alloc ?_ (by simp <;> omega) _)) : Below w.heap.size w _)⟩)
        | (exact ⟨ret_b (by by_cases g : a2 = 0; (rw [HY.out g (by assumption) (by assumption) g6]; simp [g]); (rw [N2.out g]; simp [g])), (by repeat (first | (with_reducible exact Below.refl _ _) | (with_reducible apply Below.drew) | (refine Below.alloc ?_ (by simp <;> omega) _)) : Below w.heap.size w _)⟩)
        | (exact ⟨ret_b (by by_cases g : a4.toList = []; (rw [HY.out (by assumption) g (by assumption) g6]; simp [g]); (rw [N4.out g]; simp [g])), (by repeat (first | (with_reducible exact Below.refl _ _) | (with_reducible apply Below.drew) | (refine Below.alloc ?_ (by simp <;> omega) _)) : Below w.heap.size w _)⟩)
        | (exact ⟨ret_b (by by_cases g : a5.toList = []; (rw [HY.out (by assumption) (by assumption) g g6]; simp [g]); (rw [N5.out g]; simp [g])), (by repeat (first | (with_reducible exact Below.refl _ _) | (with_reducible apply Below.drew) | (refine Below.alloc ?_ (by simp <;> omega) _)) : Below w.heap.size w _)⟩)
  · have fin := Lib.hid (N6.out g6)
    have e6 : (((a6n : Nat) : Int) == 0) = false := beq_eq_false_iff_ne.2 (by omega)
    have e7 : (((a6n : Nat) : Int) != 0) = true := by rw [bne, e6]; rfl
    clear g6
    go_enter Try.func70, Try.ntmps70
    go_wp2
    go_ret
    exact ⟨ret_b fin.out.symm, (by repeat (first | (with_reducible exact Below.refl _ _) | (with_reducible apply Below.drew) | (refine Below.alloc ?_ (by simp <;> omega) _)) : Below w.heap.size w _)⟩

set_option maxHeartbeats 6400000 in
set_option maxRecDepth 100000 in
theorem spec_l4Bare_2 {a6 : Option Addr} {c6 : Nat} (x : DExpr) (hk : x.fKind = 2) (bq : Bool) (hb : bq = true ↔ Bare (nodeOfX x 0)) (w : World) :
    Calls Try.prog 70 #[.agg #[.int .i64 x.fKind, .int .i64 x.fN, .int .i64 x.fPos, .int .i64 x.fType, .string x.fSymbol, .string x.fName, .slice a6 x.fArgs.length c6]] w fun e w' => e = .returned (.bool bq) ∧ Below w.heap.size w w' := by
  have hk2 : (nodeOfX x 0).fKind = 2 := hk
  have HY := Lib.hid (show x.fN = 0 → x.fPos = 0 → x.fType = 0 → x.fSymbol.toList = [] → x.fName.toList = [] → x.fArgs.length = 0 → bq = true from fun g1 g2 g3 g4 g5 g6 => hb.2 ⟨(by rw [hk2]; exact g6), Or.inr (Or.inr (g2)), Or.inr (Or.inr (g5)), Or.inr (Or.inr (g1)), Or.inr (g3), Or.inr (g4)⟩)
  have hbf : ¬ Bare (nodeOfX x 0) → bq = false := fun h => Bool.eq_false_iff.2 fun hq => h (hb.1 hq)
  have N1 := Lib.hid (show ¬ x.fN = 0 → bq = false from fun g => hbf fun hb => by rcases hb.2.2.2.1 with h | h | h <;> first | exact g h | omega)
  have N2 := Lib.hid (show ¬ x.fPos = 0 → bq = false from fun g => hbf fun hb => by rcases hb.2.1 with h | h | h <;> first | exact g h | omega)
  have N3 := Lib.hid (show ¬ x.fType = 0 → bq = false from fun g => hbf fun hb => by rcases hb.2.2.2.2.1 with h | h <;> first | exact g h | omega)
  have N4 := Lib.hid (show ¬ x.fSymbol.toList = [] → bq = false from fun g => hbf fun hb => by rcases hb.2.2.2.2.2 with h | h <;> first | exact g h | omega)
  have N5 := Lib.hid (show ¬ x.fName.toList = [] → bq = false from fun g => hbf fun hb => by rcases hb.2.2.1 with h | h | h <;> first | exact g h | omega)
  have N6 := Lib.hid (show ¬ x.fArgs.length = 0 → bq = false from fun g => hbf fun hb => by have h := hb.1; rw [hk2] at h; exact g h)
  rw [hk]
  clear hk hk2 hb hbf
  generalize x.fN = a1 at *
  generalize x.fPos = a2 at *
  generalize x.fType = a3 at *
  generalize x.fSymbol = a4 at *
  generalize x.fName = a5 at *
  generalize x.fArgs.length = a6n at *
  by_cases g6 : a6n = 0
  · have e6 : (((a6n : Nat) : Int) == 0) = true := beq_iff_eq.2 (by omega)
    have e7 : (((a6n : Nat) : Int) != 0) = false := by rw [bne, e6]; rfl
    go_enter Try.func70, Try.ntmps70
    go_wp2
    all_goals go_ret
    all_goals
      first
        | (exact ⟨ret_b (N1.out (by assumption)).symm, (by repeat (first | (with_reducible exact Below.refl _ _) | (with_reducible apply Below.drew) | (refine Below.alloc ?_ (by simp <;> omega) _)) : Below w.heap.size w _)⟩)
        | (exact ⟨ret_b (N2.out (by assumption)).symm, (by repeat (first | (with_reducible exact Below.refl _ _) | (with_reducible apply Below.drew) | (refine Below.alloc ?_ (by simp <;> omega) _)) : Below w.heap.size w _)⟩)
        | (exact ⟨ret_b (N3.out (by assumption)).symm, (by repeat (first | (with_reducible exact Below.refl _ _) | (with_reducible apply Below.drew) | (refine Below.alloc ?_ (by simp <;> omega) _)) : Below w.heap.size w _)⟩)
        | (exact ⟨ret_b (N4.out (by assumption)).symm, (by repeat (first | (with_reducible exact Below.refl _ _) | (with_reducible apply Below.drew) | (refine Below.alloc ?_ (by simp <;> omega) _)) : Below w.heap.size w _)⟩)
        | (exact ⟨ret_b (N5.out (by assumption)).symm, (by repeat (first | (with_reducible exact Below.refl _ _) | (with_reducible apply Below.drew) | (refine Below.alloc ?_ (by simp <;> omega) _)) : Below w.heap.size w _)⟩)
        | (exact ⟨ret_b (HY.out (by assumption) (by assumption) (by assumption) (by assumption) (by assumption) g6).symm, (by repeat (first | (with_reducible exact Below.refl _ _) | (with_reducible apply Below.drew) | (refine Below.alloc ?_ (by simp <;> omega) _)) : Below w.heap.size w _)⟩)
        | (exact ⟨ret_b (by by_cases g : a1 = 0; (rw [HY.out g (by assumption) (by assumption) (by assumption) (by assumption) g6]; simp [g]); (rw [N1.out g]; simp [g])), (by repeat (first | (with_reducible exact Below.refl _ _) | (with_reducible apply Below.drew) | (refine Below.alloc ?_ (by simp <;> omega) _)) : Below w.heap.size w _)⟩)
        | (exact ⟨ret_b (by by_cases g : a2 = 0; (rw [HY.out (by assumption) g (by assumption) (by assumption) (by assumption) g6]; simp [g]); (rw [N2.out g]; simp [g])), (by repeat (first | (with_reducible exact Below.refl _ _) | (with_reducible apply Below.drew) | (refine Below.alloc ?_ (by simp <;> omega) _)) : Below w.heap.size w _)⟩)
        | (exact ⟨ret_b (by by_cases g : a3 = 0; (rw [HY.out (by assumption) (by assumption) g (by assumption) (by assumption) g6]; simp [g]); (rw [N3.out g]; simp [g])), (by repeat (first | (with_reducible exact Below.refl _ _) | (with_reducible apply Below.drew) | (refine Below.alloc ?_ (by simp <;> omega) _)) : Below w.heap.size w _)⟩)
        | (exact ⟨ret_b (by by_cases g : a4.toList = []; (rw [HY.out (by assumption) (by assumption) (by assumption) g (by assumption) g6]; simp [g]); (rw [N4.out g]; simp [g])), (by repeat (first | (with_reducible exact Below.refl _ _) | (with_reducible apply Below.drew) | (refine Below.alloc ?_ (by simp <;> omega) _)) : Below w.heap.size w _)⟩)
        | (exact ⟨ret_b (by by_cases g : a5.toList = []; (rw [HY.out (by assumption) (by assumption) (by assumption) (by assumption) g g6]; simp [g]); (rw [N5.out g]; simp [g])), (by repeat (first | (with_reducible exact Below.refl _ _) | (with_reducible apply Below.drew) | (refine Below.alloc ?_ (by simp <;> omega) _)) : Below w.heap.size w _)⟩)
  · have fin := Lib.hid (N6.out g6)
    have e6 : (((a6n : Nat) : Int) == 0) = false := beq_eq_false_iff_ne.2 (by omega)
    have e7 : (((a6n : Nat) : Int) != 0) = true := by rw [bne, e6]; rfl
    clear g6
    go_enter Try.func70, Try.ntmps70
    go_wp2
    go_ret
    exact ⟨ret_b fin.out.symm, (by repeat (first | (with_reducible exact Below.refl _ _) | (with_reducible apply Below.drew) | (refine Below.alloc ?_ (by simp <;> omega) _)) : Below w.heap.size w _)⟩

set_option maxHeartbeats 6400000 in
set_option maxRecDepth 100000 in
theorem spec_l4Bare_3 {a6 : Option Addr} {c6 : Nat} (x : DExpr) (hk : x.fKind = 3) (bq : Bool) (hb : bq = true ↔ Bare (nodeOfX x 0)) (w : World) :
    Calls Try.prog 70 #[.agg #[.int .i64 x.fKind, .int .i64 x.fN, .int .i64 x.fPos, .int .i64 x.fType, .string x.fSymbol, .string x.fName, .slice a6 x.fArgs.length c6]] w fun e w' => e = .returned (.bool bq) ∧ Below w.heap.size w w' := by
  have hk2 : (nodeOfX x 0).fKind = 3 := hk
  have HY := Lib.hid (show x.fN = 0 → x.fType = 0 → x.fSymbol.toList = [] → x.fArgs.length = 0 → bq = true from fun g1 g3 g4 g6 => hb.2 ⟨(by rw [hk2]; exact g6), Or.inl hk2, Or.inl hk2, Or.inr (Or.inr (g1)), Or.inr (g3), Or.inr (g4)⟩)
  have hbf : ¬ Bare (nodeOfX x 0) → bq = false := fun h => Bool.eq_false_iff.2 fun hq => h (hb.1 hq)
  have N1 := Lib.hid (show ¬ x.fN = 0 → bq = false from fun g => hbf fun hb => by rcases hb.2.2.2.1 with h | h | h <;> first | exact g h | omega)
  have N3 := Lib.hid (show ¬ x.fType = 0 → bq = false from fun g => hbf fun hb => by rcases hb.2.2.2.2.1 with h | h <;> first | exact g h | omega)
  have N4 := Lib.hid (show ¬ x.fSymbol.toList = [] → bq = false from fun g => hbf fun hb => by rcases hb.2.2.2.2.2 with h | h <;> first | exact g h | omega)
  have N6 := Lib.hid (show ¬ x.fArgs.length = 0 → bq = false from fun g => hbf fun hb => by have h := hb.1; rw [hk2] at h; exact g h)
  rw [hk]
  clear hk hk2 hb hbf
  generalize x.fN = a1 at *
  generalize x.fPos = a2 at *
  generalize x.fType = a3 at *
  generalize x.fSymbol = a4 at *
  generalize x.fName = a5 at *
  generalize x.fArgs.length = a6n at *
  by_cases g6 : a6n = 0
  · have e6 : (((a6n : Nat) : Int) == 0) = true := beq_iff_eq.2 (by omega)
    have e7 : (((a6n : Nat) : Int) != 0) = false := by rw [bne, e6]; rfl
    go_enter Try.func70, Try.ntmps70
    go_wp2
    all_goals go_ret
    all_goals
      first
        | (exact ⟨ret_b (N1.out (by assumption)).symm, (by repeat (first | (with_reducible exact Below.refl _ _) | (with_reducible apply Below.drew) | (refine Below.alloc ?_ (by simp <;> omega) _)) : Below w.heap.size w _)⟩)
        | (exact ⟨ret_b (N3.out (by assumption)).symm, (by repeat (first | (with_reducible exact Below.refl _ _) | (with_reducible apply Below.drew) | (refine Below.alloc ?_ (by simp <;> omega) _)) : Below w.heap.size w _)⟩)
        | (exact ⟨ret_b (N4.out (by assumption)).symm, (by repeat (first | (with_reducible exact Below.refl _ _) | (with_reducible apply Below.drew) | (refine Below.alloc ?_ (by simp <;> omega) _)) : Below w.heap.size w _)⟩)
        | (exact ⟨ret_b (HY.out (by assumption) (by assumption) (by assumption) g6).symm, (by repeat (first | (with_reducible exact Below.refl _ _) | (with_reducible apply Below.drew) | (refine Below.alloc ?_ (by simp <;> omega) _)) : Below w.heap.size w _)⟩)
        | (exact ⟨ret_b (by by_cases g : a1 = 0; (rw [HY.out g (by assumption) (by assumption) g6]; simp [g]); (rw [N1.out g]; simp [g])), (by repeat (first | (with_reducible exact Below.refl _ _) | (with_reducible apply Below.drew) | (refine Below.alloc ?_ (by simp <;> omega) _)) : Below w.heap.size w _)⟩)
        | (exact ⟨ret_b (by by_cases g : a3 = 0; (rw [HY.out (by assumption) g (by assumption) g6]; simp [g]); (rw [N3.out g]; simp [g])), (by repeat (first | (with_reducible exact Below.refl _ _) | (with_reducible apply Below.drew) | (refine Below.alloc ?_ (by simp <;> omega) _)) : Below w.heap.size w _)⟩)
        | (exact ⟨ret_b (by by_cases g : a4.toList = []; (rw [HY.out (by assumption) (by assumption) g g6]; simp [g]); (rw [N4.out g]; simp [g])), (by repeat (first | (with_reducible exact Below.refl _ _) | (with_reducible apply Below.drew) | (refine Below.alloc ?_ (by simp <;> omega) _)) : Below w.heap.size w _)⟩)
  · have fin := Lib.hid (N6.out g6)
    have e6 : (((a6n : Nat) : Int) == 0) = false := beq_eq_false_iff_ne.2 (by omega)
    have e7 : (((a6n : Nat) : Int) != 0) = true := by rw [bne, e6]; rfl
    clear g6
    go_enter Try.func70, Try.ntmps70
    go_wp2
    go_ret
    exact ⟨ret_b fin.out.symm, (by repeat (first | (with_reducible exact Below.refl _ _) | (with_reducible apply Below.drew) | (refine Below.alloc ?_ (by simp <;> omega) _)) : Below w.heap.size w _)⟩

set_option maxHeartbeats 6400000 in
set_option maxRecDepth 100000 in
theorem spec_l4Bare_4 {a6 : Option Addr} {c6 : Nat} (x : DExpr) (hk : x.fKind = 4) (bq : Bool) (hb : bq = true ↔ Bare (nodeOfX x 0)) (w : World) :
    Calls Try.prog 70 #[.agg #[.int .i64 x.fKind, .int .i64 x.fN, .int .i64 x.fPos, .int .i64 x.fType, .string x.fSymbol, .string x.fName, .slice a6 x.fArgs.length c6]] w fun e w' => e = .returned (.bool bq) ∧ Below w.heap.size w w' := by
  have hk2 : (nodeOfX x 0).fKind = 4 := hk
  have HY := Lib.hid (show x.fPos = 0 → x.fType = 0 → x.fSymbol.toList = [] → x.fName.toList = [] → x.fArgs.length = 2 → bq = true from fun g2 g3 g4 g5 g6 => hb.2 ⟨(by rw [hk2]; exact g6), Or.inr (Or.inr (g2)), Or.inr (Or.inr (g5)), Or.inr (Or.inl hk2), Or.inr (g3), Or.inr (g4)⟩)
  have hbf : ¬ Bare (nodeOfX x 0) → bq = false := fun h => Bool.eq_false_iff.2 fun hq => h (hb.1 hq)
  have N2 := Lib.hid (show ¬ x.fPos = 0 → bq = false from fun g => hbf fun hb => by rcases hb.2.1 with h | h | h <;> first | exact g h | omega)
  have N3 := Lib.hid (show ¬ x.fType = 0 → bq = false from fun g => hbf fun hb => by rcases hb.2.2.2.2.1 with h | h <;> first | exact g h | omega)
  have N4 := Lib.hid (show ¬ x.fSymbol.toList = [] → bq = false from fun g => hbf fun hb => by rcases hb.2.2.2.2.2 with h | h <;> first | exact g h | omega)
  have N5 := Lib.hid (show ¬ x.fName.toList = [] → bq = false from fun g => hbf fun hb => by rcases hb.2.2.1 with h | h | h <;> first | exact g h | omega)
  have N6 := Lib.hid (show ¬ x.fArgs.length = 2 → bq = false from fun g => hbf fun hb => by have h := hb.1; rw [hk2] at h; exact g h)
  rw [hk]
  clear hk hk2 hb hbf
  generalize x.fN = a1 at *
  generalize x.fPos = a2 at *
  generalize x.fType = a3 at *
  generalize x.fSymbol = a4 at *
  generalize x.fName = a5 at *
  generalize x.fArgs.length = a6n at *
  by_cases g6 : a6n = 2
  · have e6 : (((a6n : Nat) : Int) == 2) = true := beq_iff_eq.2 (by omega)
    have e7 : (((a6n : Nat) : Int) != 2) = false := by rw [bne, e6]; rfl
    go_enter Try.func70, Try.ntmps70
    go_wp2
    all_goals go_ret
    all_goals
      first
        | (exact ⟨ret_b (N2.out (by assumption)).symm, (by repeat (first | (with_reducible exact Below.refl _ _) | (with_reducible apply Below.drew) | (refine Below.alloc ?_ (by simp <;> omega) _)) : Below w.heap.size w _)⟩)
        | (exact ⟨ret_b (N3.out (by assumption)).symm, (by repeat (first | (with_reducible exact Below.refl _ _) | (with_reducible apply Below.drew) | (refine Below.alloc ?_ (by simp <;> omega) _)) : Below w.heap.size w _)⟩)
        | (exact ⟨ret_b (N4.out (by assumption)).symm, (by repeat (first | (with_reducible exact Below.refl _ _) | (with_reducible apply Below.drew) | (refine Below.alloc ?_ (by simp <;> omega) _)) : Below w.heap.size w _)⟩)
        | (exact ⟨ret_b (N5.out (by assumption)).symm, (by repeat (first | (with_reducible exact Below.refl _ _) | (with_reducible apply Below.drew) | (refine Below.alloc ?_ (by simp <;> omega) _)) : Below w.heap.size w _)⟩)
        | (exact ⟨ret_b (HY.out (by assumption) (by assumption) (by assumption) (by assumption) g6).symm, (by repeat (first | (with_reducible exact Below.refl _ _) | (with_reducible apply Below.drew) | (refine Below.alloc ?_ (by simp <;> omega) _)) : Below w.heap.size w _)⟩)
        | (exact ⟨ret_b (by by_cases g : a2 = 0; (rw [HY.out g (by assumption) (by assumption) (by assumption) g6]; simp [g]); (rw [N2.out g]; simp [g])), (by repeat (first | (with_reducible exact Below.refl _ _) | (with_reducible apply Below.drew) | (refine Below.alloc ?_ (by simp <;> omega) _)) : Below w.heap.size w _)⟩)
        | (exact ⟨ret_b (by by_cases g : a3 = 0; (rw [HY.out (by assumption) g (by assumption) (by assumption) g6]; simp [g]); (rw [N3.out g]; simp [g])), (by repeat (first | (with_reducible exact Below.refl _ _) | (with_reducible apply Below.drew) | (refine Below.alloc ?_ (by simp <;> omega) _)) : Below w.heap.size w _)⟩)
        | (exact ⟨ret_b (by by_cases g : a4.toList = []; (rw [HY.out (by assumption) (by assumption) g (by assumption) g6]; simp [g]); (rw [N4.out g]; simp [g])), (by repeat (first | (with_reducible exact Below.refl _ _) | (with_reducible apply Below.drew) | (refine Below.alloc ?_ (by simp <;> omega) _)) : Below w.heap.size w _)⟩)
        | (exact ⟨ret_b (by by_cases g : a5.toList = []; (rw [HY.out (by assumption) (by assumption) (by assumption) g g6]; simp [g]); (rw [N5.out g]; simp [g])), (by repeat (first | (with_reducible exact Below.refl _ _) | (with_reducible apply Below.drew) | (refine Below.alloc ?_ (by simp <;> omega) _)) : Below w.heap.size w _)⟩)
  · have fin := Lib.hid (N6.out g6)
    have e6 : (((a6n : Nat) : Int) == 2) = false := beq_eq_false_iff_ne.2 (by omega)
    have e7 : (((a6n : Nat) : Int) != 2) = true := by rw [bne, e6]; rfl
    clear g6
    go_enter Try.func70, Try.ntmps70
    go_wp2
    go_ret
    exact ⟨ret_b fin.out.symm, (by repeat (first | (with_reducible exact Below.refl _ _) | (with_reducible apply Below.drew) | (refine Below.alloc ?_ (by simp <;> omega) _)) : Below w.heap.size w _)⟩

set_option maxHeartbeats 6400000 in
set_option maxRecDepth 100000 in
theorem spec_l4Bare_5 {a6 : Option Addr} {c6 : Nat} (x : DExpr) (hk : x.fKind = 5) (bq : Bool) (hb : bq = true ↔ Bare (nodeOfX x 0)) (w : World) :
    Calls Try.prog 70 #[.agg #[.int .i64 x.fKind, .int .i64 x.fN, .int .i64 x.fPos, .int .i64 x.fType, .string x.fSymbol, .string x.fName, .slice a6 x.fArgs.length c6]] w fun e w' => e = .returned (.bool bq) ∧ Below w.heap.size w w' := by
  have hk2 : (nodeOfX x 0).fKind = 5 := hk
  have HY := Lib.hid (show x.fN = 0 → x.fPos = 0 → x.fType = 0 → x.fSymbol.toList = [] → x.fName.toList = [] → x.fArgs.length = 3 → bq = true from fun g1 g2 g3 g4 g5 g6 => hb.2 ⟨(by rw [hk2]; exact g6), Or.inr (Or.inr (g2)), Or.inr (Or.inr (g5)), Or.inr (Or.inr (g1)), Or.inr (g3), Or.inr (g4)⟩)
  have hbf : ¬ Bare (nodeOfX x 0) → bq = false := fun h => Bool.eq_false_iff.2 fun hq => h (hb.1 hq)
  have N1 := Lib.hid (show ¬ x.fN = 0 → bq = false from fun g => hbf fun hb => by rcases hb.2.2.2.1 with h | h | h <;> first | exact g h | omega)
  have N2 := Lib.hid (show ¬ x.fPos = 0 → bq = false from fun g => hbf fun hb => by rcases hb.2.1 with h | h | h <;> first | exact g h | omega)
  have N3 := Lib.hid (show ¬ x.fType = 0 → bq = false from fun g => hbf fun hb => by rcases hb.2.2.2.2.1 with h | h <;> first | exact g h | omega)
  have N4 := Lib.hid (show ¬ x.fSymbol.toList = [] → bq = false from fun g => hbf fun hb => by rcases hb.2.2.2.2.2 with h | h <;> first | exact g h | omega)
  have N5 := Lib.hid (show ¬ x.fName.toList = [] → bq = false from fun g => hbf fun hb => by rcases hb.2.2.1 with h | h | h <;> first | exact g h | omega)
  have N6 := Lib.hid (show ¬ x.fArgs.length = 3 → bq = false from fun g => hbf fun hb => by have h := hb.1; rw [hk2] at h; exact g h)
  rw [hk]
  clear hk hk2 hb hbf
  generalize x.fN = a1 at *
  generalize x.fPos = a2 at *
  generalize x.fType = a3 at *
  generalize x.fSymbol = a4 at *
  generalize x.fName = a5 at *
  generalize x.fArgs.length = a6n at *
  by_cases g6 : a6n = 3
  · have e6 : (((a6n : Nat) : Int) == 3) = true := beq_iff_eq.2 (by omega)
    have e7 : (((a6n : Nat) : Int) != 3) = false := by rw [bne, e6]; rfl
    go_enter Try.func70, Try.ntmps70
    go_wp2
    all_goals go_ret
    all_goals
      first
        | (exact ⟨ret_b (N1.out (by assumption)).symm, (by repeat (first | (with_reducible exact Below.refl _ _) | (with_reducible apply Below.drew) | (refine Below.alloc ?_ (by simp <;> omega) _)) : Below w.heap.size w _)⟩)
        | (exact ⟨ret_b (N2.out (by assumption)).symm, (by repeat (first | (with_reducible exact Below.refl _ _) | (with_reducible apply Below.drew) | (refine Below.alloc ?_ (by simp <;> omega) _)) : Below w.heap.size w _)⟩)
        | (exact ⟨ret_b (N3.out (by assumption)).symm, (by repeat (first | (with_reducible exact Below.refl _ _) | (with_reducible apply Below.drew) | (refine Below.alloc ?_ (by simp <;> omega) _)) : Below w.heap.size w _)⟩)
        | (exact ⟨ret_b (N4.out (by assumption)).symm, (by repeat (first | (with_reducible exact Below.refl _ _) | (with_reducible apply Below.drew) | (refine Below.alloc ?_ (by simp <;> omega) _)) : Below w.heap.size w _)⟩)
        | (exact ⟨ret_b (N5.out (by assumption)).symm, (by repeat (first | (with_reducible exact Below.refl _ _) | (with_reducible apply Below.drew) | (refine Below.alloc ?_ (by simp <;> omega) _)) : Below w.heap.size w _)⟩)
        | (exact ⟨ret_b (HY.out (by assumption) (by assumption) (by assumption) (by assumption) (by assumption) g6).symm, (by repeat (first | (with_reducible exact Below.refl _ _) | (with_reducible apply Below.drew) | (refine Below.alloc ?_ (by simp <;> omega) _)) : Below w.heap.size w _)⟩)
        | (exact ⟨ret_b (by by_cases g : a1 = 0; (rw [HY.out g (by assumption) (by assumption) (by assumption) (by assumption) g6]; simp [g]); (rw [N1.out g]; simp [g])), (by repeat (first | (with_reducible exact Below.refl _ _) | (with_reducible apply Below.drew) | (refine Below.alloc ?_ (by simp <;> omega) _)) : Below w.heap.size w _)⟩)
        | (exact ⟨ret_b (by by_cases g : a2 = 0; (rw [HY.out (by assumption) g (by assumption) (by assumption) (by assumption) g6]; simp [g]); (rw [N2.out g]; simp [g])), (by repeat (first | (with_reducible exact Below.refl _ _) | (with_reducible apply Below.drew) | (refine Below.alloc ?_ (by simp <;> omega) _)) : Below w.heap.size w _)⟩)
        | (exact ⟨ret_b (by by_cases g : a3 = 0; (rw [HY.out (by assumption) (by assumption) g (by assumption) (by assumption) g6]; simp [g]); (rw [N3.out g]; simp [g])), (by repeat (first | (with_reducible exact Below.refl _ _) | (with_reducible apply Below.drew) | (refine Below.alloc ?_ (by simp <;> omega) _)) : Below w.heap.size w _)⟩)
        | (exact ⟨ret_b (by by_cases g : a4.toList = []; (rw [HY.out (by assumption) (by assumption) (by assumption) g (by assumption) g6]; simp [g]); (rw [N4.out g]; simp [g])), (by repeat (first | (with_reducible exact Below.refl _ _) | (with_reducible apply Below.drew) | (refine Below.alloc ?_ (by simp <;> omega) _)) : Below w.heap.size w _)⟩)
        | (exact ⟨ret_b (by by_cases g : a5.toList = []; (rw [HY.out (by assumption) (by assumption) (by assumption) (by assumption) g g6]; simp [g]); (rw [N5.out g]; simp [g])), (by repeat (first | (with_reducible exact Below.refl _ _) | (with_reducible apply Below.drew) | (refine Below.alloc ?_ (by simp <;> omega) _)) : Below w.heap.size w _)⟩)
  · have fin := Lib.hid (N6.out g6)
    have e6 : (((a6n : Nat) : Int) == 3) = false := beq_eq_false_iff_ne.2 (by omega)
    have e7 : (((a6n : Nat) : Int) != 3) = true := by rw [bne, e6]; rfl
    clear g6
    go_enter Try.func70, Try.ntmps70
    go_wp2
    go_ret
    exact ⟨ret_b fin.out.symm, (by repeat (first | (with_reducible exact Below.refl _ _) | (with_reducible apply Below.drew) | (refine Below.alloc ?_ (by simp <;> omega) _)) : Below w.heap.size w _)⟩

set_option maxHeartbeats 6400000 in
set_option maxRecDepth 100000 in
theorem spec_l4Bare_6 {a6 : Option Addr} {c6 : Nat} (x : DExpr) (hk : x.fKind = 6) (bq : Bool) (hb : bq = true ↔ Bare (nodeOfX x 0)) (w : World) :
    Calls Try.prog 70 #[.agg #[.int .i64 x.fKind, .int .i64 x.fN, .int .i64 x.fPos, .int .i64 x.fType, .string x.fSymbol, .string x.fName, .slice a6 x.fArgs.length c6]] w fun e w' => e = .returned (.bool bq) ∧ Below w.heap.size w w' := by
  have hk2 : (nodeOfX x 0).fKind = 6 := hk
  have HY := Lib.hid (show x.fN = 0 → x.fType = 0 → x.fSymbol.toList = [] → x.fName.toList = [] → x.fArgs.length = 0 → bq = true from fun g1 g3 g4 g5 g6 => hb.2 ⟨(by rw [hk2]; exact g6), Or.inr (Or.inl hk2), Or.inr (Or.inr (g5)), Or.inr (Or.inr (g1)), Or.inr (g3), Or.inr (g4)⟩)
  have hbf : ¬ Bare (nodeOfX x 0) → bq = false := fun h => Bool.eq_false_iff.2 fun hq => h (hb.1 hq)
  have N1 := Lib.hid (show ¬ x.fN = 0 → bq = false from fun g => hbf fun hb => by rcases hb.2.2.2.1 with h | h | h <;> first | exact g h | omega)
  have N3 := Lib.hid (show ¬ x.fType = 0 → bq = false from fun g => hbf fun hb => by rcases hb.2.2.2.2.1 with h | h <;> first | exact g h | omega)
  have N4 := Lib.hid (show ¬ x.fSymbol.toList = [] → bq = false from fun g => hbf fun hb => by rcases hb.2.2.2.2.2 with h | h <;> first | exact g h | omega)
  have N5 := Lib.hid (show ¬ x.fName.toList = [] → bq = false from fun g => hbf fun hb => by rcases hb.2.2.1 with h | h | h <;> first | exact g h | omega)
  have N6 := Lib.hid (show ¬ x.fArgs.length = 0 → bq = false from fun g => hbf fun hb => by have h := hb.1; rw [hk2] at h; exact g h)
  rw [hk]
  clear hk hk2 hb hbf
  generalize x.fN = a1 at *
  generalize x.fPos = a2 at *
  generalize x.fType = a3 at *
  generalize x.fSymbol = a4 at *
  generalize x.fName = a5 at *
  generalize x.fArgs.length = a6n at *
  by_cases g6 : a6n = 0
  · have e6 : (((a6n : Nat) : Int) == 0) = true := beq_iff_eq.2 (by omega)
    have e7 : (((a6n : Nat) : Int) != 0) = false := by rw [bne, e6]; rfl
    go_enter Try.func70, Try.ntmps70
    go_wp2
    all_goals go_ret
    all_goals
      first
        | (exact ⟨ret_b (N1.out (by assumption)).symm, (by repeat (first | (with_reducible exact Below.refl _ _) | (with_reducible apply Below.drew) | (refine Below.alloc ?_ (by simp <;> omega) _)) : Below w.heap.size w _)⟩)
        | (exact ⟨ret_b (N3.out (by assumption)).symm, (by repeat (first | (with_reducible exact Below.refl _ _) | (with_reducible apply Below.drew) | (refine Below.alloc ?_ (by simp <;> omega) _)) : Below w.heap.size w _)⟩)
        | (exact ⟨ret_b (N4.out (by assumption)).symm, (by repeat (first | (with_reducible exact Below.refl _ _) | (with_reducible apply Below.drew) | (refine Below.alloc ?_ (by simp <;> omega) _)) : Below w.heap.size w _)⟩)
        | (exact ⟨ret_b (N5.out (by assumption)).symm, (by repeat (first | (with_reducible exact Below.refl _ _) | (with_reducible apply Below.drew) | (refine Below.alloc ?_ (by simp <;> omega) _)) : Below w.heap.size w _)⟩)
        | (exact ⟨ret_b (HY.out (by assumption) (by assumption) (by assumption) (by assumption) g6).symm, (by repeat (first | (with_reducible exact Below.refl _ _) | (with_reducible apply Below.drew) | (refine Below.alloc ?_ (by simp <;> omega) _)) : Below w.heap.size w _)⟩)
        | (exact ⟨ret_b (by by_cases g : a1 = 0; (rw [HY.out g (by assumption) (by assumption) (by assumption) g6]; simp [g]); (rw [N1.out g]; simp [g])), (by repeat (first | (with_reducible exact Below.refl _ _) | (with_reducible apply Below.drew) | (refine Below.alloc ?_ (by simp <;> omega) _)) : Below w.heap.size w _)⟩)
        | (exact ⟨ret_b (by by_cases g : a3 = 0; (rw [HY.out (by assumption) g (by assumption) (by assumption) g6]; simp [g]); (rw [N3.out g]; simp [g])), (by repeat (first | (with_reducible exact Below.refl _ _) | (with_reducible apply Below.drew) | (refine Below.alloc ?_ (by simp <;> omega) _)) : Below w.heap.size w _)⟩)
        | (exact ⟨ret_b (by by_cases g : a4.toList = []; (rw [HY.out (by assumption) (by assumption) g (by assumption) g6]; simp [g]); (rw [N4.out g]; simp [g])), (by repeat (first | (with_reducible exact Below.refl _ _) | (with_reducible apply Below.drew) | (refine Below.alloc ?_ (by simp <;> omega) _)) : Below w.heap.size w _)⟩)
        | (exact ⟨ret_b (by by_cases g : a5.toList = []; (rw [HY.out (by assumption) (by assumption) (by assumption) g g6]; simp [g]); (rw [N5.out g]; simp [g])), (by repeat (first | (with_reducible exact Below.refl _ _) | (with_reducible apply Below.drew) | (refine Below.alloc ?_ (by simp <;> omega) _)) : Below w.heap.size w _)⟩)
  · have fin := Lib.hid (N6.out g6)
    have e6 : (((a6n : Nat) : Int) == 0) = false := beq_eq_false_iff_ne.2 (by omega)
    have e7 : (((a6n : Nat) : Int) != 0) = true := by rw [bne, e6]; rfl
    clear g6
    go_enter Try.func70, Try.ntmps70
    go_wp2
    go_ret
    exact ⟨ret_b fin.out.symm, (by repeat (first | (with_reducible exact Below.refl _ _) | (with_reducible apply Below.drew) | (refine Below.alloc ?_ (by simp <;> omega) _)) : Below w.heap.size w _)⟩

set_option maxHeartbeats 6400000 in
set_option maxRecDepth 100000 in
theorem spec_l4Bare_7 {a6 : Option Addr} {c6 : Nat} (x : DExpr) (hk : x.fKind = 7) (bq : Bool) (hb : bq = true ↔ Bare (nodeOfX x 0)) (w : World) :
    Calls Try.prog 70 #[.agg #[.int .i64 x.fKind, .int .i64 x.fN, .int .i64 x.fPos, .int .i64 x.fType, .string x.fSymbol, .string x.fName, .slice a6 x.fArgs.length c6]] w fun e w' => e = .returned (.bool bq) ∧ Below w.heap.size w w' := by
  have hk2 : (nodeOfX x 0).fKind = 7 := hk
  have HY := Lib.hid (show x.fN = 0 → x.fPos = 0 → x.fType = 0 → x.fSymbol.toList = [] → x.fName.toList = [] → x.fArgs.length = 0 → bq = true from fun g1 g2 g3 g4 g5 g6 => hb.2 ⟨(by rw [hk2]; exact g6), Or.inr (Or.inr (g2)), Or.inr (Or.inr (g5)), Or.inr (Or.inr (g1)), Or.inr (g3), Or.inr (g4)⟩)
  have hbf : ¬ Bare (nodeOfX x 0) → bq = false := fun h => Bool.eq_false_iff.2 fun hq => h (hb.1 hq)
  have N1 := Lib.hid (show ¬ x.fN = 0 → bq = false from fun g => hbf fun hb => by rcases hb.2.2.2.1 with h | h | h <;> first | exact g h | omega)
  have N2 := Lib.hid (show ¬ x.fPos = 0 → bq = false from fun g => hbf fun hb => by rcases hb.2.1 with h | h | h <;> first | exact g h | omega)
  have N3 := Lib.hid (show ¬ x.fType = 0 → bq = false from fun g => hbf fun hb => by rcases hb.2.2.2.2.1 with h | h <;> first | exact g h | omega)
  have N4 := Lib.hid (show ¬ x.fSymbol.toList = [] → bq = false from fun g => hbf fun hb => by rcases hb.2.2.2.2.2 with h | h <;> first | exact g h | omega)
  have N5 := Lib.hid (show ¬ x.fName.toList = [] → bq = false from fun g => hbf fun hb => by rcases hb.2.2.1 with h | h | h <;> first | exact g h | omega)
  have N6 := Lib.hid (show ¬ x.fArgs.length = 0 → bq = false from fun g => hbf fun hb => by have h := hb.1; rw [hk2] at h; exact g h)
  rw [hk]
  clear hk hk2 hb hbf
  generalize x.fN = a1 at *
  generalize x.fPos = a2 at *
  generalize x.fType = a3 at *
  generalize x.fSymbol = a4 at *
  generalize x.fName = a5 at *
  generalize x.fArgs.length = a6n at *
  by_cases g6 : a6n = 0
  · have e6 : (((a6n : Nat) : Int) == 0) = true := beq_iff_eq.2 (by omega)
    have e7 : (((a6n : Nat) : Int) != 0) = false := by rw [bne, e6]; rfl
    go_enter Try.func70, Try.ntmps70
    go_wp2
    all_goals go_ret
    all_goals
      first
        | (exact ⟨ret_b (N1.out (by assumption)).symm, (by repeat (first | (with_reducible exact Below.refl _ _) | (with_reducible apply Below.drew) | (refine Below.alloc ?_ (by simp <;> omega) _)) : Below w.heap.size w _)⟩)
        | (exact ⟨ret_b (N2.out (by assumption)).symm, (by repeat (first | (with_reducible exact Below.refl _ _) | (with_reducible apply Below.drew) | (refine Below.alloc ?_ (by simp <;> omega) _)) : Below w.heap.size w _)⟩)
        | (exact ⟨ret_b (N3.out (by assumption)).symm, (by repeat (first | (with_reducible exact Below.refl _ _) | (with_reducible apply Below.drew) | (refine Below.alloc ?_ (by simp <;> omega) _)) : Below w.heap.size w _)⟩)
        | (exact ⟨ret_b (N4.out (by assumption)).symm, (by repeat (first | (with_reducible exact Below.refl _ _) | (with_reducible apply Below.drew) | (refine Below.alloc ?_ (by simp <;> omega) _)) : Below w.heap.size w _)⟩)
        | (exact ⟨ret_b (N5.out (by assumption)).symm, (by repeat (first | (with_reducible exact Below.refl _ _) | (with_reducible apply Below.drew) | (refine Below.alloc ?_ (by simp <;> omega) _)) : Below w.heap.size w _)⟩)
        | (exact ⟨ret_b (HY.out (by assumption) (by assumption) (by assumption) (by assumption) (by assumption) g6).symm, (by repeat (first | (with_reducible exact Below.refl _ _) | (with_reducible apply Below.drew) | (refine Below.alloc ?_ (by simp <;> omega) _)) : Below w.heap.size w _)⟩)
        | (exact ⟨ret_b (by by_cases g : a1 = 0; (rw [HY.out g (by assumption) (by assumption) (by assumption) (by assumption) g6]; simp [g]); (rw [N1.out g]; simp [g])), (by repeat (first | (with_reducible exact Below.refl _ _) | (with_reducible apply Below.drew) | (refine Below.alloc ?_ (by simp <;> omega) _)) : Below w.heap.size w _)⟩)
        | (exact ⟨ret_b (by by_cases g : a2 = 0; (rw [HY.out (by assumption) g (by assumption) (by assumption) (by assumption) g6]; simp [g]); (rw [N2.out g]; simp [g])), (by repeat (first | (with_reducible exact Below.refl _ _) | (with_reducible apply Below.drew) | (refine Below.alloc ?_ (by simp <;> omega) _)) : Below w.heap.size w _)⟩)
        | (exact ⟨ret_b (by by_cases g : a3 = 0; (rw [HY.out (by assumption) (by assumption) g (by assumption) (by assumption) g6]; simp [g]); (rw [N3.out g]; simp [g])), (by repeat (first | (with_reducible exact Below.refl _ _) | (with_reducible apply Below.drew) | (refine Below.alloc ?_ (by simp <;> omega) _)) : Below w.heap.size w _)⟩)
        | (exact ⟨ret_b (by by_cases g : a4.toList = []; (rw [HY.out (by assumption) (by assumption) (by assumption) g (by assumption) g6]; simp [g]); (rw [N4.out g]; simp [g])), (by repeat (first | (with_reducible exact Below.refl _ _) | (with_reducible apply Below.drew) | (refine Below.alloc ?_ (by simp <;> omega) _)) : Below w.heap.size w _)⟩)
        | (exact ⟨ret_b (by by_cases g : a5.toList = []; (rw [HY.out (by assumption) (by assumption) (by assumption) (by assumption) g g6]; simp [g]); (rw [N5.out g]; simp [g])), (by repeat (first | (with_reducible exact Below.refl _ _) | (with_reducible apply Below.drew) | (refine Below.alloc ?_ (by simp <;> omega) _)) : Below w.heap.size w _)⟩)
  · have fin := Lib.hid (N6.out g6)
    have e6 : (((a6n : Nat) : Int) == 0) = false := beq_eq_false_iff_ne.2 (by omega)
    have e7 : (((a6n : Nat) : Int) != 0) = true := by rw [bne, e6]; rfl
    clear g6
    go_enter Try.func70, Try.ntmps70
    go_wp2
    go_ret
    exact ⟨ret_b fin.out.symm, (by repeat (first | (with_reducible exact Below.refl _ _) | (with_reducible apply Below.drew) | (refine Below.alloc ?_ (by simp <;> omega) _)) : Below w.heap.size w _)⟩

set_option maxHeartbeats 6400000 in
set_option maxRecDepth 100000 in
theorem spec_l4Bare_8 {a6 : Option Addr} {c6 : Nat} (x : DExpr) (hk : x.fKind = 8) (bq : Bool) (hb : bq = true ↔ Bare (nodeOfX x 0)) (w : World) :
    Calls Try.prog 70 #[.agg #[.int .i64 x.fKind, .int .i64 x.fN, .int .i64 x.fPos, .int .i64 x.fType, .string x.fSymbol, .string x.fName, .slice a6 x.fArgs.length c6]] w fun e w' => e = .returned (.bool bq) ∧ Below w.heap.size w w' := by
  have hk2 : (nodeOfX x 0).fKind = 8 := hk
  have HY := Lib.hid (show x.fN = 0 → x.fPos = 0 → x.fType = 0 → x.fArgs.length = 1 → bq = true from fun g1 g2 g3 g6 => hb.2 ⟨(by rw [hk2]; exact g6), Or.inr (Or.inr (g2)), Or.inr (Or.inl hk2), Or.inr (Or.inr (g1)), Or.inr (g3), Or.inl hk2⟩)
  have hbf : ¬ Bare (nodeOfX x 0) → bq = false := fun h => Bool.eq_false_iff.2 fun hq => h (hb.1 hq)
  have N1 := Lib.hid (show ¬ x.fN = 0 → bq = false from fun g => hbf fun hb => by rcases hb.2.2.2.1 with h | h | h <;> first | exact g h | omega)
  have N2 := Lib.hid (show ¬ x.fPos = 0 → bq = false from fun g => hbf fun hb => by rcases hb.2.1 with h | h | h <;> first | exact g h | omega)
  have N3 := Lib.hid (show ¬ x.fType = 0 → bq = false from fun g => hbf fun hb => by rcases hb.2.2.2.2.1 with h | h <;> first | exact g h | omega)
  have N6 := Lib.hid (show ¬ x.fArgs.length = 1 → bq = false from fun g => hbf fun hb => by have h := hb.1; rw [hk2] at h; exact g h)
  rw [hk]
  clear hk hk2 hb hbf
  generalize x.fN = a1 at *
  generalize x.fPos = a2 at *
  generalize x.fType = a3 at *
  generalize x.fSymbol = a4 at *
  generalize x.fName = a5 at *
  generalize x.fArgs.length = a6n at *
  by_cases g6 : a6n = 1
  · have e6 : (((a6n : Nat) : Int) == 1) = true := beq_iff_eq.2 (by omega)
    have e7 : (((a6n : Nat) : Int) != 1) = false := by rw [bne, e6]; rfl
    go_enter Try.func70, Try.ntmps70
    go_wp2
    all_goals go_ret
    all_goals
      first
        | (exact ⟨ret_b (N1.out (by assumption)).symm, (by repeat (first | (with_reducible exact Below.refl _ _) | (with_reducible apply Below.drew) | (refine Below.alloc ?_ (by simp <;> omega) _)) : Below w.heap.size w _)⟩)
        | (exact ⟨ret_b (N2.out (by assumption)).symm, (by repeat (first | (with_reducible exact Below.refl _ _) | (with_reducible apply Below.drew) | (refine Below.alloc ?_ (by simp <;> omega) _)) : Below w.heap.size w _)⟩)
        | (exact ⟨ret_b (N3.out (by assumption)).symm, (by repeat (first | (with_reducible exact Below.refl _ _) | (with_reducible apply Below.drew) | (refine Below.alloc ?_ (by simp <;> omega) _)) : Below w.heap.size w _)⟩)
        | (exact ⟨ret_b (HY.out (by assumption) (by assumption) (by assumption) g6).symm, (by repeat (first | (with_reducible exact Below.refl _ _) | (with_reducible apply Below.drew) | (refine Below.alloc ?_ (by simp <;> omega) _)) : Below w.heap.size w _)⟩)
        | (exact ⟨ret_b (by by_cases g : a1 = 0; (rw [HY.out g (by assumption) (by assumption) g6]; simp [g]); (rw [N1.out g]; simp [g])), (by repeat (first | (with_reducible exact Below.refl _ _) | (with_reducible apply Below.drew) | (refine Below.alloc ?_ (by simp <;> omega) _)) : Below w.heap.size w _)⟩)
        | (exact ⟨ret_b (by by_cases g : a2 = 0; (rw [HY.out (by assumption) g (by assumption) g6]; simp [g]); (rw [N2.out g]; simp [g])), (by repeat (first | (with_reducible exact Below.refl _ _) | (with_reducible apply Below.drew) | (refine Below.alloc ?_ (by simp <;> omega) _)) : Below w.heap.size w _)⟩)
        | (exact ⟨ret_b (by by_cases g : a3 = 0; (rw [HY.out (by assumption) (by assumption) g g6]; simp [g]); (rw [N3.out g]; simp [g])), (by repeat (first | (with_reducible exact Below.refl _ _) | (with_reducible apply Below.drew) | (refine Below.alloc ?_ (by simp <;> omega) _)) : Below w.heap.size w _)⟩)
  · have fin := Lib.hid (N6.out g6)
    have e6 : (((a6n : Nat) : Int) == 1) = false := beq_eq_false_iff_ne.2 (by omega)
    have e7 : (((a6n : Nat) : Int) != 1) = true := by rw [bne, e6]; rfl
    clear g6
    go_enter Try.func70, Try.ntmps70
    go_wp2
    go_ret
    exact ⟨ret_b fin.out.symm, (by repeat (first | (with_reducible exact Below.refl _ _) | (with_reducible apply Below.drew) | (refine Below.alloc ?_ (by simp <;> omega) _)) : Below w.heap.size w _)⟩

set_option maxHeartbeats 6400000 in
set_option maxRecDepth 100000 in
theorem spec_l4Node_1 {a6 : Option Addr} {c6 : Nat} (x : DExpr) (hk : x.fKind = 1) (hs1 : x.fSymbol.size ≤ 1048576) (hs2 : x.fName.size ≤ 1048576) (w : World) :
    Calls Try.prog 54 #[.agg #[.int .i64 x.fKind, .int .i64 x.fN, .int .i64 x.fPos, .int .i64 x.fType, .string x.fSymbol, .string x.fName, .slice a6 x.fArgs.length c6]] w fun e w' => e = .returned (.bool (validN (nodeOfX x 0))) ∧ Below w.heap.size w w' := by
  have hk2 : (nodeOfX x 0).fKind = 1 := hk
  have HO := Lib.hid (okN_1 hk2)
  obtain ⟨bq, hb⟩ : ∃ bq : Bool, bq = true ↔ Bare (nodeOfX x 0) := by classical exact ⟨decide (Bare (nodeOfX x 0)), decide_eq_true_iff⟩
  have HBARE := Lib.hid (fun W => spec_l4Bare_1 (a6 := a6) (c6 := c6) x hk bq hb W)
  have HYES := Lib.hid (show bq = true → validN (nodeOfX x 0) = okN (nodeOfX x 0) from fun h => validN_of (by rw [hk2]; decide) (hb.1 h))
  have HNO := Lib.hid (show bq = false → validN (nodeOfX x 0) = false from fun h => validN_bare fun hB => by rw [hb.2 hB] at h; cases h)
  have HIN := Lib.hid (show ∀ W, Calls Try.prog 41 #[.int .i64 1, .int .i64 1, .int .i64 8] W fun e w' => e = .returned (.bool true) ∧ W = w' from fun W => by have h := spec_l1In 1 1 8 W; rw [show inR 1 1 8 = true from by decide] at h; exact h)
  have HA := Lib.hid (fun W => spec_l1In x.fType 1 3 W)
  have HT := Lib.hid (fun W => spec_IsOfType x.fN x.fType W)
  rw [show nodeOfX x 0 = ⟨x.fKind, x.fN, x.fPos, x.fType, x.fSymbol, x.fName, x.fArgs.length, 0⟩ from rfl] at HO
  obtain ⟨q3, hq3⟩ : ∃ q3, decide (0 ≤ x.fN) = q3 := ⟨_, rfl⟩
  generalize validN (nodeOfX x 0) = v at *
  generalize hoq : okN (nodeOfX x 0) = q at *
  have HO2 := Lib.hid (show q = (inR x.fType 1 3 && isOf x.fN x.fType && decide (0 ≤ x.fN)) from hoq.symm.trans (okN_1 hk2))
  clear hoq hb hk2 HO
  generalize inR x.fType 1 3 = q1 at *
  generalize isOf x.fN x.fType = q2 at *
  rw [hk] at HBARE ⊢
  clear hk
  generalize x.fN = a1 at *
  generalize x.fPos = a2 at *
  generalize x.fType = a3 at *
  generalize x.fSymbol = a4 at *
  generalize x.fName = a5 at *
  generalize x.fArgs.length = a6n at *
  have HB := Lib.hid ((Below.refl w.heap.size w).alloc (Nat.le_refl _) (.cells #[.int .i64 1, .int .i64 a1, .int .i64 a2, .int .i64 a3, .string a4, .string a5, .slice a6 a6n c6] 32))
  cases bq
  · have fin := Lib.hid (HNO.out rfl)
    go_enter Try.func54, Try.ntmps54
    go_wp2_with fail
    refine (HIN.out _).mono ?_
    rintro e w0 ⟨rfl, rfl⟩
    go_wp2_with fail
    refine (HBARE.out _).mono ?_
    rintro e w1 ⟨rfl, hb1⟩
    have cw1_0 : w1.cell? ⟨w.heap.size, 0, none⟩ = some (.int .i64 1) := (hb1.cell (p := ⟨w.heap.size, 0, none⟩) (by first | (simp; done) | assumption)).trans (by go_simp)
    have cw1_1 : w1.cell? ⟨w.heap.size, 1, none⟩ = some (.int .i64 a1) := (hb1.cell (p := ⟨w.heap.size, 1, none⟩) (by first | (simp; done) | assumption)).trans (by go_simp)
    have cw1_2 : w1.cell? ⟨w.heap.size, 2, none⟩ = some (.int .i64 a2) := (hb1.cell (p := ⟨w.heap.size, 2, none⟩) (by first | (simp; done) | assumption)).trans (by go_simp)
    have cw1_3 : w1.cell? ⟨w.heap.size, 3, none⟩ = some (.int .i64 a3) := (hb1.cell (p := ⟨w.heap.size, 3, none⟩) (by first | (simp; done) | assumption)).trans (by go_simp)
    have cw1_4 : w1.cell? ⟨w.heap.size, 4, none⟩ = some (.string a4) := (hb1.cell (p := ⟨w.heap.size, 4, none⟩) (by first | (simp; done) | assumption)).trans (by go_simp)
    have cw1_5 : w1.cell? ⟨w.heap.size, 5, none⟩ = some (.string a5) := (hb1.cell (p := ⟨w.heap.size, 5, none⟩) (by first | (simp; done) | assumption)).trans (by go_simp)
    have cw1_6 : w1.cell? ⟨w.heap.size, 6, none⟩ = some (.slice a6 a6n c6) := (hb1.cell (p := ⟨w.heap.size, 6, none⟩) (by first | (simp; done) | assumption)).trans (by go_simp)
    have hs9 : w.heap.size < w1.heap.size := Nat.lt_of_lt_of_le (by simp) hb1.size
    have HB1 := Lib.hid (HB.out.trans (hb1.mono HB.out.size))
    clear hb1
    go_wp2
    go_ret
    exact ⟨ret_b fin.out.symm, HB1.out⟩
  · have HV := Lib.hid (HYES.out rfl)
    cases q1
    · skip
      go_enter Try.func54, Try.ntmps54
      go_wp2_with fail
      refine (HIN.out _).mono ?_
      rintro e w0 ⟨rfl, rfl⟩
      go_wp2_with fail
      refine (HBARE.out _).mono ?_
      rintro e w1 ⟨rfl, hb1⟩
      have cw1_0 : w1.cell? ⟨w.heap.size, 0, none⟩ = some (.int .i64 1) := (hb1.cell (p := ⟨w.heap.size, 0, none⟩) (by first | (simp; done) | assumption)).trans (by go_simp)
      have cw1_1 : w1.cell? ⟨w.heap.size, 1, none⟩ = some (.int .i64 a1) := (hb1.cell (p := ⟨w.heap.size, 1, none⟩) (by first | (simp; done) | assumption)).trans (by go_simp)
      have cw1_2 : w1.cell? ⟨w.heap.size, 2, none⟩ = some (.int .i64 a2) := (hb1.cell (p := ⟨w.heap.size, 2, none⟩) (by first | (simp; done) | assumption)).trans (by go_simp)
      have cw1_3 : w1.cell? ⟨w.heap.size, 3, none⟩ = some (.int .i64 a3) := (hb1.cell (p := ⟨w.heap.size, 3, none⟩) (by first | (simp; done) | assumption)).trans (by go_simp)
      have cw1_4 : w1.cell? ⟨w.heap.size, 4, none⟩ = some (.string a4) := (hb1.cell (p := ⟨w.heap.size, 4, none⟩) (by first | (simp; done) | assumption)).trans (by go_simp)
      have cw1_5 : w1.cell? ⟨w.heap.size, 5, none⟩ = some (.string a5) := (hb1.cell (p := ⟨w.heap.size, 5, none⟩) (by first | (simp; done) | assumption)).trans (by go_simp)
      have cw1_6 : w1.cell? ⟨w.heap.size, 6, none⟩ = some (.slice a6 a6n c6) := (hb1.cell (p := ⟨w.heap.size, 6, none⟩) (by first | (simp; done) | assumption)).trans (by go_simp)
      have hs9 : w.heap.size < w1.heap.size := Nat.lt_of_lt_of_le (by simp) hb1.size
      have HB1 := Lib.hid (HB.out.trans (hb1.mono HB.out.size))
      clear hb1
      go_wp2_with fail
      refine (HA.out _).mono ?_
      rintro e w9 ⟨rfl, rfl⟩
      go_wp2
      go_ret
      exact ⟨ret_b (by rw [HV.out, HO2.out]; rfl), HB1.out⟩
    · cases q2
      · skip
        go_enter Try.func54, Try.ntmps54
        go_wp2_with fail
        refine (HIN.out _).mono ?_
        rintro e w0 ⟨rfl, rfl⟩
        go_wp2_with fail
        refine (HBARE.out _).mono ?_
        rintro e w1 ⟨rfl, hb1⟩
        have cw1_0 : w1.cell? ⟨w.heap.size, 0, none⟩ = some (.int .i64 1) := (hb1.cell (p := ⟨w.heap.size, 0, none⟩) (by first | (simp; done) | assumption)).trans (by go_simp)
        have cw1_1 : w1.cell? ⟨w.heap.size, 1, none⟩ = some (.int .i64 a1) := (hb1.cell (p := ⟨w.heap.size, 1, none⟩) (by first | (simp; done) | assumption)).trans (by go_simp)
        have cw1_2 : w1.cell? ⟨w.heap.size, 2, none⟩ = some (.int .i64 a2) := (hb1.cell (p := ⟨w.heap.size, 2, none⟩) (by first | (simp; done) | assumption)).trans (by go_simp)
        have cw1_3 : w1.cell? ⟨w.heap.size, 3, none⟩ = some (.int .i64 a3) := (hb1.cell (p := ⟨w.heap.size, 3, none⟩) (by first | (simp; done) | assumption)).trans (by go_simp)
        have cw1_4 : w1.cell? ⟨w.heap.size, 4, none⟩ = some (.string a4) := (hb1.cell (p := ⟨w.heap.size, 4, none⟩) (by first | (simp; done) | assumption)).trans (by go_simp)
        have cw1_5 : w1.cell? ⟨w.heap.size, 5, none⟩ = some (.string a5) := (hb1.cell (p := ⟨w.heap.size, 5, none⟩) (by first | (simp; done) | assumption)).trans (by go_simp)
        have cw1_6 : w1.cell? ⟨w.heap.size, 6, none⟩ = some (.slice a6 a6n c6) := (hb1.cell (p := ⟨w.heap.size, 6, none⟩) (by first | (simp; done) | assumption)).trans (by go_simp)
        have hs9 : w.heap.size < w1.heap.size := Nat.lt_of_lt_of_le (by simp) hb1.size
        have HB1 := Lib.hid (HB.out.trans (hb1.mono HB.out.size))
        clear hb1
        go_wp2_with fail
        refine (HA.out _).mono ?_
        rintro e w9 ⟨rfl, rfl⟩
        go_wp2_with fail
        refine (HT.out _).mono ?_
        rintro e w9 ⟨rfl, rfl⟩
        go_wp2
        go_ret
        exact ⟨ret_b (by rw [HV.out, HO2.out]; rfl), HB1.out⟩
      · skip
        go_enter Try.func54, Try.ntmps54
        go_wp2_with fail
        refine (HIN.out _).mono ?_
        rintro e w0 ⟨rfl, rfl⟩
        go_wp2_with fail
        refine (HBARE.out _).mono ?_
        rintro e w1 ⟨rfl, hb1⟩
        have cw1_0 : w1.cell? ⟨w.heap.size, 0, none⟩ = some (.int .i64 1) := (hb1.cell (p := ⟨w.heap.size, 0, none⟩) (by first | (simp; done) | assumption)).trans (by go_simp)
        have cw1_1 : w1.cell? ⟨w.heap.size, 1, none⟩ = some (.int .i64 a1) := (hb1.cell (p := ⟨w.heap.size, 1, none⟩) (by first | (simp; done) | assumption)).trans (by go_simp)
        have cw1_2 : w1.cell? ⟨w.heap.size, 2, none⟩ = some (.int .i64 a2) := (hb1.cell (p := ⟨w.heap.size, 2, none⟩) (by first | (simp; done) | assumption)).trans (by go_simp)
        have cw1_3 : w1.cell? ⟨w.heap.size, 3, none⟩ = some (.int .i64 a3) := (hb1.cell (p := ⟨w.heap.size, 3, none⟩) (by first | (simp; done) | assumption)).trans (by go_simp)
        have cw1_4 : w1.cell? ⟨w.heap.size, 4, none⟩ = some (.string a4) := (hb1.cell (p := ⟨w.heap.size, 4, none⟩) (by first | (simp; done) | assumption)).trans (by go_simp)
        have cw1_5 : w1.cell? ⟨w.heap.size, 5, none⟩ = some (.string a5) := (hb1.cell (p := ⟨w.heap.size, 5, none⟩) (by first | (simp; done) | assumption)).trans (by go_simp)
        have cw1_6 : w1.cell? ⟨w.heap.size, 6, none⟩ = some (.slice a6 a6n c6) := (hb1.cell (p := ⟨w.heap.size, 6, none⟩) (by first | (simp; done) | assumption)).trans (by go_simp)
        have hs9 : w.heap.size < w1.heap.size := Nat.lt_of_lt_of_le (by simp) hb1.size
        have HB1 := Lib.hid (HB.out.trans (hb1.mono HB.out.size))
        clear hb1
        go_wp2_with fail
        refine (HA.out _).mono ?_
        rintro e w9 ⟨rfl, rfl⟩
        go_wp2_with fail
        refine (HT.out _).mono ?_
        rintro e w9 ⟨rfl, rfl⟩
        go_wp2
        go_ret
        exact ⟨ret_b (by rw [HV.out, HO2.out, Bool.true_and, Bool.true_and]; first | exact hq3 | exact hq3.symm | rfl | (simp [hq3]; done) | (simp [← hq3]; done)), HB1.out⟩

set_option maxHeartbeats 6400000 in
set_option maxRecDepth 100000 in
theorem spec_l4Node_2 {a6 : Option Addr} {c6 : Nat} (x : DExpr) (hk : x.fKind = 2) (hs1 : x.fSymbol.size ≤ 1048576) (hs2 : x.fName.size ≤ 1048576) (w : World) :
    Calls Try.prog 54 #[.agg #[.int .i64 x.fKind, .int .i64 x.fN, .int .i64 x.fPos, .int .i64 x.fType, .string x.fSymbol, .string x.fName, .slice a6 x.fArgs.length c6]] w fun e w' => e = .returned (.bool (validN (nodeOfX x 0))) ∧ Below w.heap.size w w' := by
  have hk2 : (nodeOfX x 0).fKind = 2 := hk
  have HO := Lib.hid (okN_2 hk2)
  obtain ⟨bq, hb⟩ : ∃ bq : Bool, bq = true ↔ Bare (nodeOfX x 0) := by classical exact ⟨decide (Bare (nodeOfX x 0)), decide_eq_true_iff⟩
  have HBARE := Lib.hid (fun W => spec_l4Bare_2 (a6 := a6) (c6 := c6) x hk bq hb W)
  have HYES := Lib.hid (show bq = true → validN (nodeOfX x 0) = okN (nodeOfX x 0) from fun h => validN_of (by rw [hk2]; decide) (hb.1 h))
  have HNO := Lib.hid (show bq = false → validN (nodeOfX x 0) = false from fun h => validN_bare fun hB => by rw [hb.2 hB] at h; cases h)
  have HIN := Lib.hid (show ∀ W, Calls Try.prog 41 #[.int .i64 2, .int .i64 1, .int .i64 8] W fun e w' => e = .returned (.bool true) ∧ W = w' from fun W => by have h := spec_l1In 2 1 8 W; rw [show inR 2 1 8 = true from by decide] at h; exact h)
  rw [show nodeOfX x 0 = ⟨x.fKind, x.fN, x.fPos, x.fType, x.fSymbol, x.fName, x.fArgs.length, 0⟩ from rfl] at HO
  generalize validN (nodeOfX x 0) = v at *
  generalize hoq : okN (nodeOfX x 0) = q at *
  have HO2 := Lib.hid (show q = (true) from hoq.symm.trans (okN_2 hk2))
  clear hoq hb hk2 HO
  rw [hk] at HBARE ⊢
  clear hk
  generalize x.fN = a1 at *
  generalize x.fPos = a2 at *
  generalize x.fType = a3 at *
  generalize x.fSymbol = a4 at *
  generalize x.fName = a5 at *
  generalize x.fArgs.length = a6n at *
  have HB := Lib.hid ((Below.refl w.heap.size w).alloc (Nat.le_refl _) (.cells #[.int .i64 2, .int .i64 a1, .int .i64 a2, .int .i64 a3, .string a4, .string a5, .slice a6 a6n c6] 32))
  cases bq
  · have fin := Lib.hid (HNO.out rfl)
    go_enter Try.func54, Try.ntmps54
    go_wp2_with fail
    refine (HIN.out _).mono ?_
    rintro e w0 ⟨rfl, rfl⟩
    go_wp2_with fail
    refine (HBARE.out _).mono ?_
    rintro e w1 ⟨rfl, hb1⟩
    have cw1_0 : w1.cell? ⟨w.heap.size, 0, none⟩ = some (.int .i64 2) := (hb1.cell (p := ⟨w.heap.size, 0, none⟩) (by first | (simp; done) | assumption)).trans (by go_simp)
    have cw1_1 : w1.cell? ⟨w.heap.size, 1, none⟩ = some (.int .i64 a1) := (hb1.cell (p := ⟨w.heap.size, 1, none⟩) (by first | (simp; done) | assumption)).trans (by go_simp)
    have cw1_2 : w1.cell? ⟨w.heap.size, 2, none⟩ = some (.int .i64 a2) := (hb1.cell (p := ⟨w.heap.size, 2, none⟩) (by first | (simp; done) | assumption)).trans (by go_simp)
    have cw1_3 : w1.cell? ⟨w.heap.size, 3, none⟩ = some (.int .i64 a3) := (hb1.cell (p := ⟨w.heap.size, 3, none⟩) (by first | (simp; done) | assumption)).trans (by go_simp)
    have cw1_4 : w1.cell? ⟨w.heap.size, 4, none⟩ = some (.string a4) := (hb1.cell (p := ⟨w.heap.size, 4, none⟩) (by first | (simp; done) | assumption)).trans (by go_simp)
    have cw1_5 : w1.cell? ⟨w.heap.size, 5, none⟩ = some (.string a5) := (hb1.cell (p := ⟨w.heap.size, 5, none⟩) (by first | (simp; done) | assumption)).trans (by go_simp)
    have cw1_6 : w1.cell? ⟨w.heap.size, 6, none⟩ = some (.slice a6 a6n c6) := (hb1.cell (p := ⟨w.heap.size, 6, none⟩) (by first | (simp; done) | assumption)).trans (by go_simp)
    have hs9 : w.heap.size < w1.heap.size := Nat.lt_of_lt_of_le (by simp) hb1.size
    have HB1 := Lib.hid (HB.out.trans (hb1.mono HB.out.size))
    clear hb1
    go_wp2
    go_ret
    exact ⟨ret_b fin.out.symm, HB1.out⟩
  · have HV := Lib.hid (HYES.out rfl)
    go_enter Try.func54, Try.ntmps54
    go_wp2_with fail
    refine (HIN.out _).mono ?_
    rintro e w0 ⟨rfl, rfl⟩
    go_wp2_with fail
    refine (HBARE.out _).mono ?_
    rintro e w1 ⟨rfl, hb1⟩
    have cw1_0 : w1.cell? ⟨w.heap.size, 0, none⟩ = some (.int .i64 2) := (hb1.cell (p := ⟨w.heap.size, 0, none⟩) (by first | (simp; done) | assumption)).trans (by go_simp)
    have cw1_1 : w1.cell? ⟨w.heap.size, 1, none⟩ = some (.int .i64 a1) := (hb1.cell (p := ⟨w.heap.size, 1, none⟩) (by first | (simp; done) | assumption)).trans (by go_simp)
    have cw1_2 : w1.cell? ⟨w.heap.size, 2, none⟩ = some (.int .i64 a2) := (hb1.cell (p := ⟨w.heap.size, 2, none⟩) (by first | (simp; done) | assumption)).trans (by go_simp)
    have cw1_3 : w1.cell? ⟨w.heap.size, 3, none⟩ = some (.int .i64 a3) := (hb1.cell (p := ⟨w.heap.size, 3, none⟩) (by first | (simp; done) | assumption)).trans (by go_simp)
    have cw1_4 : w1.cell? ⟨w.heap.size, 4, none⟩ = some (.string a4) := (hb1.cell (p := ⟨w.heap.size, 4, none⟩) (by first | (simp; done) | assumption)).trans (by go_simp)
    have cw1_5 : w1.cell? ⟨w.heap.size, 5, none⟩ = some (.string a5) := (hb1.cell (p := ⟨w.heap.size, 5, none⟩) (by first | (simp; done) | assumption)).trans (by go_simp)
    have cw1_6 : w1.cell? ⟨w.heap.size, 6, none⟩ = some (.slice a6 a6n c6) := (hb1.cell (p := ⟨w.heap.size, 6, none⟩) (by first | (simp; done) | assumption)).trans (by go_simp)
    have hs9 : w.heap.size < w1.heap.size := Nat.lt_of_lt_of_le (by simp) hb1.size
    have HB1 := Lib.hid (HB.out.trans (hb1.mono HB.out.size))
    clear hb1
    go_wp2
    go_ret
    exact ⟨ret_b (by rw [HV.out, HO2.out]), HB1.out⟩

set_option maxHeartbeats 6400000 in
set_option maxRecDepth 100000 in
theorem spec_l4Node_3 {a6 : Option Addr} {c6 : Nat} (x : DExpr) (hk : x.fKind = 3) (hs1 : x.fSymbol.size ≤ 1048576) (hs2 : x.fName.size ≤ 1048576) (w : World) :
    Calls Try.prog 54 #[.agg #[.int .i64 x.fKind, .int .i64 x.fN, .int .i64 x.fPos, .int .i64 x.fType, .string x.fSymbol, .string x.fName, .slice a6 x.fArgs.length c6]] w fun e w' => e = .returned (.bool (validN (nodeOfX x 0))) ∧ Below w.heap.size w w' := by
  have hk2 : (nodeOfX x 0).fKind = 3 := hk
  have HO := Lib.hid (okN_3 hk2)
  obtain ⟨bq, hb⟩ : ∃ bq : Bool, bq = true ↔ Bare (nodeOfX x 0) := by classical exact ⟨decide (Bare (nodeOfX x 0)), decide_eq_true_iff⟩
  have HBARE := Lib.hid (fun W => spec_l4Bare_3 (a6 := a6) (c6 := c6) x hk bq hb W)
  have HYES := Lib.hid (show bq = true → validN (nodeOfX x 0) = okN (nodeOfX x 0) from fun h => validN_of (by rw [hk2]; decide) (hb.1 h))
  have HNO := Lib.hid (show bq = false → validN (nodeOfX x 0) = false from fun h => validN_bare fun hB => by rw [hb.2 hB] at h; cases h)
  have HIN := Lib.hid (show ∀ W, Calls Try.prog 41 #[.int .i64 3, .int .i64 1, .int .i64 8] W fun e w' => e = .returned (.bool true) ∧ W = w' from fun W => by have h := spec_l1In 3 1 8 W; rw [show inR 3 1 8 = true from by decide] at h; exact h)
  have HA := Lib.hid (fun W => spec_l1In x.fPos 0 3 W)
  have HT := Lib.hid (fun W => spec_IsValidName x.fName hs2 W)
  rw [show nodeOfX x 0 = ⟨x.fKind, x.fN, x.fPos, x.fType, x.fSymbol, x.fName, x.fArgs.length, 0⟩ from rfl] at HO
  generalize validN (nodeOfX x 0) = v at *
  generalize hoq : okN (nodeOfX x 0) = q at *
  have HO2 := Lib.hid (show q = (inR x.fPos 0 3 && validName x.fName) from hoq.symm.trans (okN_3 hk2))
  clear hoq hb hk2 HO
  generalize inR x.fPos 0 3 = q1 at *
  generalize validName x.fName = q2 at *
  rw [hk] at HBARE ⊢
  clear hk
  generalize x.fN = a1 at *
  generalize x.fPos = a2 at *
  generalize x.fType = a3 at *
  generalize x.fSymbol = a4 at *
  generalize x.fName = a5 at *
  generalize x.fArgs.length = a6n at *
  have HB := Lib.hid ((Below.refl w.heap.size w).alloc (Nat.le_refl _) (.cells #[.int .i64 3, .int .i64 a1, .int .i64 a2, .int .i64 a3, .string a4, .string a5, .slice a6 a6n c6] 32))
  cases bq
  · have fin := Lib.hid (HNO.out rfl)
    go_enter Try.func54, Try.ntmps54
    go_wp2_with fail
    refine (HIN.out _).mono ?_
    rintro e w0 ⟨rfl, rfl⟩
    go_wp2_with fail
    refine (HBARE.out _).mono ?_
    rintro e w1 ⟨rfl, hb1⟩
    have cw1_0 : w1.cell? ⟨w.heap.size, 0, none⟩ = some (.int .i64 3) := (hb1.cell (p := ⟨w.heap.size, 0, none⟩) (by first | (simp; done) | assumption)).trans (by go_simp)
    have cw1_1 : w1.cell? ⟨w.heap.size, 1, none⟩ = some (.int .i64 a1) := (hb1.cell (p := ⟨w.heap.size, 1, none⟩) (by first | (simp; done) | assumption)).trans (by go_simp)
    have cw1_2 : w1.cell? ⟨w.heap.size, 2, none⟩ = some (.int .i64 a2) := (hb1.cell (p := ⟨w.heap.size, 2, none⟩) (by first | (simp; done) | assumption)).trans (by go_simp)
    have cw1_3 : w1.cell? ⟨w.heap.size, 3, none⟩ = some (.int .i64 a3) := (hb1.cell (p := ⟨w.heap.size, 3, none⟩) (by first | (simp; done) | assumption)).trans (by go_simp)
    have cw1_4 : w1.cell? ⟨w.heap.size, 4, none⟩ = some (.string a4) := (hb1.cell (p := ⟨w.heap.size, 4, none⟩) (by first | (simp; done) | assumption)).trans (by go_simp)
    have cw1_5 : w1.cell? ⟨w.heap.size, 5, none⟩ = some (.string a5) := (hb1.cell (p := ⟨w.heap.size, 5, none⟩) (by first | (simp; done) | assumption)).trans (by go_simp)
    have cw1_6 : w1.cell? ⟨w.heap.size, 6, none⟩ = some (.slice a6 a6n c6) := (hb1.cell (p := ⟨w.heap.size, 6, none⟩) (by first | (simp; done) | assumption)).trans (by go_simp)
    have hs9 : w.heap.size < w1.heap.size := Nat.lt_of_lt_of_le (by simp) hb1.size
    have HB1 := Lib.hid (HB.out.trans (hb1.mono HB.out.size))
    clear hb1
    go_wp2
    go_ret
    exact ⟨ret_b fin.out.symm, HB1.out⟩
  · have HV := Lib.hid (HYES.out rfl)
    cases q1
    · skip
      go_enter Try.func54, Try.ntmps54
      go_wp2_with fail
      refine (HIN.out _).mono ?_
      rintro e w0 ⟨rfl, rfl⟩
      go_wp2_with fail
      refine (HBARE.out _).mono ?_
      rintro e w1 ⟨rfl, hb1⟩
      have cw1_0 : w1.cell? ⟨w.heap.size, 0, none⟩ = some (.int .i64 3) := (hb1.cell (p := ⟨w.heap.size, 0, none⟩) (by first | (simp; done) | assumption)).trans (by go_simp)
      have cw1_1 : w1.cell? ⟨w.heap.size, 1, none⟩ = some (.int .i64 a1) := (hb1.cell (p := ⟨w.heap.size, 1, none⟩) (by first | (simp; done) | assumption)).trans (by go_simp)
      have cw1_2 : w1.cell? ⟨w.heap.size, 2, none⟩ = some (.int .i64 a2) := (hb1.cell (p := ⟨w.heap.size, 2, none⟩) (by first | (simp; done) | assumption)).trans (by go_simp)
      have cw1_3 : w1.cell? ⟨w.heap.size, 3, none⟩ = some (.int .i64 a3) := (hb1.cell (p := ⟨w.heap.size, 3, none⟩) (by first | (simp; done) | assumption)).trans (by go_simp)
      have cw1_4 : w1.cell? ⟨w.heap.size, 4, none⟩ = some (.string a4) := (hb1.cell (p := ⟨w.heap.size, 4, none⟩) (by first | (simp; done) | assumption)).trans (by go_simp)
      have cw1_5 : w1.cell? ⟨w.heap.size, 5, none⟩ = some (.string a5) := (hb1.cell (p := ⟨w.heap.size, 5, none⟩) (by first | (simp; done) | assumption)).trans (by go_simp)
      have cw1_6 : w1.cell? ⟨w.heap.size, 6, none⟩ = some (.slice a6 a6n c6) := (hb1.cell (p := ⟨w.heap.size, 6, none⟩) (by first | (simp; done) | assumption)).trans (by go_simp)
      have hs9 : w.heap.size < w1.heap.size := Nat.lt_of_lt_of_le (by simp) hb1.size
      have HB1 := Lib.hid (HB.out.trans (hb1.mono HB.out.size))
      clear hb1
      go_wp2_with fail
      refine (HA.out _).mono ?_
      rintro e w9 ⟨rfl, rfl⟩
      go_wp2
      go_ret
      exact ⟨ret_b (by rw [HV.out, HO2.out]; rfl), HB1.out⟩
    · skip
      go_enter Try.func54, Try.ntmps54
      go_wp2_with fail
      refine (HIN.out _).mono ?_
      rintro e w0 ⟨rfl, rfl⟩
      go_wp2_with fail
      refine (HBARE.out _).mono ?_
      rintro e w1 ⟨rfl, hb1⟩
      have cw1_0 : w1.cell? ⟨w.heap.size, 0, none⟩ = some (.int .i64 3) := (hb1.cell (p := ⟨w.heap.size, 0, none⟩) (by first | (simp; done) | assumption)).trans (by go_simp)
      have cw1_1 : w1.cell? ⟨w.heap.size, 1, none⟩ = some (.int .i64 a1) := (hb1.cell (p := ⟨w.heap.size, 1, none⟩) (by first | (simp; done) | assumption)).trans (by go_simp)
      have cw1_2 : w1.cell? ⟨w.heap.size, 2, none⟩ = some (.int .i64 a2) := (hb1.cell (p := ⟨w.heap.size, 2, none⟩) (by first | (simp; done) | assumption)).trans (by go_simp)
      have cw1_3 : w1.cell? ⟨w.heap.size, 3, none⟩ = some (.int .i64 a3) := (hb1.cell (p := ⟨w.heap.size, 3, none⟩) (by first | (simp; done) | assumption)).trans (by go_simp)
      have cw1_4 : w1.cell? ⟨w.heap.size, 4, none⟩ = some (.string a4) := (hb1.cell (p := ⟨w.heap.size, 4, none⟩) (by first | (simp; done) | assumption)).trans (by go_simp)
      have cw1_5 : w1.cell? ⟨w.heap.size, 5, none⟩ = some (.string a5) := (hb1.cell (p := ⟨w.heap.size, 5, none⟩) (by first | (simp; done) | assumption)).trans (by go_simp)
      have cw1_6 : w1.cell? ⟨w.heap.size, 6, none⟩ = some (.slice a6 a6n c6) := (hb1.cell (p := ⟨w.heap.size, 6, none⟩) (by first | (simp; done) | assumption)).trans (by go_simp)
      have hs9 : w.heap.size < w1.heap.size := Nat.lt_of_lt_of_le (by simp) hb1.size
      have HB1 := Lib.hid (HB.out.trans (hb1.mono HB.out.size))
      clear hb1
      go_wp2_with fail
      refine (HA.out _).mono ?_
      rintro e w9 ⟨rfl, rfl⟩
      go_wp2_with fail
      refine (HT.out _).mono ?_
      rintro e w3 ⟨rfl, hb3⟩
      have HB3 := Lib.hid (HB1.out.trans (hb3.mono HB1.out.size))
      clear hb3
      go_wp2
      go_ret
      exact ⟨ret_b (by rw [HV.out, HO2.out]; simp), HB3.out⟩

set_option maxHeartbeats 6400000 in
set_option maxRecDepth 100000 in
theorem spec_l4Node_4 {a6 : Option Addr} {c6 : Nat} (x : DExpr) (hk : x.fKind = 4) (hs1 : x.fSymbol.size ≤ 1048576) (hs2 : x.fName.size ≤ 1048576) (w : World) :
    Calls Try.prog 54 #[.agg #[.int .i64 x.fKind, .int .i64 x.fN, .int .i64 x.fPos, .int .i64 x.fType, .string x.fSymbol, .string x.fName, .slice a6 x.fArgs.length c6]] w fun e w' => e = .returned (.bool (validN (nodeOfX x 0))) ∧ Below w.heap.size w w' := by
  have hk2 : (nodeOfX x 0).fKind = 4 := hk
  have HO := Lib.hid (okN_4 hk2)
  obtain ⟨bq, hb⟩ : ∃ bq : Bool, bq = true ↔ Bare (nodeOfX x 0) := by classical exact ⟨decide (Bare (nodeOfX x 0)), decide_eq_true_iff⟩
  have HBARE := Lib.hid (fun W => spec_l4Bare_4 (a6 := a6) (c6 := c6) x hk bq hb W)
  have HYES := Lib.hid (show bq = true → validN (nodeOfX x 0) = okN (nodeOfX x 0) from fun h => validN_of (by rw [hk2]; decide) (hb.1 h))
  have HNO := Lib.hid (show bq = false → validN (nodeOfX x 0) = false from fun h => validN_bare fun hB => by rw [hb.2 hB] at h; cases h)
  have HIN := Lib.hid (show ∀ W, Calls Try.prog 41 #[.int .i64 4, .int .i64 1, .int .i64 8] W fun e w' => e = .returned (.bool true) ∧ W = w' from fun W => by have h := spec_l1In 4 1 8 W; rw [show inR 4 1 8 = true from by decide] at h; exact h)
  have HA := Lib.hid (fun W => spec_l1In x.fN 1 12 W)
  rw [show nodeOfX x 0 = ⟨x.fKind, x.fN, x.fPos, x.fType, x.fSymbol, x.fName, x.fArgs.length, 0⟩ from rfl] at HO
  generalize validN (nodeOfX x 0) = v at *
  generalize hoq : okN (nodeOfX x 0) = q at *
  have HO2 := Lib.hid (show q = (inR x.fN 1 12) from hoq.symm.trans (okN_4 hk2))
  clear hoq hb hk2 HO
  generalize inR x.fN 1 12 = q1 at *
  rw [hk] at HBARE ⊢
  clear hk
  generalize x.fN = a1 at *
  generalize x.fPos = a2 at *
  generalize x.fType = a3 at *
  generalize x.fSymbol = a4 at *
  generalize x.fName = a5 at *
  generalize x.fArgs.length = a6n at *
  have HB := Lib.hid ((Below.refl w.heap.size w).alloc (Nat.le_refl _) (.cells #[.int .i64 4, .int .i64 a1, .int .i64 a2, .int .i64 a3, .string a4, .string a5, .slice a6 a6n c6] 32))
  cases bq
  · have fin := Lib.hid (HNO.out rfl)
    go_enter Try.func54, Try.ntmps54
    go_wp2_with fail
    refine (HIN.out _).mono ?_
    rintro e w0 ⟨rfl, rfl⟩
    go_wp2_with fail
    refine (HBARE.out _).mono ?_
    rintro e w1 ⟨rfl, hb1⟩
    have cw1_0 : w1.cell? ⟨w.heap.size, 0, none⟩ = some (.int .i64 4) := (hb1.cell (p := ⟨w.heap.size, 0, none⟩) (by first | (simp; done) | assumption)).trans (by go_simp)
    have cw1_1 : w1.cell? ⟨w.heap.size, 1, none⟩ = some (.int .i64 a1) := (hb1.cell (p := ⟨w.heap.size, 1, none⟩) (by first | (simp; done) | assumption)).trans (by go_simp)
    have cw1_2 : w1.cell? ⟨w.heap.size, 2, none⟩ = some (.int .i64 a2) := (hb1.cell (p := ⟨w.heap.size, 2, none⟩) (by first | (simp; done) | assumption)).trans (by go_simp)
    have cw1_3 : w1.cell? ⟨w.heap.size, 3, none⟩ = some (.int .i64 a3) := (hb1.cell (p := ⟨w.heap.size, 3, none⟩) (by first | (simp; done) | assumption)).trans (by go_simp)
    have cw1_4 : w1.cell? ⟨w.heap.size, 4, none⟩ = some (.string a4) := (hb1.cell (p := ⟨w.heap.size, 4, none⟩) (by first | (simp; done) | assumption)).trans (by go_simp)
    have cw1_5 : w1.cell? ⟨w.heap.size, 5, none⟩ = some (.string a5) := (hb1.cell (p := ⟨w.heap.size, 5, none⟩) (by first | (simp; done) | assumption)).trans (by go_simp)
    have cw1_6 : w1.cell? ⟨w.heap.size, 6, none⟩ = some (.slice a6 a6n c6) := (hb1.cell (p := ⟨w.heap.size, 6, none⟩) (by first | (simp; done) | assumption)).trans (by go_simp)
    have hs9 : w.heap.size < w1.heap.size := Nat.lt_of_lt_of_le (by simp) hb1.size
    have HB1 := Lib.hid (HB.out.trans (hb1.mono HB.out.size))
    clear hb1
    go_wp2
    go_ret
    exact ⟨ret_b fin.out.symm, HB1.out⟩
  · have HV := Lib.hid (HYES.out rfl)
    go_enter Try.func54, Try.ntmps54
    go_wp2_with fail
    refine (HIN.out _).mono ?_
    rintro e w0 ⟨rfl, rfl⟩
    go_wp2_with fail
    refine (HBARE.out _).mono ?_
    rintro e w1 ⟨rfl, hb1⟩
    have cw1_0 : w1.cell? ⟨w.heap.size, 0, none⟩ = some (.int .i64 4) := (hb1.cell (p := ⟨w.heap.size, 0, none⟩) (by first | (simp; done) | assumption)).trans (by go_simp)
    have cw1_1 : w1.cell? ⟨w.heap.size, 1, none⟩ = some (.int .i64 a1) := (hb1.cell (p := ⟨w.heap.size, 1, none⟩) (by first | (simp; done) | assumption)).trans (by go_simp)
    have cw1_2 : w1.cell? ⟨w.heap.size, 2, none⟩ = some (.int .i64 a2) := (hb1.cell (p := ⟨w.heap.size, 2, none⟩) (by first | (simp; done) | assumption)).trans (by go_simp)
    have cw1_3 : w1.cell? ⟨w.heap.size, 3, none⟩ = some (.int .i64 a3) := (hb1.cell (p := ⟨w.heap.size, 3, none⟩) (by first | (simp; done) | assumption)).trans (by go_simp)
    have cw1_4 : w1.cell? ⟨w.heap.size, 4, none⟩ = some (.string a4) := (hb1.cell (p := ⟨w.heap.size, 4, none⟩) (by first | (simp; done) | assumption)).trans (by go_simp)
    have cw1_5 : w1.cell? ⟨w.heap.size, 5, none⟩ = some (.string a5) := (hb1.cell (p := ⟨w.heap.size, 5, none⟩) (by first | (simp; done) | assumption)).trans (by go_simp)
    have cw1_6 : w1.cell? ⟨w.heap.size, 6, none⟩ = some (.slice a6 a6n c6) := (hb1.cell (p := ⟨w.heap.size, 6, none⟩) (by first | (simp; done) | assumption)).trans (by go_simp)
    have hs9 : w.heap.size < w1.heap.size := Nat.lt_of_lt_of_le (by simp) hb1.size
    have HB1 := Lib.hid (HB.out.trans (hb1.mono HB.out.size))
    clear hb1
    go_wp2_with fail
    refine (HA.out _).mono ?_
    rintro e w9 ⟨rfl, rfl⟩
    go_wp2
    go_ret
    exact ⟨ret_b (by rw [HV.out, HO2.out]), HB1.out⟩

set_option maxHeartbeats 6400000 in
set_option maxRecDepth 100000 in
theorem spec_l4Node_5 {a6 : Option Addr} {c6 : Nat} (x : DExpr) (hk : x.fKind = 5) (hs1 : x.fSymbol.size ≤ 1048576) (hs2 : x.fName.size ≤ 1048576) (w : World) :
    Calls Try.prog 54 #[.agg #[.int .i64 x.fKind, .int .i64 x.fN, .int .i64 x.fPos, .int .i64 x.fType, .string x.fSymbol, .string x.fName, .slice a6 x.fArgs.length c6]] w fun e w' => e = .returned (.bool (validN (nodeOfX x 0))) ∧ Below w.heap.size w w' := by
  have hk2 : (nodeOfX x 0).fKind = 5 := hk
  have HO := Lib.hid (okN_5 hk2)
  obtain ⟨bq, hb⟩ : ∃ bq : Bool, bq = true ↔ Bare (nodeOfX x 0) := by classical exact ⟨decide (Bare (nodeOfX x 0)), decide_eq_true_iff⟩
  have HBARE := Lib.hid (fun W => spec_l4Bare_5 (a6 := a6) (c6 := c6) x hk bq hb W)
  have HYES := Lib.hid (show bq = true → validN (nodeOfX x 0) = okN (nodeOfX x 0) from fun h => validN_of (by rw [hk2]; decide) (hb.1 h))
  have HNO := Lib.hid (show bq = false → validN (nodeOfX x 0) = false from fun h => validN_bare fun hB => by rw [hb.2 hB] at h; cases h)
  have HIN := Lib.hid (show ∀ W, Calls Try.prog 41 #[.int .i64 5, .int .i64 1, .int .i64 8] W fun e w' => e = .returned (.bool true) ∧ W = w' from fun W => by have h := spec_l1In 5 1 8 W; rw [show inR 5 1 8 = true from by decide] at h; exact h)
  rw [show nodeOfX x 0 = ⟨x.fKind, x.fN, x.fPos, x.fType, x.fSymbol, x.fName, x.fArgs.length, 0⟩ from rfl] at HO
  generalize validN (nodeOfX x 0) = v at *
  generalize hoq : okN (nodeOfX x 0) = q at *
  have HO2 := Lib.hid (show q = (true) from hoq.symm.trans (okN_5 hk2))
  clear hoq hb hk2 HO
  rw [hk] at HBARE ⊢
  clear hk
  generalize x.fN = a1 at *
  generalize x.fPos = a2 at *
  generalize x.fType = a3 at *
  generalize x.fSymbol = a4 at *
  generalize x.fName = a5 at *
  generalize x.fArgs.length = a6n at *
  have HB := Lib.hid ((Below.refl w.heap.size w).alloc (Nat.le_refl _) (.cells #[.int .i64 5, .int .i64 a1, .int .i64 a2, .int .i64 a3, .string a4, .string a5, .slice a6 a6n c6] 32))
  cases bq
  · have fin := Lib.hid (HNO.out rfl)
    go_enter Try.func54, Try.ntmps54
    go_wp2_with fail
    refine (HIN.out _).mono ?_
    rintro e w0 ⟨rfl, rfl⟩
    go_wp2_with fail
    refine (HBARE.out _).mono ?_
    rintro e w1 ⟨rfl, hb1⟩
    have cw1_0 : w1.cell? ⟨w.heap.size, 0, none⟩ = some (.int .i64 5) := (hb1.cell (p := ⟨w.heap.size, 0, none⟩) (by first | (simp; done) | assumption)).trans (by go_simp)
    have cw1_1 : w1.cell? ⟨w.heap.size, 1, none⟩ = some (.int .i64 a1) := (hb1.cell (p := ⟨w.heap.size, 1, none⟩) (by first | (simp; done) | assumption)).trans (by go_simp)
    have cw1_2 : w1.cell? ⟨w.heap.size, 2, none⟩ = some (.int .i64 a2) := (hb1.cell (p := ⟨w.heap.size, 2, none⟩) (by first | (simp; done) | assumption)).trans (by go_simp)
    have cw1_3 : w1.cell? ⟨w.heap.size, 3, none⟩ = some (.int .i64 a3) := (hb1.cell (p := ⟨w.heap.size, 3, none⟩) (by first | (simp; done) | assumption)).trans (by go_simp)
    have cw1_4 : w1.cell? ⟨w.heap.size, 4, none⟩ = some (.string a4) := (hb1.cell (p := ⟨w.heap.size, 4, none⟩) (by first | (simp; done) | assumption)).trans (by go_simp)
    have cw1_5 : w1.cell? ⟨w.heap.size, 5, none⟩ = some (.string a5) := (hb1.cell (p := ⟨w.heap.size, 5, none⟩) (by first | (simp; done) | assumption)).trans (by go_simp)
    have cw1_6 : w1.cell? ⟨w.heap.size, 6, none⟩ = some (.slice a6 a6n c6) := (hb1.cell (p := ⟨w.heap.size, 6, none⟩) (by first | (simp; done) | assumption)).trans (by go_simp)
    have hs9 : w.heap.size < w1.heap.size := Nat.lt_of_lt_of_le (by simp) hb1.size
    have HB1 := Lib.hid (HB.out.trans (hb1.mono HB.out.size))
    clear hb1
    go_wp2
    go_ret
    exact ⟨ret_b fin.out.symm, HB1.out⟩
  · have HV := Lib.hid (HYES.out rfl)
    go_enter Try.func54, Try.ntmps54
    go_wp2_with fail
    refine (HIN.out _).mono ?_
    rintro e w0 ⟨rfl, rfl⟩
    go_wp2_with fail
    refine (HBARE.out _).mono ?_
    rintro e w1 ⟨rfl, hb1⟩
    have cw1_0 : w1.cell? ⟨w.heap.size, 0, none⟩ = some (.int .i64 5) := (hb1.cell (p := ⟨w.heap.size, 0, none⟩) (by first | (simp; done) | assumption)).trans (by go_simp)
    have cw1_1 : w1.cell? ⟨w.heap.size, 1, none⟩ = some (.int .i64 a1) := (hb1.cell (p := ⟨w.heap.size, 1, none⟩) (by first | (simp; done) | assumption)).trans (by go_simp)
    have cw1_2 : w1.cell? ⟨w.heap.size, 2, none⟩ = some (.int .i64 a2) := (hb1.cell (p := ⟨w.heap.size, 2, none⟩) (by first | (simp; done) | assumption)).trans (by go_simp)
    have cw1_3 : w1.cell? ⟨w.heap.size, 3, none⟩ = some (.int .i64 a3) := (hb1.cell (p := ⟨w.heap.size, 3, none⟩) (by first | (simp; done) | assumption)).trans (by go_simp)
    have cw1_4 : w1.cell? ⟨w.heap.size, 4, none⟩ = some (.string a4) := (hb1.cell (p := ⟨w.heap.size, 4, none⟩) (by first | (simp; done) | assumption)).trans (by go_simp)
    have cw1_5 : w1.cell? ⟨w.heap.size, 5, none⟩ = some (.string a5) := (hb1.cell (p := ⟨w.heap.size, 5, none⟩) (by first | (simp; done) | assumption)).trans (by go_simp)
    have cw1_6 : w1.cell? ⟨w.heap.size, 6, none⟩ = some (.slice a6 a6n c6) := (hb1.cell (p := ⟨w.heap.size, 6, none⟩) (by first | (simp; done) | assumption)).trans (by go_simp)
    have hs9 : w.heap.size < w1.heap.size := Nat.lt_of_lt_of_le (by simp) hb1.size
    have HB1 := Lib.hid (HB.out.trans (hb1.mono HB.out.size))
    clear hb1
    go_wp2
    go_ret
    exact ⟨ret_b (by rw [HV.out, HO2.out]), HB1.out⟩

set_option maxHeartbeats 6400000 in
set_option maxRecDepth 100000 in
theorem spec_l4Node_6 {a6 : Option Addr} {c6 : Nat} (x : DExpr) (hk : x.fKind = 6) (hs1 : x.fSymbol.size ≤ 1048576) (hs2 : x.fName.size ≤ 1048576) (w : World) :
    Calls Try.prog 54 #[.agg #[.int .i64 x.fKind, .int .i64 x.fN, .int .i64 x.fPos, .int .i64 x.fType, .string x.fSymbol, .string x.fName, .slice a6 x.fArgs.length c6]] w fun e w' => e = .returned (.bool (validN (nodeOfX x 0))) ∧ Below w.heap.size w w' := by
  have hk2 : (nodeOfX x 0).fKind = 6 := hk
  have HO := Lib.hid (okN_6 hk2)
  obtain ⟨bq, hb⟩ : ∃ bq : Bool, bq = true ↔ Bare (nodeOfX x 0) := by classical exact ⟨decide (Bare (nodeOfX x 0)), decide_eq_true_iff⟩
  have HBARE := Lib.hid (fun W => spec_l4Bare_6 (a6 := a6) (c6 := c6) x hk bq hb W)
  have HYES := Lib.hid (show bq = true → validN (nodeOfX x 0) = okN (nodeOfX x 0) from fun h => validN_of (by rw [hk2]; decide) (hb.1 h))
  have HNO := Lib.hid (show bq = false → validN (nodeOfX x 0) = false from fun h => validN_bare fun hB => by rw [hb.2 hB] at h; cases h)
  have HIN := Lib.hid (show ∀ W, Calls Try.prog 41 #[.int .i64 6, .int .i64 1, .int .i64 8] W fun e w' => e = .returned (.bool true) ∧ W = w' from fun W => by have h := spec_l1In 6 1 8 W; rw [show inR 6 1 8 = true from by decide] at h; exact h)
  have HA := Lib.hid (fun W => spec_l1In x.fPos 0 3 W)
  rw [show nodeOfX x 0 = ⟨x.fKind, x.fN, x.fPos, x.fType, x.fSymbol, x.fName, x.fArgs.length, 0⟩ from rfl] at HO
  generalize validN (nodeOfX x 0) = v at *
  generalize hoq : okN (nodeOfX x 0) = q at *
  have HO2 := Lib.hid (show q = (inR x.fPos 0 3) from hoq.symm.trans (okN_6 hk2))
  clear hoq hb hk2 HO
  generalize inR x.fPos 0 3 = q1 at *
  rw [hk] at HBARE ⊢
  clear hk
  generalize x.fN = a1 at *
  generalize x.fPos = a2 at *
  generalize x.fType = a3 at *
  generalize x.fSymbol = a4 at *
  generalize x.fName = a5 at *
  generalize x.fArgs.length = a6n at *
  have HB := Lib.hid ((Below.refl w.heap.size w).alloc (Nat.le_refl _) (.cells #[.int .i64 6, .int .i64 a1, .int .i64 a2, .int .i64 a3, .string a4, .string a5, .slice a6 a6n c6] 32))
  cases bq
  · have fin := Lib.hid (HNO.out rfl)
    go_enter Try.func54, Try.ntmps54
    go_wp2_with fail
    refine (HIN.out _).mono ?_
    rintro e w0 ⟨rfl, rfl⟩
    go_wp2_with fail
    refine (HBARE.out _).mono ?_
    rintro e w1 ⟨rfl, hb1⟩
    have cw1_0 : w1.cell? ⟨w.heap.size, 0, none⟩ = some (.int .i64 6) := (hb1.cell (p := ⟨w.heap.size, 0, none⟩) (by first | (simp; done) | assumption)).trans (by go_simp)
    have cw1_1 : w1.cell? ⟨w.heap.size, 1, none⟩ = some (.int .i64 a1) := (hb1.cell (p := ⟨w.heap.size, 1, none⟩) (by first | (simp; done) | assumption)).trans (by go_simp)
    have cw1_2 : w1.cell? ⟨w.heap.size, 2, none⟩ = some (.int .i64 a2) := (hb1.cell (p := ⟨w.heap.size, 2, none⟩) (by first | (simp; done) | assumption)).trans (by go_simp)
    have cw1_3 : w1.cell? ⟨w.heap.size, 3, none⟩ = some (.int .i64 a3) := (hb1.cell (p := ⟨w.heap.size, 3, none⟩) (by first | (simp; done) | assumption)).trans (by go_simp)
    have cw1_4 : w1.cell? ⟨w.heap.size, 4, none⟩ = some (.string a4) := (hb1.cell (p := ⟨w.heap.size, 4, none⟩) (by first | (simp; done) | assumption)).trans (by go_simp)
    have cw1_5 : w1.cell? ⟨w.heap.size, 5, none⟩ = some (.string a5) := (hb1.cell (p := ⟨w.heap.size, 5, none⟩) (by first | (simp; done) | assumption)).trans (by go_simp)
    have cw1_6 : w1.cell? ⟨w.heap.size, 6, none⟩ = some (.slice a6 a6n c6) := (hb1.cell (p := ⟨w.heap.size, 6, none⟩) (by first | (simp; done) | assumption)).trans (by go_simp)
    have hs9 : w.heap.size < w1.heap.size := Nat.lt_of_lt_of_le (by simp) hb1.size
    have HB1 := Lib.hid (HB.out.trans (hb1.mono HB.out.size))
    clear hb1
    go_wp2
    go_ret
    exact ⟨ret_b fin.out.symm, HB1.out⟩
  · have HV := Lib.hid (HYES.out rfl)
    go_enter Try.func54, Try.ntmps54
    go_wp2_with fail
    refine (HIN.out _).mono ?_
    rintro e w0 ⟨rfl, rfl⟩
    go_wp2_with fail
    refine (HBARE.out _).mono ?_
    rintro e w1 ⟨rfl, hb1⟩
    have cw1_0 : w1.cell? ⟨w.heap.size, 0, none⟩ = some (.int .i64 6) := (hb1.cell (p := ⟨w.heap.size, 0, none⟩) (by first | (simp; done) | assumption)).trans (by go_simp)
    have cw1_1 : w1.cell? ⟨w.heap.size, 1, none⟩ = some (.int .i64 a1) := (hb1.cell (p := ⟨w.heap.size, 1, none⟩) (by first | (simp; done) | assumption)).trans (by go_simp)
    have cw1_2 : w1.cell? ⟨w.heap.size, 2, none⟩ = some (.int .i64 a2) := (hb1.cell (p := ⟨w.heap.size, 2, none⟩) (by first | (simp; done) | assumption)).trans (by go_simp)
    have cw1_3 : w1.cell? ⟨w.heap.size, 3, none⟩ = some (.int .i64 a3) := (hb1.cell (p := ⟨w.heap.size, 3, none⟩) (by first | (simp; done) | assumption)).trans (by go_simp)
    have cw1_4 : w1.cell? ⟨w.heap.size, 4, none⟩ = some (.string a4) := (hb1.cell (p := ⟨w.heap.size, 4, none⟩) (by first | (simp; done) | assumption)).trans (by go_simp)
    have cw1_5 : w1.cell? ⟨w.heap.size, 5, none⟩ = some (.string a5) := (hb1.cell (p := ⟨w.heap.size, 5, none⟩) (by first | (simp; done) | assumption)).trans (by go_simp)
    have cw1_6 : w1.cell? ⟨w.heap.size, 6, none⟩ = some (.slice a6 a6n c6) := (hb1.cell (p := ⟨w.heap.size, 6, none⟩) (by first | (simp; done) | assumption)).trans (by go_simp)
    have hs9 : w.heap.size < w1.heap.size := Nat.lt_of_lt_of_le (by simp) hb1.size
    have HB1 := Lib.hid (HB.out.trans (hb1.mono HB.out.size))
    clear hb1
    go_wp2_with fail
    refine (HA.out _).mono ?_
    rintro e w9 ⟨rfl, rfl⟩
    go_wp2
    go_ret
    exact ⟨ret_b (by rw [HV.out, HO2.out]), HB1.out⟩

set_option maxHeartbeats 6400000 in
set_option maxRecDepth 100000 in
theorem spec_l4Node_7 {a6 : Option Addr} {c6 : Nat} (x : DExpr) (hk : x.fKind = 7) (hs1 : x.fSymbol.size ≤ 1048576) (hs2 : x.fName.size ≤ 1048576) (w : World) :
    Calls Try.prog 54 #[.agg #[.int .i64 x.fKind, .int .i64 x.fN, .int .i64 x.fPos, .int .i64 x.fType, .string x.fSymbol, .string x.fName, .slice a6 x.fArgs.length c6]] w fun e w' => e = .returned (.bool (validN (nodeOfX x 0))) ∧ Below w.heap.size w w' := by
  have hk2 : (nodeOfX x 0).fKind = 7 := hk
  have HO := Lib.hid (okN_7 hk2)
  obtain ⟨bq, hb⟩ : ∃ bq : Bool, bq = true ↔ Bare (nodeOfX x 0) := by classical exact ⟨decide (Bare (nodeOfX x 0)), decide_eq_true_iff⟩
  have HBARE := Lib.hid (fun W => spec_l4Bare_7 (a6 := a6) (c6 := c6) x hk bq hb W)
  have HYES := Lib.hid (show bq = true → validN (nodeOfX x 0) = okN (nodeOfX x 0) from fun h => validN_of (by rw [hk2]; decide) (hb.1 h))
  have HNO := Lib.hid (show bq = false → validN (nodeOfX x 0) = false from fun h => validN_bare fun hB => by rw [hb.2 hB] at h; cases h)
  have HIN := Lib.hid (show ∀ W, Calls Try.prog 41 #[.int .i64 7, .int .i64 1, .int .i64 8] W fun e w' => e = .returned (.bool true) ∧ W = w' from fun W => by have h := spec_l1In 7 1 8 W; rw [show inR 7 1 8 = true from by decide] at h; exact h)
  rw [show nodeOfX x 0 = ⟨x.fKind, x.fN, x.fPos, x.fType, x.fSymbol, x.fName, x.fArgs.length, 0⟩ from rfl] at HO
  generalize validN (nodeOfX x 0) = v at *
  generalize hoq : okN (nodeOfX x 0) = q at *
  have HO2 := Lib.hid (show q = (true) from hoq.symm.trans (okN_7 hk2))
  clear hoq hb hk2 HO
  rw [hk] at HBARE ⊢
  clear hk
  generalize x.fN = a1 at *
  generalize x.fPos = a2 at *
  generalize x.fType = a3 at *
  generalize x.fSymbol = a4 at *
  generalize x.fName = a5 at *
  generalize x.fArgs.length = a6n at *
  have HB := Lib.hid ((Below.refl w.heap.size w).alloc (Nat.le_refl _) (.cells #[.int .i64 7, .int .i64 a1, .int .i64 a2, .int .i64 a3, .string a4, .string a5, .slice a6 a6n c6] 32))
  cases bq
  · have fin := Lib.hid (HNO.out rfl)
    go_enter Try.func54, Try.ntmps54
    go_wp2_with fail
    refine (HIN.out _).mono ?_
    rintro e w0 ⟨rfl, rfl⟩
    go_wp2_with fail
    refine (HBARE.out _).mono ?_
    rintro e w1 ⟨rfl, hb1⟩
    have cw1_0 : w1.cell? ⟨w.heap.size, 0, none⟩ = some (.int .i64 7) := (hb1.cell (p := ⟨w.heap.size, 0, none⟩) (by first | (simp; done) | assumption)).trans (by go_simp)
    have cw1_1 : w1.cell? ⟨w.heap.size, 1, none⟩ = some (.int .i64 a1) := (hb1.cell (p := ⟨w.heap.size, 1, none⟩) (by first | (simp; done) | assumption)).trans (by go_simp)
    have cw1_2 : w1.cell? ⟨w.heap.size, 2, none⟩ = some (.int .i64 a2) := (hb1.cell (p := ⟨w.heap.size, 2, none⟩) (by first | (simp; done) | assumption)).trans (by go_simp)
    have cw1_3 : w1.cell? ⟨w.heap.size, 3, none⟩ = some (.int .i64 a3) := (hb1.cell (p := ⟨w.heap.size, 3, none⟩) (by first | (simp; done) | assumption)).trans (by go_simp)
    have cw1_4 : w1.cell? ⟨w.heap.size, 4, none⟩ = some (.string a4) := (hb1.cell (p := ⟨w.heap.size, 4, none⟩) (by first | (simp; done) | assumption)).trans (by go_simp)
    have cw1_5 : w1.cell? ⟨w.heap.size, 5, none⟩ = some (.string a5) := (hb1.cell (p := ⟨w.heap.size, 5, none⟩) (by first | (simp; done) | assumption)).trans (by go_simp)
    have cw1_6 : w1.cell? ⟨w.heap.size, 6, none⟩ = some (.slice a6 a6n c6) := (hb1.cell (p := ⟨w.heap.size, 6, none⟩) (by first | (simp; done) | assumption)).trans (by go_simp)
    have hs9 : w.heap.size < w1.heap.size := Nat.lt_of_lt_of_le (by simp) hb1.size
    have HB1 := Lib.hid (HB.out.trans (hb1.mono HB.out.size))
    clear hb1
    go_wp2
    go_ret
    exact ⟨ret_b fin.out.symm, HB1.out⟩
  · have HV := Lib.hid (HYES.out rfl)
    go_enter Try.func54, Try.ntmps54
    go_wp2_with fail
    refine (HIN.out _).mono ?_
    rintro e w0 ⟨rfl, rfl⟩
    go_wp2_with fail
    refine (HBARE.out _).mono ?_
    rintro e w1 ⟨rfl, hb1⟩
    have cw1_0 : w1.cell? ⟨w.heap.size, 0, none⟩ = some (.int .i64 7) := (hb1.cell (p := ⟨w.heap.size, 0, none⟩) (by first | (simp; done) | assumption)).trans (by go_simp)
    have cw1_1 : w1.cell? ⟨w.heap.size, 1, none⟩ = some (.int .i64 a1) := (hb1.cell (p := ⟨w.heap.size, 1, none⟩) (by first | (simp; done) | assumption)).trans (by go_simp)
    have cw1_2 : w1.cell? ⟨w.heap.size, 2, none⟩ = some (.int .i64 a2) := (hb1.cell (p := ⟨w.heap.size, 2, none⟩) (by first | (simp; done) | assumption)).trans (by go_simp)
    have cw1_3 : w1.cell? ⟨w.heap.size, 3, none⟩ = some (.int .i64 a3) := (hb1.cell (p := ⟨w.heap.size, 3, none⟩) (by first | (simp; done) | assumption)).trans (by go_simp)
    have cw1_4 : w1.cell? ⟨w.heap.size, 4, none⟩ = some (.string a4) := (hb1.cell (p := ⟨w.heap.size, 4, none⟩) (by first | (simp; done) | assumption)).trans (by go_simp)
    have cw1_5 : w1.cell? ⟨w.heap.size, 5, none⟩ = some (.string a5) := (hb1.cell (p := ⟨w.heap.size, 5, none⟩) (by first | (simp; done) | assumption)).trans (by go_simp)
    have cw1_6 : w1.cell? ⟨w.heap.size, 6, none⟩ = some (.slice a6 a6n c6) := (hb1.cell (p := ⟨w.heap.size, 6, none⟩) (by first | (simp; done) | assumption)).trans (by go_simp)
    have hs9 : w.heap.size < w1.heap.size := Nat.lt_of_lt_of_le (by simp) hb1.size
    have HB1 := Lib.hid (HB.out.trans (hb1.mono HB.out.size))
    clear hb1
    go_wp2
    go_ret
    exact ⟨ret_b (by rw [HV.out, HO2.out]), HB1.out⟩

set_option maxHeartbeats 6400000 in
set_option maxRecDepth 100000 in
theorem spec_l4Node_8 {a6 : Option Addr} {c6 : Nat} (x : DExpr) (hk : x.fKind = 8) (hs1 : x.fSymbol.size ≤ 1048576) (hs2 : x.fName.size ≤ 1048576) (w : World) :
    Calls Try.prog 54 #[.agg #[.int .i64 x.fKind, .int .i64 x.fN, .int .i64 x.fPos, .int .i64 x.fType, .string x.fSymbol, .string x.fName, .slice a6 x.fArgs.length c6]] w fun e w' => e = .returned (.bool (validN (nodeOfX x 0))) ∧ Below w.heap.size w w' := by
  have hk2 : (nodeOfX x 0).fKind = 8 := hk
  have HO := Lib.hid (okN_8 hk2)
  obtain ⟨bq, hb⟩ : ∃ bq : Bool, bq = true ↔ Bare (nodeOfX x 0) := by classical exact ⟨decide (Bare (nodeOfX x 0)), decide_eq_true_iff⟩
  have HBARE := Lib.hid (fun W => spec_l4Bare_8 (a6 := a6) (c6 := c6) x hk bq hb W)
  have HYES := Lib.hid (show bq = true → validN (nodeOfX x 0) = okN (nodeOfX x 0) from fun h => validN_of (by rw [hk2]; decide) (hb.1 h))
  have HNO := Lib.hid (show bq = false → validN (nodeOfX x 0) = false from fun h => validN_bare fun hB => by rw [hb.2 hB] at h; cases h)
  have HIN := Lib.hid (show ∀ W, Calls Try.prog 41 #[.int .i64 8, .int .i64 1, .int .i64 8] W fun e w' => e = .returned (.bool true) ∧ W = w' from fun W => by have h := spec_l1In 8 1 8 W; rw [show inR 8 1 8 = true from by decide] at h; exact h)
  have HA := Lib.hid (fun W => spec_IsValidName x.fSymbol hs1 W)
  have HT := Lib.hid (fun W => spec_IsValidName x.fName hs2 W)
  rw [show nodeOfX x 0 = ⟨x.fKind, x.fN, x.fPos, x.fType, x.fSymbol, x.fName, x.fArgs.length, 0⟩ from rfl] at HO
  generalize validN (nodeOfX x 0) = v at *
  generalize hoq : okN (nodeOfX x 0) = q at *
  have HO2 := Lib.hid (show q = (validName x.fSymbol && validName x.fName) from hoq.symm.trans (okN_8 hk2))
  clear hoq hb hk2 HO
  generalize validName x.fSymbol = q1 at *
  generalize validName x.fName = q2 at *
  rw [hk] at HBARE ⊢
  clear hk
  generalize x.fN = a1 at *
  generalize x.fPos = a2 at *
  generalize x.fType = a3 at *
  generalize x.fSymbol = a4 at *
  generalize x.fName = a5 at *
  generalize x.fArgs.length = a6n at *
  have HB := Lib.hid ((Below.refl w.heap.size w).alloc (Nat.le_refl _) (.cells #[.int .i64 8, .int .i64 a1, .int .i64 a2, .int .i64 a3, .string a4, .string a5, .slice a6 a6n c6] 32))
  cases bq
  · have fin := Lib.hid (HNO.out rfl)
    go_enter Try.func54, Try.ntmps54
    go_wp2_with fail
    refine (HIN.out _).mono ?_
    rintro e w0 ⟨rfl, rfl⟩
    go_wp2_with fail
    refine (HBARE.out _).mono ?_
    rintro e w1 ⟨rfl, hb1⟩
    have cw1_0 : w1.cell? ⟨w.heap.size, 0, none⟩ = some (.int .i64 8) := (hb1.cell (p := ⟨w.heap.size, 0, none⟩) (by first | (simp; done) | assumption)).trans (by go_simp)
    have cw1_1 : w1.cell? ⟨w.heap.size, 1, none⟩ = some (.int .i64 a1) := (hb1.cell (p := ⟨w.heap.size, 1, none⟩) (by first | (simp; done) | assumption)).trans (by go_simp)
    have cw1_2 : w1.cell? ⟨w.heap.size, 2, none⟩ = some (.int .i64 a2) := (hb1.cell (p := ⟨w.heap.size, 2, none⟩) (by first | (simp; done) | assumption)).trans (by go_simp)
    have cw1_3 : w1.cell? ⟨w.heap.size, 3, none⟩ = some (.int .i64 a3) := (hb1.cell (p := ⟨w.heap.size, 3, none⟩) (by first | (simp; done) | assumption)).trans (by go_simp)
    have cw1_4 : w1.cell? ⟨w.heap.size, 4, none⟩ = some (.string a4) := (hb1.cell (p := ⟨w.heap.size, 4, none⟩) (by first | (simp; done) | assumption)).trans (by go_simp)
    have cw1_5 : w1.cell? ⟨w.heap.size, 5, none⟩ = some (.string a5) := (hb1.cell (p := ⟨w.heap.size, 5, none⟩) (by first | (simp; done) | assumption)).trans (by go_simp)
    have cw1_6 : w1.cell? ⟨w.heap.size, 6, none⟩ = some (.slice a6 a6n c6) := (hb1.cell (p := ⟨w.heap.size, 6, none⟩) (by first | (simp; done) | assumption)).trans (by go_simp)
    have hs9 : w.heap.size < w1.heap.size := Nat.lt_of_lt_of_le (by simp) hb1.size
    have HB1 := Lib.hid (HB.out.trans (hb1.mono HB.out.size))
    clear hb1
    go_wp2
    go_ret
    exact ⟨ret_b fin.out.symm, HB1.out⟩
  · have HV := Lib.hid (HYES.out rfl)
    cases q1
    · skip
      go_enter Try.func54, Try.ntmps54
      go_wp2_with fail
      refine (HIN.out _).mono ?_
      rintro e w0 ⟨rfl, rfl⟩
      go_wp2_with fail
      refine (HBARE.out _).mono ?_
      rintro e w1 ⟨rfl, hb1⟩
      have cw1_0 : w1.cell? ⟨w.heap.size, 0, none⟩ = some (.int .i64 8) := (hb1.cell (p := ⟨w.heap.size, 0, none⟩) (by first | (simp; done) | assumption)).trans (by go_simp)
      have cw1_1 : w1.cell? ⟨w.heap.size, 1, none⟩ = some (.int .i64 a1) := (hb1.cell (p := ⟨w.heap.size, 1, none⟩) (by first | (simp; done) | assumption)).trans (by go_simp)
      have cw1_2 : w1.cell? ⟨w.heap.size, 2, none⟩ = some (.int .i64 a2) := (hb1.cell (p := ⟨w.heap.size, 2, none⟩) (by first | (simp; done) | assumption)).trans (by go_simp)
      have cw1_3 : w1.cell? ⟨w.heap.size, 3, none⟩ = some (.int .i64 a3) := (hb1.cell (p := ⟨w.heap.size, 3, none⟩) (by first | (simp; done) | assumption)).trans (by go_simp)
      have cw1_4 : w1.cell? ⟨w.heap.size, 4, none⟩ = some (.string a4) := (hb1.cell (p := ⟨w.heap.size, 4, none⟩) (by first | (simp; done) | assumption)).trans (by go_simp)
      have cw1_5 : w1.cell? ⟨w.heap.size, 5, none⟩ = some (.string a5) := (hb1.cell (p := ⟨w.heap.size, 5, none⟩) (by first | (simp; done) | assumption)).trans (by go_simp)
      have cw1_6 : w1.cell? ⟨w.heap.size, 6, none⟩ = some (.slice a6 a6n c6) := (hb1.cell (p := ⟨w.heap.size, 6, none⟩) (by first | (simp; done) | assumption)).trans (by go_simp)
      have hs9 : w.heap.size < w1.heap.size := Nat.lt_of_lt_of_le (by simp) hb1.size
      have HB1 := Lib.hid (HB.out.trans (hb1.mono HB.out.size))
      clear hb1
      go_wp2_with fail
      refine (HA.out _).mono ?_
      rintro e w2 ⟨rfl, hb2⟩
      have cw2_0 : w2.cell? ⟨w.heap.size, 0, none⟩ = some (.int .i64 8) := (hb2.cell (p := ⟨w.heap.size, 0, none⟩) (by first | (simp; done) | assumption)).trans cw1_0
      have cw2_1 : w2.cell? ⟨w.heap.size, 1, none⟩ = some (.int .i64 a1) := (hb2.cell (p := ⟨w.heap.size, 1, none⟩) (by first | (simp; done) | assumption)).trans cw1_1
      have cw2_2 : w2.cell? ⟨w.heap.size, 2, none⟩ = some (.int .i64 a2) := (hb2.cell (p := ⟨w.heap.size, 2, none⟩) (by first | (simp; done) | assumption)).trans cw1_2
      have cw2_3 : w2.cell? ⟨w.heap.size, 3, none⟩ = some (.int .i64 a3) := (hb2.cell (p := ⟨w.heap.size, 3, none⟩) (by first | (simp; done) | assumption)).trans cw1_3
      have cw2_4 : w2.cell? ⟨w.heap.size, 4, none⟩ = some (.string a4) := (hb2.cell (p := ⟨w.heap.size, 4, none⟩) (by first | (simp; done) | assumption)).trans cw1_4
      have cw2_5 : w2.cell? ⟨w.heap.size, 5, none⟩ = some (.string a5) := (hb2.cell (p := ⟨w.heap.size, 5, none⟩) (by first | (simp; done) | assumption)).trans cw1_5
      have cw2_6 : w2.cell? ⟨w.heap.size, 6, none⟩ = some (.slice a6 a6n c6) := (hb2.cell (p := ⟨w.heap.size, 6, none⟩) (by first | (simp; done) | assumption)).trans cw1_6
      have HB2 := Lib.hid (HB1.out.trans (hb2.mono HB1.out.size))
      clear hb2
      go_wp2
      go_ret
      exact ⟨ret_b (by rw [HV.out, HO2.out]; rfl), HB2.out⟩
    · skip
      go_enter Try.func54, Try.ntmps54
      go_wp2_with fail
      refine (HIN.out _).mono ?_
      rintro e w0 ⟨rfl, rfl⟩
      go_wp2_with fail
      refine (HBARE.out _).mono ?_
      rintro e w1 ⟨rfl, hb1⟩
      have cw1_0 : w1.cell? ⟨w.heap.size, 0, none⟩ = some (.int .i64 8) := (hb1.cell (p := ⟨w.heap.size, 0, none⟩) (by first | (simp; done) | assumption)).trans (by go_simp)
      have cw1_1 : w1.cell? ⟨w.heap.size, 1, none⟩ = some (.int .i64 a1) := (hb1.cell (p := ⟨w.heap.size, 1, none⟩) (by first | (simp; done) | assumption)).trans (by go_simp)
      have cw1_2 : w1.cell? ⟨w.heap.size, 2, none⟩ = some (.int .i64 a2) := (hb1.cell (p := ⟨w.heap.size, 2, none⟩) (by first | (simp; done) | assumption)).trans (by go_simp)
      have cw1_3 : w1.cell? ⟨w.heap.size, 3, none⟩ = some (.int .i64 a3) := (hb1.cell (p := ⟨w.heap.size, 3, none⟩) (by first | (simp; done) | assumption)).trans (by go_simp)
      have cw1_4 : w1.cell? ⟨w.heap.size, 4, none⟩ = some (.string a4) := (hb1.cell (p := ⟨w.heap.size, 4, none⟩) (by first | (simp; done) | assumption)).trans (by go_simp)
      have cw1_5 : w1.cell? ⟨w.heap.size, 5, none⟩ = some (.string a5) := (hb1.cell (p := ⟨w.heap.size, 5, none⟩) (by first | (simp; done) | assumption)).trans (by go_simp)
      have cw1_6 : w1.cell? ⟨w.heap.size, 6, none⟩ = some (.slice a6 a6n c6) := (hb1.cell (p := ⟨w.heap.size, 6, none⟩) (by first | (simp; done) | assumption)).trans (by go_simp)
      have hs9 : w.heap.size < w1.heap.size := Nat.lt_of_lt_of_le (by simp) hb1.size
      have HB1 := Lib.hid (HB.out.trans (hb1.mono HB.out.size))
      clear hb1
      go_wp2_with fail
      refine (HA.out _).mono ?_
      rintro e w2 ⟨rfl, hb2⟩
      have cw2_0 : w2.cell? ⟨w.heap.size, 0, none⟩ = some (.int .i64 8) := (hb2.cell (p := ⟨w.heap.size, 0, none⟩) (by first | (simp; done) | assumption)).trans cw1_0
      have cw2_1 : w2.cell? ⟨w.heap.size, 1, none⟩ = some (.int .i64 a1) := (hb2.cell (p := ⟨w.heap.size, 1, none⟩) (by first | (simp; done) | assumption)).trans cw1_1
      have cw2_2 : w2.cell? ⟨w.heap.size, 2, none⟩ = some (.int .i64 a2) := (hb2.cell (p := ⟨w.heap.size, 2, none⟩) (by first | (simp; done) | assumption)).trans cw1_2
      have cw2_3 : w2.cell? ⟨w.heap.size, 3, none⟩ = some (.int .i64 a3) := (hb2.cell (p := ⟨w.heap.size, 3, none⟩) (by first | (simp; done) | assumption)).trans cw1_3
      have cw2_4 : w2.cell? ⟨w.heap.size, 4, none⟩ = some (.string a4) := (hb2.cell (p := ⟨w.heap.size, 4, none⟩) (by first | (simp; done) | assumption)).trans cw1_4
      have cw2_5 : w2.cell? ⟨w.heap.size, 5, none⟩ = some (.string a5) := (hb2.cell (p := ⟨w.heap.size, 5, none⟩) (by first | (simp; done) | assumption)).trans cw1_5
      have cw2_6 : w2.cell? ⟨w.heap.size, 6, none⟩ = some (.slice a6 a6n c6) := (hb2.cell (p := ⟨w.heap.size, 6, none⟩) (by first | (simp; done) | assumption)).trans cw1_6
      have HB2 := Lib.hid (HB1.out.trans (hb2.mono HB1.out.size))
      clear hb2
      go_wp2_with fail
      refine (HT.out _).mono ?_
      rintro e w3 ⟨rfl, hb3⟩
      have HB3 := Lib.hid (HB2.out.trans (hb3.mono HB2.out.size))
      clear hb3
      go_wp2
      go_ret
      exact ⟨ret_b (by rw [HV.out, HO2.out]; simp), HB3.out⟩

set_option maxHeartbeats 1600000 in
set_option maxRecDepth 100000 in
theorem spec_l4Node {a6 : Option Addr} {c6 : Nat} (x : DExpr) (hs1 : x.fSymbol.size ≤ 1048576) (hs2 : x.fName.size ≤ 1048576) (w : World) :
    Calls Try.prog 54 #[.agg #[.int .i64 x.fKind, .int .i64 x.fN, .int .i64 x.fPos, .int .i64 x.fType, .string x.fSymbol, .string x.fName, .slice a6 x.fArgs.length c6]] w fun e w' => e = .returned (.bool (validN (nodeOfX x 0))) ∧ Below w.heap.size w w' := by
  cases hk : inR x.fKind 1 8
  · have fin := Lib.hid (validN_kind (n := nodeOfX x 0) hk)
    have HB := Lib.hid ((Below.refl w.heap.size w).alloc (Nat.le_refl _) (.cells #[.int .i64 x.fKind, .int .i64 x.fN, .int .i64 x.fPos, .int .i64 x.fType, .string x.fSymbol, .string x.fName, .slice a6 x.fArgs.length c6] 32))
    have HIN := Lib.hid (show ∀ W, Calls Try.prog 41 #[.int .i64 x.fKind, .int .i64 1, .int .i64 8] W fun e w' => e = .returned (.bool false) ∧ W = w' from fun W => by have h := spec_l1In x.fKind 1 8 W; rw [hk] at h; exact h)
    clear hk
    go_enter Try.func54, Try.ntmps54
    go_wp2_with fail
    refine (HIN.out _).mono ?_
    rintro e w0 ⟨rfl, rfl⟩
    go_wp2
    go_ret
    exact ⟨ret_b fin.out.symm, HB.out⟩
  · have h := inR_iff.1 hk
    rcases (by omega : x.fKind = 1 ∨ x.fKind = 2 ∨ x.fKind = 3 ∨ x.fKind = 4 ∨ x.fKind = 5 ∨ x.fKind = 6 ∨ x.fKind = 7 ∨ x.fKind = 8) with g | g | g | g | g | g | g | g
    · exact spec_l4Node_1 x g hs1 hs2 w
    · exact spec_l4Node_2 x g hs1 hs2 w
    · exact spec_l4Node_3 x g hs1 hs2 w
    · exact spec_l4Node_4 x g hs1 hs2 w
    · exact spec_l4Node_5 x g hs1 hs2 w
    · exact spec_l4Node_6 x g hs1 hs2 w
    · exact spec_l4Node_7 x g hs1 hs2 w
    · exact spec_l4Node_8 x g hs1 hs2 w
end Go.Proofs.Ythpnghbhfbiljaa
