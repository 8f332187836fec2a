/-
  The program's ParseNumber and ParseInt (package impl): the deferred literal's two contracts (it recovers a panic; it finds none), and the two functions at every string.
-/
import Derived.Test.YtgpmmlbinmdfmaaGreatDoorParse
import Derived.Laws.Pointers
namespace Go.Proofs.YtgpmmlbinmdfmaaGreatDoor
open Go.ChangeShapes Go.WideShapes Go.ChangeAt Go.RowKit
open Go.Lib Num

theorem makeFunc_run (fn : Fn) (first cap : Array Value) (w : World) : (Instr.makeFunc fn first cap).run Tryz.prog w = .ok (.func fn first cap) w := rfl

/-- The two named results behind their stores. -/
theorem two_cells {w3 : World} {B : Nat} {x0 y0 x1 y1 : Value} (c0 : w3.cell? ⟨B, 0, none⟩ = some x0) (c1 : w3.cell? ⟨B + 1, 0, none⟩ = some x1) :
    ((w3.setCell ⟨B, 0, none⟩ y0).setCell ⟨B + 1, 0, none⟩ y1).cell? ⟨B, 0, none⟩ = some y0 ∧ ((w3.setCell ⟨B, 0, none⟩ y0).setCell ⟨B + 1, 0, none⟩ y1).cell? ⟨B + 1, 0, none⟩ = some y1 := by
  constructor
  · exact (World.cell?_setCell_other _ ⟨B + 1, 0, none⟩ ⟨B, 0, none⟩ _ (by simp)).trans (World.cell?_setCell_same _ _ _ c0)
  · exact World.cell?_setCell_same _ _ _ ((World.cell?_setCell_other _ ⟨B, 0, none⟩ ⟨B + 1, 0, none⟩ _ (by simp)).trans c1)

set_option maxRecDepth 100000 in
theorem num_catch (B : Nat) (x : Int) (b : Bool) (u : TypeId) (pv : Value) (older : List PanicEntry) (w : World) (hp : w.cell? ⟨B, 0, none⟩ = some (.int .i64 x)) (hpz : w.frozen? ⟨B, 0, none⟩ = false) (hq : w.cell? ⟨B + 1, 0, none⟩ = some (.bool b)) (hqz : w.frozen? ⟨B + 1, 0, none⟩ = false) :
    CallsD Tryz.prog 66 #[.pointer (some ⟨B, 0, none⟩), .pointer (some ⟨B + 1, 0, none⟩)] (.panicking ({ v := .iface u pv, recovered := false } :: older)) w fun e u' w' =>
      e = .returned (.tuple #[]) ∧ u' = .panicking ({ v := .iface u pv, recovered := true } :: older) ∧ w' = (w.setCell ⟨B, 0, none⟩ (.int .i64 0)).setCell ⟨B + 1, 0, none⟩ (.bool false) := by
  have hq' : (w.setCell ⟨B, 0, none⟩ (.int .i64 0)).cell? ⟨B + 1, 0, none⟩ = some (.bool b) := by
    exact (World.cell?_setCell_other _ ⟨B, 0, none⟩ ⟨B + 1, 0, none⟩ _ (by simp)).trans hq
  have hqz' : (w.setCell ⟨B, 0, none⟩ (.int .i64 0)).frozen? ⟨B + 1, 0, none⟩ = false := by rw [World.frozen?_setCell]; exact hqz
  refine callsD_of_wpS Tryz.func66 rfl fun c₀ cs hu => ?_
  apply wpS_seq
  apply wpS_region
  simp [wpOpsS, go_sem, recoverD, hu, Tryz.ntmps66, Exit.thenS]
  refine wpS_cond (t := true) (by simp [Act.eval, Array.replicate]) ?_
  simp only [if_true]
  apply wpS_region
  simp [wpOpsS, go_sem, hp, hpz, hq', hqz', bodyPostS, results, Tryz.results66]

set_option maxRecDepth 100000 in
theorem num_idle (p q : Addr) (w : World) :
    CallsD Tryz.prog 66 #[.pointer (some p), .pointer (some q)] .returning w fun e u' w' => e = .returned (.tuple #[]) ∧ u' = .returning ∧ w' = w := by
  refine callsD_of_wpS Tryz.func66 rfl fun c₀ cs hu => ?_
  apply wpS_seq
  apply wpS_region
  simp [wpOpsS, go_sem, recoverD, hu, Tryz.ntmps66, Exit.thenS]
  refine wpS_cond (t := false) (by simp [Act.eval, Array.replicate]) ?_
  simp only [Bool.false_eq_true, if_false]
  refine wpS_of_wp (wp_skip ?_)
  cases c₀
  simp_all [bodyPostS, results, Tryz.results66]

set_option maxHeartbeats 800000 in
set_option maxRecDepth 100000 in
theorem num_ok (s : ByteArray) (v : Int) (w : World) (H : ∀ w : World, Lib3 w → Calls Tryz.prog 56 #[.string s, .int .i64 (0), .int .i64 999999] w fun e w' => e = .returned (.int .i64 v) ∧ Below w.heap.size w w') (ht : Lib3 w) :
    Calls Tryz.prog 44 #[.string s] w fun e w' => e = .returned (.tuple #[.int .i64 v, .bool true]) ∧ Below w.heap.size w w' := by
  have hmf := makeFunc_run
  have HH := Lib.hid H
  have HT := Lib.hid ((ht.below ((Below.refl _ w).alloc (Nat.le_refl _) (.cells #[.int .i64 0] 3))).below ((Below.refl _ _).alloc (Nat.le_refl _) (.cells #[.bool false] 4)))
  clear H ht
  go_enter_defers Tryz.func44, Tryz.ntmps44
  go_wp2_with fail
  refine (HH.out _ HT.out).mono ?_
  rintro e w3 ⟨rfl, hb⟩
  have c0 : w3.cell? ⟨w.heap.size, 0, none⟩ = some (.int .i64 0) := (hb.cell (p := ⟨w.heap.size, 0, none⟩) (by simp; omega)).trans (by simp [go_sem])
  have c1 : w3.cell? ⟨w.heap.size + 1, 0, none⟩ = some (.bool false) := (hb.cell (p := ⟨w.heap.size + 1, 0, none⟩) (by simp)).trans (by simp [go_sem])
  have z0 : w3.frozen? ⟨w.heap.size, 0, none⟩ = false := (hb.frozen (p := ⟨w.heap.size, 0, none⟩) (by simp; omega)).trans (by simp [go_sem])
  have z1 : w3.frozen? ⟨w.heap.size + 1, 0, none⟩ = false := (hb.frozen (p := ⟨w.heap.size + 1, 0, none⟩) (by simp)).trans (by simp [go_sem])
  have hB : Below w.heap.size w w3 := (((Below.refl _ w).alloc (Nat.le_refl _) (.cells #[.int .i64 0] 3)).alloc (by simp) (.cells #[.bool false] 4)).trans (hb.mono (by simp; omega))
  go_wp2
  refine leaves_cons (f := 66) (args := #[.pointer (some ⟨w.heap.size, 0, none⟩), .pointer (some ⟨w.heap.size + 1, 0, none⟩)]) (by simp) (by simp [go_sem]) ?_
  refine (num_idle _ _ _).mono ?_
  rintro e u' w'' ⟨rfl, rfl, rfl⟩
  obtain ⟨f0, f1⟩ := two_cells (y0 := .int .i64 v) (y1 := .bool true) c0 c1
  simp [Leaves, settle, results, Tryz.results44, go_sem, f0, f1]
  exact (hB.setCell (p := ⟨w.heap.size, 0, none⟩) (by simp) _).setCell (p := ⟨w.heap.size + 1, 0, none⟩) (by simp) _

set_option maxHeartbeats 800000 in
set_option maxRecDepth 100000 in
theorem num_bad (s : ByteArray) (w : World) (H : ∀ w : World, Lib3 w → Calls Tryz.prog 56 #[.string s, .int .i64 (0), .int .i64 999999] w fun e w' => Bad e ∧ Below w.heap.size w w') (ht : Lib3 w) :
    Calls Tryz.prog 44 #[.string s] w fun e w' => e = .returned (.tuple #[.int .i64 0, .bool false]) ∧ Below w.heap.size w w' := by
  have hmf := makeFunc_run
  have HH := Lib.hid H
  have HT := Lib.hid ((ht.below ((Below.refl _ w).alloc (Nat.le_refl _) (.cells #[.int .i64 0] 3))).below ((Below.refl _ _).alloc (Nat.le_refl _) (.cells #[.bool false] 4)))
  clear H ht
  go_enter_defers Tryz.func44, Tryz.ntmps44
  go_wp2_with fail
  refine (HH.out _ HT.out).mono ?_
  rintro e w3 ⟨⟨pv, rfl⟩, hb⟩
  have c0 : w3.cell? ⟨w.heap.size, 0, none⟩ = some (.int .i64 0) := (hb.cell (p := ⟨w.heap.size, 0, none⟩) (by simp; omega)).trans (by simp [go_sem])
  have c1 : w3.cell? ⟨w.heap.size + 1, 0, none⟩ = some (.bool false) := (hb.cell (p := ⟨w.heap.size + 1, 0, none⟩) (by simp)).trans (by simp [go_sem])
  have z0 : w3.frozen? ⟨w.heap.size, 0, none⟩ = false := (hb.frozen (p := ⟨w.heap.size, 0, none⟩) (by simp; omega)).trans (by simp [go_sem])
  have z1 : w3.frozen? ⟨w.heap.size + 1, 0, none⟩ = false := (hb.frozen (p := ⟨w.heap.size + 1, 0, none⟩) (by simp)).trans (by simp [go_sem])
  have hB : Below w.heap.size w w3 := (((Below.refl _ w).alloc (Nat.le_refl _) (.cells #[.int .i64 0] 3)).alloc (by simp) (.cells #[.bool false] 4)).trans (hb.mono (by simp; omega))
  go_wp2
  refine leaves_cons (f := 66) (args := #[.pointer (some ⟨w.heap.size, 0, none⟩), .pointer (some ⟨w.heap.size + 1, 0, none⟩)]) (by simp) (by simp [go_sem]) ?_
  refine (num_catch w.heap.size 0 false _ _ _ _ c0 z0 c1 z1).mono ?_
  rintro e u' w'' ⟨rfl, rfl, rfl⟩
  obtain ⟨f0, f1⟩ := two_cells (y0 := .int .i64 0) (y1 := .bool false) c0 c1
  simp [Leaves, settle, results, Tryz.results44, go_sem, f0, f1]
  exact (hB.setCell (p := ⟨w.heap.size, 0, none⟩) (by simp) _).setCell (p := ⟨w.heap.size + 1, 0, none⟩) (by simp) _

/-- ParseNumber of package impl, at every string. -/
theorem impl_ParseNumber (s : ByteArray) (hs : s.size ≤ 140737488351232) (w : World) (ht : Lib3 w) :
    Calls Tryz.prog 44 #[.string s] w fun e w' => e = .returned (.tuple #[.int .i64 ((pint (0) 999999 s.data.toList).getD 0), .bool (pint (0) 999999 s.data.toList).isSome]) ∧ Below w.heap.size w w' := by
  cases hp : pint (0) 999999 s.data.toList with
  | some v =>
    have h3 := (pint_iff (by decide) (by decide)).1 hp
    have ha : atoiAll s.data.toList = .ok v := by rw [← h3.2.2]; exact atoi_itoa v (by omega) (by omega)
    exact num_ok s v w (fun w ht => must_ok s (0) 999999 v hs ha h3.1 h3.2.1 (by omega) (by omega) (by rw [toList_data, h3.2.2]; exact beq_self_eq_true _) w ht) ht
  | none =>
    refine num_bad s w (fun w ht => ?_) ht
    cases ha : atoiAll s.data.toList with
    | ok v =>
      by_cases h1 : v < 0 ∨ 999999 < v
      · exact must_low s (0) 999999 v hs ha h1 w
      · refine must_text s (0) 999999 v hs ha (by omega) (by omega) (by omega) (by omega) ?_ w ht
        rw [toList_data]
        refine beq_eq_false_iff_ne.2 fun h => ?_
        rw [(pint_iff (by decide) (by decide)).2 ⟨by omega, by omega, h⟩] at hp
        cases hp
    | _ => exact must_err s (0) 999999 hs (fun v h => by rw [ha] at h; cases h) w ht

set_option maxRecDepth 100000 in
theorem int_catch (B : Nat) (x : Int) (b : Bool) (u : TypeId) (pv : Value) (older : List PanicEntry) (w : World) (hp : w.cell? ⟨B, 0, none⟩ = some (.int .i64 x)) (hpz : w.frozen? ⟨B, 0, none⟩ = false) (hq : w.cell? ⟨B + 1, 0, none⟩ = some (.bool b)) (hqz : w.frozen? ⟨B + 1, 0, none⟩ = false) :
    CallsD Tryz.prog 55 #[.pointer (some ⟨B, 0, none⟩), .pointer (some ⟨B + 1, 0, none⟩)] (.panicking ({ v := .iface u pv, recovered := false } :: older)) w fun e u' w' =>
      e = .returned (.tuple #[]) ∧ u' = .panicking ({ v := .iface u pv, recovered := true } :: older) ∧ w' = (w.setCell ⟨B, 0, none⟩ (.int .i64 0)).setCell ⟨B + 1, 0, none⟩ (.bool false) := by
  have hq' : (w.setCell ⟨B, 0, none⟩ (.int .i64 0)).cell? ⟨B + 1, 0, none⟩ = some (.bool b) := by
    exact (World.cell?_setCell_other _ ⟨B, 0, none⟩ ⟨B + 1, 0, none⟩ _ (by simp)).trans hq
  have hqz' : (w.setCell ⟨B, 0, none⟩ (.int .i64 0)).frozen? ⟨B + 1, 0, none⟩ = false := by rw [World.frozen?_setCell]; exact hqz
  refine callsD_of_wpS Tryz.func55 rfl fun c₀ cs hu => ?_
  apply wpS_seq
  apply wpS_region
  simp [wpOpsS, go_sem, recoverD, hu, Tryz.ntmps55, Exit.thenS]
  refine wpS_cond (t := true) (by simp [Act.eval, Array.replicate]) ?_
  simp only [if_true]
  apply wpS_region
  simp [wpOpsS, go_sem, hp, hpz, hq', hqz', bodyPostS, results, Tryz.results55]

set_option maxRecDepth 100000 in
theorem int_idle (p q : Addr) (w : World) :
    CallsD Tryz.prog 55 #[.pointer (some p), .pointer (some q)] .returning w fun e u' w' => e = .returned (.tuple #[]) ∧ u' = .returning ∧ w' = w := by
  refine callsD_of_wpS Tryz.func55 rfl fun c₀ cs hu => ?_
  apply wpS_seq
  apply wpS_region
  simp [wpOpsS, go_sem, recoverD, hu, Tryz.ntmps55, Exit.thenS]
  refine wpS_cond (t := false) (by simp [Act.eval, Array.replicate]) ?_
  simp only [Bool.false_eq_true, if_false]
  refine wpS_of_wp (wp_skip ?_)
  cases c₀
  simp_all [bodyPostS, results, Tryz.results55]

set_option maxHeartbeats 800000 in
set_option maxRecDepth 100000 in
theorem int_ok (s : ByteArray) (v : Int) (w : World) (H : ∀ w : World, Lib3 w → Calls Tryz.prog 56 #[.string s, .int .i64 (-999999999999), .int .i64 999999999999] w fun e w' => e = .returned (.int .i64 v) ∧ Below w.heap.size w w') (ht : Lib3 w) :
    Calls Tryz.prog 40 #[.string s] w fun e w' => e = .returned (.tuple #[.int .i64 v, .bool true]) ∧ Below w.heap.size w w' := by
  have hmf := makeFunc_run
  have HH := Lib.hid H
  have HT := Lib.hid ((ht.below ((Below.refl _ w).alloc (Nat.le_refl _) (.cells #[.int .i64 0] 3))).below ((Below.refl _ _).alloc (Nat.le_refl _) (.cells #[.bool false] 4)))
  clear H ht
  go_enter_defers Tryz.func40, Tryz.ntmps40
  go_wp2_with fail
  refine (HH.out _ HT.out).mono ?_
  rintro e w3 ⟨rfl, hb⟩
  have c0 : w3.cell? ⟨w.heap.size, 0, none⟩ = some (.int .i64 0) := (hb.cell (p := ⟨w.heap.size, 0, none⟩) (by simp; omega)).trans (by simp [go_sem])
  have c1 : w3.cell? ⟨w.heap.size + 1, 0, none⟩ = some (.bool false) := (hb.cell (p := ⟨w.heap.size + 1, 0, none⟩) (by simp)).trans (by simp [go_sem])
  have z0 : w3.frozen? ⟨w.heap.size, 0, none⟩ = false := (hb.frozen (p := ⟨w.heap.size, 0, none⟩) (by simp; omega)).trans (by simp [go_sem])
  have z1 : w3.frozen? ⟨w.heap.size + 1, 0, none⟩ = false := (hb.frozen (p := ⟨w.heap.size + 1, 0, none⟩) (by simp)).trans (by simp [go_sem])
  have hB : Below w.heap.size w w3 := (((Below.refl _ w).alloc (Nat.le_refl _) (.cells #[.int .i64 0] 3)).alloc (by simp) (.cells #[.bool false] 4)).trans (hb.mono (by simp; omega))
  go_wp2
  refine leaves_cons (f := 55) (args := #[.pointer (some ⟨w.heap.size, 0, none⟩), .pointer (some ⟨w.heap.size + 1, 0, none⟩)]) (by simp) (by simp [go_sem]) ?_
  refine (int_idle _ _ _).mono ?_
  rintro e u' w'' ⟨rfl, rfl, rfl⟩
  obtain ⟨f0, f1⟩ := two_cells (y0 := .int .i64 v) (y1 := .bool true) c0 c1
  simp [Leaves, settle, results, Tryz.results40, go_sem, f0, f1]
  exact (hB.setCell (p := ⟨w.heap.size, 0, none⟩) (by simp) _).setCell (p := ⟨w.heap.size + 1, 0, none⟩) (by simp) _

set_option maxHeartbeats 800000 in
set_option maxRecDepth 100000 in
theorem int_bad (s : ByteArray) (w : World) (H : ∀ w : World, Lib3 w → Calls Tryz.prog 56 #[.string s, .int .i64 (-999999999999), .int .i64 999999999999] w fun e w' => Bad e ∧ Below w.heap.size w w') (ht : Lib3 w) :
    Calls Tryz.prog 40 #[.string s] w fun e w' => e = .returned (.tuple #[.int .i64 0, .bool false]) ∧ Below w.heap.size w w' := by
  have hmf := makeFunc_run
  have HH := Lib.hid H
  have HT := Lib.hid ((ht.below ((Below.refl _ w).alloc (Nat.le_refl _) (.cells #[.int .i64 0] 3))).below ((Below.refl _ _).alloc (Nat.le_refl _) (.cells #[.bool false] 4)))
  clear H ht
  go_enter_defers Tryz.func40, Tryz.ntmps40
  go_wp2_with fail
  refine (HH.out _ HT.out).mono ?_
  rintro e w3 ⟨⟨pv, rfl⟩, hb⟩
  have c0 : w3.cell? ⟨w.heap.size, 0, none⟩ = some (.int .i64 0) := (hb.cell (p := ⟨w.heap.size, 0, none⟩) (by simp; omega)).trans (by simp [go_sem])
  have c1 : w3.cell? ⟨w.heap.size + 1, 0, none⟩ = some (.bool false) := (hb.cell (p := ⟨w.heap.size + 1, 0, none⟩) (by simp)).trans (by simp [go_sem])
  have z0 : w3.frozen? ⟨w.heap.size, 0, none⟩ = false := (hb.frozen (p := ⟨w.heap.size, 0, none⟩) (by simp; omega)).trans (by simp [go_sem])
  have z1 : w3.frozen? ⟨w.heap.size + 1, 0, none⟩ = false := (hb.frozen (p := ⟨w.heap.size + 1, 0, none⟩) (by simp)).trans (by simp [go_sem])
  have hB : Below w.heap.size w w3 := (((Below.refl _ w).alloc (Nat.le_refl _) (.cells #[.int .i64 0] 3)).alloc (by simp) (.cells #[.bool false] 4)).trans (hb.mono (by simp; omega))
  go_wp2
  refine leaves_cons (f := 55) (args := #[.pointer (some ⟨w.heap.size, 0, none⟩), .pointer (some ⟨w.heap.size + 1, 0, none⟩)]) (by simp) (by simp [go_sem]) ?_
  refine (int_catch w.heap.size 0 false _ _ _ _ c0 z0 c1 z1).mono ?_
  rintro e u' w'' ⟨rfl, rfl, rfl⟩
  obtain ⟨f0, f1⟩ := two_cells (y0 := .int .i64 0) (y1 := .bool false) c0 c1
  simp [Leaves, settle, results, Tryz.results40, go_sem, f0, f1]
  exact (hB.setCell (p := ⟨w.heap.size, 0, none⟩) (by simp) _).setCell (p := ⟨w.heap.size + 1, 0, none⟩) (by simp) _

/-- ParseInt of package impl, at every string. -/
theorem impl_ParseInt (s : ByteArray) (hs : s.size ≤ 140737488351232) (w : World) (ht : Lib3 w) :
    Calls Tryz.prog 40 #[.string s] w fun e w' => e = .returned (.tuple #[.int .i64 ((pint (-999999999999) 999999999999 s.data.toList).getD 0), .bool (pint (-999999999999) 999999999999 s.data.toList).isSome]) ∧ Below w.heap.size w w' := by
  cases hp : pint (-999999999999) 999999999999 s.data.toList with
  | some v =>
    have h3 := (pint_iff (by decide) (by decide)).1 hp
    have ha : atoiAll s.data.toList = .ok v := by rw [← h3.2.2]; exact atoi_itoa v (by omega) (by omega)
    exact int_ok s v w (fun w ht => must_ok s (-999999999999) 999999999999 v hs ha h3.1 h3.2.1 (by omega) (by omega) (by rw [toList_data, h3.2.2]; exact beq_self_eq_true _) w ht) ht
  | none =>
    refine int_bad s w (fun w ht => ?_) ht
    cases ha : atoiAll s.data.toList with
    | ok v =>
      by_cases h1 : v < -999999999999 ∨ 999999999999 < v
      · exact must_low s (-999999999999) 999999999999 v hs ha h1 w
      · refine must_text s (-999999999999) 999999999999 v hs ha (by omega) (by omega) (by omega) (by omega) ?_ w ht
        rw [toList_data]
        refine beq_eq_false_iff_ne.2 fun h => ?_
        rw [(pint_iff (by decide) (by decide)).2 ⟨by omega, by omega, h⟩] at hp
        cases hp
    | _ => exact must_err s (-999999999999) 999999999999 hs (fun v h => by rw [ha] at h; cases h) w ht
end Go.Proofs.YtgpmmlbinmdfmaaGreatDoor
