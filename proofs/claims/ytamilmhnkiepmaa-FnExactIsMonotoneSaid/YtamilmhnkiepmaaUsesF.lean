/-
  The closure of usageOf: the form of a node, whether a form is monotone, and what a node uses.
-/
import Derived.Test.YtamilmhnkiepmaaFoldUsage
import Derived.Test.YtamilmhnkiepmaaUses
import Derived.BigQuiet
namespace Go.Proofs.Ytamilmhnkiepmaa
open Go.ChangeShapes Go.WideShapes Go.ChangeAt Go.RowKit Go.Deep

theorem zs_cells {w : World} {B g c : Nat} {zs : List (Bool × Bool)} (h : w.ownsRow B 64 2 (.slice (some ⟨g, 0, none⟩) zs.length c) zs.length (zs.flatMap valsusage)) {k : Nat} (hk : k < zs.length) :
    w.cell? ⟨g, k * 2, none⟩ = some (.bool (zs.getD k default).1) ∧ w.cell? ⟨g, k * 2 + 1, none⟩ = some (.bool (zs.getD k default).2) := by
  have h0 := flatR_at valsusage 2 valsusage_len zs k 0 hk (by decide)
  have h1 := flatR_at valsusage 2 valsusage_len zs k 1 hk (by decide)
  exact ⟨(h.cellAt (k * 2) (by omega)).trans h0, (h.cellAt (k * 2 + 1) (by omega)).trans h1⟩
theorem idx_anyU {α : Type} [Inhabited α] (p : α → Bool) (l : List α) : decide (0 ≤ idxI p l) = l.any p := by
  unfold idxI
  cases h : l.findIdx? p with
  | none =>
    rw [List.findIdx?_eq_none_iff] at h
    have : l.any p = false := by rw [List.any_eq_false]; intro a ha; simp [h a ha]
    rw [this]; rfl
  | some k =>
    rw [List.findIdx?_eq_some_iff_getElem] at h
    obtain ⟨h1, h2, _⟩ := h
    have : l.any p = true := List.any_eq_true.2 ⟨l[k], List.getElem_mem _, h2⟩
    rw [this]; simp
def usesZ (z : Bool × Bool) : Bool := z.1

set_option maxHeartbeats 3200000 in
set_option maxRecDepth 100000 in
theorem usage11 (z : Bool × Bool) (w : World) :
    Calls Try.prog 53 #[.agg #[.bool z.1, .bool z.2]] w fun e w' => e = .returned (.bool (usesZ z)) ∧ Below w.heap.size w w' := by
  unfold usesZ
  go_enter Try.func53, Try.ntmps53
  go_wp2
  go_ret
  exact ⟨rfl, (Below.refl _ _).alloc (Nat.le_refl _) _⟩

set_option maxHeartbeats 3200000 in
set_option maxRecDepth 100000 in
theorem IndexFunc_usage {B c : Nat} {a : Option Addr} (zs : List (Bool × Bool)) (hl : zs.length ≤ 1048577) (w : World) (hown : w.ownsRow B 64 2 (.slice a zs.length c) zs.length (zs.flatMap valsusage)) :
    Calls Try.prog 68 #[.slice a zs.length c, .func (.func 53) #[] #[]] w fun e w' => e = .returned (.int .i64 (idxI usesZ zs)) ∧ Below w.heap.size w w' := by
  have HO := Lib.hid hown
  clear hown
  go_enter Try.func68, Try.ntmps68
  go_wp2
  go_loopw [8] (fun i wr => ∃ k : Nat, k ≤ zs.length ∧ i = .int .i64 (k : Int) ∧ noneBelow usesZ zs k ∧ Below w.heap.size w wr) (fun i _ => zs.length - (intOf i).toNat)
  case atStart => exact ⟨0, Nat.zero_le _, rfl, noneBelow_zero _ _, Below.refl _ _⟩
  case round =>
    obtain ⟨k, hk, rfl, hno, hbl⟩ := hrel
    have HBL := Lib.hid hbl
    have HNO := Lib.hid hno
    clear hno
    by_cases hlt : k < zs.length
    · obtain ⟨g, c2, e2, _, _⟩ := own_some HO.out (by omega)
      simp only [Value.slice.injEq, true_and] at e2
      obtain ⟨rfl, rfl⟩ := e2
      obtain ⟨hc0, hc1⟩ := zs_cells (ownsRow_below HO.out hbl) hlt
      have HC := Lib.hid (usage11 (zs.getD k default) wr)
      clear hbl
      cases hr : usesZ (zs.getD k default)
      · have HPS := Lib.hid (noneBelow_succ HNO.out hr)
        rw [hr] at HC
        clear hr
        generalize zs.getD k default = x at *
        go_wp2_with fail
        refine HC.out.mono ?_
        rintro e w1 ⟨rfl, hb1⟩
        have HB1 := Lib.hid (HBL.out.trans (hb1.mono HBL.out.size))
        clear hb1
        go_wp2
        go_roundw
        case rel => exact ⟨k + 1, by omega, by go_num, HPS.out, HB1.out⟩
        case measure => simp [intOf]; omega
      · have FIN := Lib.hid (idxI_at hlt hr HNO.out)
        rw [hr] at HC
        clear hr
        generalize zs.getD k default = x at *
        go_wp2_with fail
        refine HC.out.mono ?_
        rintro e w1 ⟨rfl, hb1⟩
        have HB1 := Lib.hid (HBL.out.trans (hb1.mono HBL.out.size))
        clear hb1
        go_wp2
        go_ret
        exact ⟨ret_i FIN.out.symm, HB1.out⟩
    · obtain rfl : k = zs.length := by omega
      have FIN := Lib.hid (idxI_none HNO.out)
      go_wp2
      go_ret
      exact ⟨ret_i FIN.out.symm, HBL.out⟩

set_option maxHeartbeats 3200000 in
set_option maxRecDepth 100000 in
theorem ContainsFunc_usage {B c : Nat} {a : Option Addr} (zs : List (Bool × Bool)) (hl : zs.length ≤ 1048577) (w : World) (hown : w.ownsRow B 64 2 (.slice a zs.length c) zs.length (zs.flatMap valsusage)) :
    Calls Try.prog 52 #[.slice a zs.length c, .func (.func 53) #[] #[]] w fun e w' => e = .returned (.bool (zs.any usesZ)) ∧ Below w.heap.size w w' := by
  have HI := Lib.hid (IndexFunc_usage zs hl w hown)
  have HD := Lib.hid (idx_anyU usesZ zs)
  clear hown
  generalize idxI usesZ zs = q at *
  generalize zs.any usesZ = r at *
  generalize zs.length = n at *
  go_enter Try.func52, Try.ntmps52
  go_wp2_with fail
  refine HI.out.mono ?_
  rintro e w1 ⟨rfl, hb1⟩
  go_wp2
  go_ret
  exact ⟨ret_b HD.out, hb1⟩

set_option maxHeartbeats 3200000 in
set_option maxRecDepth 100000 in
theorem formOf_attr {B c : Nat} {a : Option Addr} (nd : ENode) (zs : List (Bool × Bool)) (h3 : nd.fKind = 3) (_ : zs.length ≤ 1048577) (w : World) (_ : w.ownsRow B 64 2 (.slice a zs.length c) zs.length (zs.flatMap valsusage)) :
    Calls Try.prog 51 #[.agg #[.int .i64 nd.fKind, .int .i64 nd.fN, .int .i64 nd.fPos, .int .i64 nd.fType, .string nd.fSymbol, .string nd.fName, .int .i64 (nd.fArgs : Int), .int .i64 (nd.fDepth : Int)], .slice a zs.length c] w fun e w' => e = .returned (.iface 95 (.agg #[.int .i64 nd.fPos, .string nd.fName])) ∧ Below w.heap.size w w' := by
  obtain ⟨qk, qn_, qp, qt, qs, qm, qa, qd⟩ := nd
  dsimp only at *
  subst h3
  go_enter Try.func51, Try.ntmps51
  go_wp2
  go_ret
  exact ⟨rfl, (Below.refl _ _).alloc (Nat.le_refl _) _⟩

set_option maxHeartbeats 3200000 in
set_option maxRecDepth 100000 in
theorem formOf_choice {B c : Nat} {a : Option Addr} (nd : ENode) (zs : List (Bool × Bool)) (h5 : nd.fKind = 5) (hn : zs.length = 3) (_ : zs.length ≤ 1048577) (w : World) (hown : w.ownsRow B 64 2 (.slice a zs.length c) zs.length (zs.flatMap valsusage)) :
    Calls Try.prog 51 #[.agg #[.int .i64 nd.fKind, .int .i64 nd.fN, .int .i64 nd.fPos, .int .i64 nd.fType, .string nd.fSymbol, .string nd.fName, .int .i64 (nd.fArgs : Int), .int .i64 (nd.fDepth : Int)], .slice a zs.length c] w fun e w' => e = .returned (.iface 121 (.agg #[.bool (zs.getD 0 default).1, .bool (zs.getD 0 default).2, .bool (zs.getD 1 default).1, .bool (zs.getD 1 default).2, .bool (zs.getD 2 default).1, .bool (zs.getD 2 default).2])) ∧ Below w.heap.size w w' := by
  obtain ⟨qk, qn_, qp, qt, qs, qm, qa, qd⟩ := nd
  dsimp only at *
  subst h5
  obtain ⟨g, c2, e2, _, hgl⟩ := own_some hown (by omega)
  simp only [Value.slice.injEq, true_and] at e2
  obtain ⟨rfl, rfl⟩ := e2
  have HB := Lib.hid ((Below.refl w.heap.size w).alloc (Nat.le_refl _) (.cells #[.int .i64 5, .int .i64 qn_, .int .i64 qp, .int .i64 qt, .string qs, .string qm, .int .i64 (qa : Int), .int .i64 (qd : Int)] 87))
  obtain ⟨x0, y0⟩ := zs_cells (ownsRow_below hown HB.out) (k := 0) (by omega)
  obtain ⟨x1, y1⟩ := zs_cells (ownsRow_below hown HB.out) (k := 1) (by omega)
  obtain ⟨x2, y2⟩ := zs_cells (ownsRow_below hown HB.out) (k := 2) (by omega)
  generalize zs.getD 0 default = z0 at *
  generalize zs.getD 1 default = z1 at *
  generalize zs.getD 2 default = z2 at *
  simp only [Nat.zero_mul] at x0
  simp only [Nat.zero_mul, Nat.zero_add] at y0
  simp only [Nat.reduceMul] at x1
  simp only [Nat.reduceMul, Nat.reduceAdd] at y1
  simp only [Nat.reduceMul] at x2
  simp only [Nat.reduceMul, Nat.reduceAdd] at y2
  clear hown
  rw [hn]
  clear hn
  go_enter Try.func51, Try.ntmps51
  go_wp2
  go_quiet (fail)
  go_wp2
  go_ret
  exact ⟨rfl, below_drewN HB.out _⟩

set_option maxHeartbeats 3200000 in
set_option maxRecDepth 100000 in
theorem formOf_join {B c : Nat} {a : Option Addr} (nd : ENode) (zs : List (Bool × Bool)) (h4 : nd.fKind = 4) (hn : zs.length = 2) (hN : nd.fN = 6 ∨ nd.fN = 7) (_ : zs.length ≤ 1048577) (w : World) (hown : w.ownsRow B 64 2 (.slice a zs.length c) zs.length (zs.flatMap valsusage)) :
    Calls Try.prog 51 #[.agg #[.int .i64 nd.fKind, .int .i64 nd.fN, .int .i64 nd.fPos, .int .i64 nd.fType, .string nd.fSymbol, .string nd.fName, .int .i64 (nd.fArgs : Int), .int .i64 (nd.fDepth : Int)], .slice a zs.length c] w fun e w' => e = .returned (.iface 125 (.agg #[.bool (zs.getD 0 default).1, .bool (zs.getD 0 default).2, .bool (zs.getD 1 default).1, .bool (zs.getD 1 default).2])) ∧ Below w.heap.size w w' := by
  obtain ⟨qk, qn_, qp, qt, qs, qm, qa, qd⟩ := nd
  dsimp only at *
  subst h4
  obtain ⟨g, c2, e2, _, hgl⟩ := own_some hown (by omega)
  simp only [Value.slice.injEq, true_and] at e2
  obtain ⟨rfl, rfl⟩ := e2
  have HB := Lib.hid ((Below.refl w.heap.size w).alloc (Nat.le_refl _) (.cells #[.int .i64 4, .int .i64 qn_, .int .i64 qp, .int .i64 qt, .string qs, .string qm, .int .i64 (qa : Int), .int .i64 (qd : Int)] 87))
  obtain ⟨x0, y0⟩ := zs_cells (ownsRow_below hown HB.out) (k := 0) (by omega)
  obtain ⟨x1, y1⟩ := zs_cells (ownsRow_below hown HB.out) (k := 1) (by omega)
  generalize zs.getD 0 default = z0 at *
  generalize zs.getD 1 default = z1 at *
  simp only [Nat.zero_mul] at x0
  simp only [Nat.zero_mul, Nat.zero_add] at y0
  simp only [Nat.reduceMul] at x1
  simp only [Nat.reduceMul, Nat.reduceAdd] at y1
  clear hown
  rw [hn]
  clear hn
  rcases hN with hN | hN
  · subst hN
    go_enter Try.func51, Try.ntmps51
    go_wp2
    go_quiet (fail)
    go_wp2
    go_ret
    exact ⟨rfl, below_drewN HB.out _⟩
  · subst hN
    go_enter Try.func51, Try.ntmps51
    go_wp2
    go_quiet (fail)
    go_wp2
    go_ret
    exact ⟨rfl, below_drewN HB.out _⟩

set_option maxHeartbeats 3200000 in
set_option maxRecDepth 100000 in
theorem formOf_first {B c : Nat} {a : Option Addr} (nd : ENode) (zs : List (Bool × Bool)) (h4 : nd.fKind = 4) (hn : zs.length = 2) (hN : nd.fN = 8 ∨ nd.fN = 12) (_ : zs.length ≤ 1048577) (w : World) (hown : w.ownsRow B 64 2 (.slice a zs.length c) zs.length (zs.flatMap valsusage)) :
    Calls Try.prog 51 #[.agg #[.int .i64 nd.fKind, .int .i64 nd.fN, .int .i64 nd.fPos, .int .i64 nd.fType, .string nd.fSymbol, .string nd.fName, .int .i64 (nd.fArgs : Int), .int .i64 (nd.fDepth : Int)], .slice a zs.length c] w fun e w' => e = .returned (.iface 127 (.agg #[.bool (zs.getD 0 default).1, .bool (zs.getD 0 default).2, .bool (zs.getD 1 default).1, .bool (zs.getD 1 default).2])) ∧ Below w.heap.size w w' := by
  obtain ⟨qk, qn_, qp, qt, qs, qm, qa, qd⟩ := nd
  dsimp only at *
  subst h4
  obtain ⟨g, c2, e2, _, hgl⟩ := own_some hown (by omega)
  simp only [Value.slice.injEq, true_and] at e2
  obtain ⟨rfl, rfl⟩ := e2
  have HB := Lib.hid ((Below.refl w.heap.size w).alloc (Nat.le_refl _) (.cells #[.int .i64 4, .int .i64 qn_, .int .i64 qp, .int .i64 qt, .string qs, .string qm, .int .i64 (qa : Int), .int .i64 (qd : Int)] 87))
  obtain ⟨x0, y0⟩ := zs_cells (ownsRow_below hown HB.out) (k := 0) (by omega)
  obtain ⟨x1, y1⟩ := zs_cells (ownsRow_below hown HB.out) (k := 1) (by omega)
  generalize zs.getD 0 default = z0 at *
  generalize zs.getD 1 default = z1 at *
  simp only [Nat.zero_mul] at x0
  simp only [Nat.zero_mul, Nat.zero_add] at y0
  simp only [Nat.reduceMul] at x1
  simp only [Nat.reduceMul, Nat.reduceAdd] at y1
  clear hown
  rw [hn]
  clear hn
  rcases hN with hN | hN
  · subst hN
    go_enter Try.func51, Try.ntmps51
    go_wp2
    go_quiet (fail)
    go_wp2
    go_ret
    exact ⟨rfl, below_drewN HB.out _⟩
  · subst hN
    go_enter Try.func51, Try.ntmps51
    go_wp2
    go_quiet (fail)
    go_wp2
    go_ret
    exact ⟨rfl, below_drewN HB.out _⟩

set_option maxHeartbeats 3200000 in
set_option maxRecDepth 100000 in
theorem formOf_rest {B c : Nat} {a : Option Addr} (nd : ENode) (zs : List (Bool × Bool)) (h4 : nd.fKind = 4) (hn : zs.length = 2) (hN : nd.fN ≠ 6 ∧ nd.fN ≠ 7 ∧ nd.fN ≠ 8 ∧ nd.fN ≠ 12) (_ : zs.length ≤ 1048577) (w : World) (_ : w.ownsRow B 64 2 (.slice a zs.length c) zs.length (zs.flatMap valsusage)) :
    Calls Try.prog 51 #[.agg #[.int .i64 nd.fKind, .int .i64 nd.fN, .int .i64 nd.fPos, .int .i64 nd.fType, .string nd.fSymbol, .string nd.fName, .int .i64 (nd.fArgs : Int), .int .i64 (nd.fDepth : Int)], .slice a zs.length c] w fun e w' => e = .returned (.iface 123 (.agg #[])) ∧ Below w.heap.size w w' := by
  obtain ⟨qk, qn_, qp, qt, qs, qm, qa, qd⟩ := nd
  dsimp only at *
  subst h4
  rw [hn]
  clear hn
  obtain ⟨n6, n7, n8, n12⟩ := hN
  have q6 : (qn_ == 6) = false := beq_eq_false_iff_ne.2 n6
  have q7 : (qn_ == 7) = false := beq_eq_false_iff_ne.2 n7
  have q8 : (qn_ == 8) = false := beq_eq_false_iff_ne.2 n8
  have q12 : (qn_ == 12) = false := beq_eq_false_iff_ne.2 n12
  clear n6 n7 n8 n12
  go_enter Try.func51, Try.ntmps51
  go_wp2
  go_ret
  exact ⟨rfl, (Below.refl _ _).alloc (Nat.le_refl _) _⟩

set_option maxHeartbeats 3200000 in
set_option maxRecDepth 100000 in
theorem formOf_other {B c : Nat} {a : Option Addr} (nd : ENode) (zs : List (Bool × Bool)) (h3 : ¬ nd.fKind = 3) (h5 : ¬ (nd.fKind = 5 ∧ zs.length = 3)) (h : nd.fKind ≠ 4 ∨ zs.length ≠ 2) (_ : zs.length ≤ 1048577) (w : World) (_ : w.ownsRow B 64 2 (.slice a zs.length c) zs.length (zs.flatMap valsusage)) :
    Calls Try.prog 51 #[.agg #[.int .i64 nd.fKind, .int .i64 nd.fN, .int .i64 nd.fPos, .int .i64 nd.fType, .string nd.fSymbol, .string nd.fName, .int .i64 (nd.fArgs : Int), .int .i64 (nd.fDepth : Int)], .slice a zs.length c] w fun e w' => e = .returned (.iface 123 (.agg #[])) ∧ Below w.heap.size w w' := by
  have q3 : (nd.fKind == 3) = false := beq_eq_false_iff_ne.2 h3
  generalize zs.length = n at *
  by_cases k5 : nd.fKind = 5
  · have hn3 : ¬ n = 3 := fun e => h5 ⟨k5, e⟩
    have qn : ((n : Int) == 3) = false := beq_eq_false_iff_ne.2 (by omega)
    rw [k5]
    clear k5 hn3 h h5 h3 q3
    go_enter Try.func51, Try.ntmps51
    go_wp2
    go_ret
    exact ⟨rfl, (Below.refl _ _).alloc (Nat.le_refl _) _⟩
  · have q5 : (nd.fKind == 5) = false := beq_eq_false_iff_ne.2 k5
    by_cases k4 : nd.fKind = 4
    · have qn : ((n : Int) == 2) = false := beq_eq_false_iff_ne.2 (by omega)
      rw [k4]
      clear k4 k5 h h5 h3 q3 q5
      go_enter Try.func51, Try.ntmps51
      go_wp2
      go_ret
      exact ⟨rfl, (Below.refl _ _).alloc (Nat.le_refl _) _⟩
    · have q4 : (nd.fKind == 4) = false := beq_eq_false_iff_ne.2 k4
      clear k4 k5 h h5 h3
      go_enter Try.func51, Try.ntmps51
      go_wp2
      go_ret
      exact ⟨rfl, (Below.refl _ _).alloc (Nat.le_refl _) _⟩

theorem as_attrForm_attrForm (v : Value) (w : World) : (Instr.typeAssert (.iface 95 v) 90 95 true).run Try.prog w = .ok (.tuple #[v, .bool true]) w := by kernel_rfl
theorem as_attrForm_joinForm (v : Value) (w : World) : (Instr.typeAssert (.iface 95 v) 90 125 true).run Try.prog w = .ok (.tuple #[.agg #[.bool false, .bool false, .bool false, .bool false], .bool false]) w := by kernel_rfl
theorem as_attrForm_firstForm (v : Value) (w : World) : (Instr.typeAssert (.iface 95 v) 90 127 true).run Try.prog w = .ok (.tuple #[.agg #[.bool false, .bool false, .bool false, .bool false], .bool false]) w := by kernel_rfl
theorem as_attrForm_choiceForm (v : Value) (w : World) : (Instr.typeAssert (.iface 95 v) 90 121 true).run Try.prog w = .ok (.tuple #[.agg #[.bool false, .bool false, .bool false, .bool false, .bool false, .bool false], .bool false]) w := by kernel_rfl
theorem as_joinForm_attrForm (v : Value) (w : World) : (Instr.typeAssert (.iface 125 v) 90 95 true).run Try.prog w = .ok (.tuple #[.agg #[.int .i64 0, .string ⟨#[]⟩], .bool false]) w := by kernel_rfl
theorem as_joinForm_joinForm (v : Value) (w : World) : (Instr.typeAssert (.iface 125 v) 90 125 true).run Try.prog w = .ok (.tuple #[v, .bool true]) w := by kernel_rfl
theorem as_joinForm_firstForm (v : Value) (w : World) : (Instr.typeAssert (.iface 125 v) 90 127 true).run Try.prog w = .ok (.tuple #[.agg #[.bool false, .bool false, .bool false, .bool false], .bool false]) w := by kernel_rfl
theorem as_joinForm_choiceForm (v : Value) (w : World) : (Instr.typeAssert (.iface 125 v) 90 121 true).run Try.prog w = .ok (.tuple #[.agg #[.bool false, .bool false, .bool false, .bool false, .bool false, .bool false], .bool false]) w := by kernel_rfl
theorem as_firstForm_attrForm (v : Value) (w : World) : (Instr.typeAssert (.iface 127 v) 90 95 true).run Try.prog w = .ok (.tuple #[.agg #[.int .i64 0, .string ⟨#[]⟩], .bool false]) w := by kernel_rfl
theorem as_firstForm_joinForm (v : Value) (w : World) : (Instr.typeAssert (.iface 127 v) 90 125 true).run Try.prog w = .ok (.tuple #[.agg #[.bool false, .bool false, .bool false, .bool false], .bool false]) w := by kernel_rfl
theorem as_firstForm_firstForm (v : Value) (w : World) : (Instr.typeAssert (.iface 127 v) 90 127 true).run Try.prog w = .ok (.tuple #[v, .bool true]) w := by kernel_rfl
theorem as_firstForm_choiceForm (v : Value) (w : World) : (Instr.typeAssert (.iface 127 v) 90 121 true).run Try.prog w = .ok (.tuple #[.agg #[.bool false, .bool false, .bool false, .bool false, .bool false, .bool false], .bool false]) w := by kernel_rfl
theorem as_choiceForm_attrForm (v : Value) (w : World) : (Instr.typeAssert (.iface 121 v) 90 95 true).run Try.prog w = .ok (.tuple #[.agg #[.int .i64 0, .string ⟨#[]⟩], .bool false]) w := by kernel_rfl
theorem as_choiceForm_joinForm (v : Value) (w : World) : (Instr.typeAssert (.iface 121 v) 90 125 true).run Try.prog w = .ok (.tuple #[.agg #[.bool false, .bool false, .bool false, .bool false], .bool false]) w := by kernel_rfl
theorem as_choiceForm_firstForm (v : Value) (w : World) : (Instr.typeAssert (.iface 121 v) 90 127 true).run Try.prog w = .ok (.tuple #[.agg #[.bool false, .bool false, .bool false, .bool false], .bool false]) w := by kernel_rfl
theorem as_choiceForm_choiceForm (v : Value) (w : World) : (Instr.typeAssert (.iface 121 v) 90 121 true).run Try.prog w = .ok (.tuple #[v, .bool true]) w := by kernel_rfl
theorem as_otherForm_attrForm (v : Value) (w : World) : (Instr.typeAssert (.iface 123 v) 90 95 true).run Try.prog w = .ok (.tuple #[.agg #[.int .i64 0, .string ⟨#[]⟩], .bool false]) w := by kernel_rfl
theorem as_otherForm_joinForm (v : Value) (w : World) : (Instr.typeAssert (.iface 123 v) 90 125 true).run Try.prog w = .ok (.tuple #[.agg #[.bool false, .bool false, .bool false, .bool false], .bool false]) w := by kernel_rfl
theorem as_otherForm_firstForm (v : Value) (w : World) : (Instr.typeAssert (.iface 123 v) 90 127 true).run Try.prog w = .ok (.tuple #[.agg #[.bool false, .bool false, .bool false, .bool false], .bool false]) w := by kernel_rfl
theorem as_otherForm_choiceForm (v : Value) (w : World) : (Instr.typeAssert (.iface 123 v) 90 121 true).run Try.prog w = .ok (.tuple #[.agg #[.bool false, .bool false, .bool false, .bool false, .bool false, .bool false], .bool false]) w := by kernel_rfl

set_option maxHeartbeats 3200000 in
set_option maxRecDepth 100000 in
theorem isMono_attr (p : Int) (s : ByteArray) (w : World) :
    Calls Try.prog 55 #[.iface 95 (.agg #[.int .i64 p, .string s])] w fun e w' => e = .returned (.bool (true)) ∧ Below w.heap.size w w' := by
  have q_attrForm := as_attrForm_attrForm
  all_goals (go_enter Try.func55, Try.ntmps55; go_wp2; go_ret; exact ⟨rfl, (by first | exact Below.refl _ _ | exact (Below.refl _ _).alloc (Nat.le_refl _) _ | (repeat (first | (with_reducible exact Below.refl _ _) | (refine Below.setCell ?_ (by first | omega | (simp <;> omega)) _) | (refine Below.alloc ?_ (by first | omega | (simp <;> omega)) _))))⟩)

set_option maxHeartbeats 3200000 in
set_option maxRecDepth 100000 in
theorem isMono_other  (w : World) :
    Calls Try.prog 55 #[.iface 123 (.agg #[])] w fun e w' => e = .returned (.bool (false)) ∧ Below w.heap.size w w' := by
  have q_attrForm := as_otherForm_attrForm
  have q_joinForm := as_otherForm_joinForm
  have q_firstForm := as_otherForm_firstForm
  have q_choiceForm := as_otherForm_choiceForm
  all_goals (go_enter Try.func55, Try.ntmps55; go_wp2; go_ret; exact ⟨rfl, (by first | exact Below.refl _ _ | exact (Below.refl _ _).alloc (Nat.le_refl _) _ | (repeat (first | (with_reducible exact Below.refl _ _) | (refine Below.setCell ?_ (by first | omega | (simp <;> omega)) _) | (refine Below.alloc ?_ (by first | omega | (simp <;> omega)) _))))⟩)

set_option maxHeartbeats 3200000 in
set_option maxRecDepth 100000 in
theorem isMono_join (x0 y0 x1 y1 : Bool) (w : World) :
    Calls Try.prog 55 #[.iface 125 (.agg #[.bool x0, .bool y0, .bool x1, .bool y1])] w fun e w' => e = .returned (.bool (y0 && y1)) ∧ Below w.heap.size w w' := by
  have q_attrForm := as_joinForm_attrForm
  have q_joinForm := as_joinForm_joinForm
  cases y0
  all_goals (go_enter Try.func55, Try.ntmps55; go_wp2; go_ret; exact ⟨rfl, (by first | exact Below.refl _ _ | exact (Below.refl _ _).alloc (Nat.le_refl _) _ | (repeat (first | (with_reducible exact Below.refl _ _) | (refine Below.setCell ?_ (by first | omega | (simp <;> omega)) _) | (refine Below.alloc ?_ (by first | omega | (simp <;> omega)) _))))⟩)

set_option maxHeartbeats 3200000 in
set_option maxRecDepth 100000 in
theorem isMono_first (x0 y0 x1 y1 : Bool) (w : World) :
    Calls Try.prog 55 #[.iface 127 (.agg #[.bool x0, .bool y0, .bool x1, .bool y1])] w fun e w' => e = .returned (.bool (y0 && !x1)) ∧ Below w.heap.size w w' := by
  have q_attrForm := as_firstForm_attrForm
  have q_joinForm := as_firstForm_joinForm
  have q_firstForm := as_firstForm_firstForm
  cases y0
  all_goals cases x1
  all_goals (go_enter Try.func55, Try.ntmps55; go_wp2; go_ret; exact ⟨rfl, (by first | exact Below.refl _ _ | exact (Below.refl _ _).alloc (Nat.le_refl _) _ | (repeat (first | (with_reducible exact Below.refl _ _) | (refine Below.setCell ?_ (by first | omega | (simp <;> omega)) _) | (refine Below.alloc ?_ (by first | omega | (simp <;> omega)) _))))⟩)

set_option maxHeartbeats 3200000 in
set_option maxRecDepth 100000 in
theorem isMono_choice (x0 y0 x1 y1 x2 y2 : Bool) (w : World) :
    Calls Try.prog 55 #[.iface 121 (.agg #[.bool x0, .bool y0, .bool x1, .bool y1, .bool x2, .bool y2])] w fun e w' => e = .returned (.bool (!x0 && y1 && y2)) ∧ Below w.heap.size w w' := by
  have q_attrForm := as_choiceForm_attrForm
  have q_joinForm := as_choiceForm_joinForm
  have q_firstForm := as_choiceForm_firstForm
  have q_choiceForm := as_choiceForm_choiceForm
  cases x0
  all_goals cases y1
  all_goals (go_enter Try.func55, Try.ntmps55; go_wp2; go_ret; exact ⟨rfl, (by first | exact Below.refl _ _ | exact (Below.refl _ _).alloc (Nat.le_refl _) _ | (repeat (first | (with_reducible exact Below.refl _ _) | (refine Below.setCell ?_ (by first | omega | (simp <;> omega)) _) | (refine Below.alloc ?_ (by first | omega | (simp <;> omega)) _))))⟩)
end Go.Proofs.Ytamilmhnkiepmaa
