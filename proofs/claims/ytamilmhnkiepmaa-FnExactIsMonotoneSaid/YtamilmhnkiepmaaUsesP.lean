/-
  usageOf of the program: its closure, the fold; UsesAny and IsMonotone.
-/
import Derived.Test.YtamilmhnkiepmaaUsesF
namespace Go.Proofs.Ytamilmhnkiepmaa
open Go.ChangeShapes Go.WideShapes Go.ChangeAt Go.RowKit Go.Deep

theorem monoF_attr {nd : ENode} {zs : List (Bool × Bool)} (h : nd.fKind = 3) : monoF nd zs = true := by unfold monoF; rw [if_pos h]
theorem monoF_choice {nd : ENode} {zs : List (Bool × Bool)} (h : nd.fKind = 5) (hn : zs.length = 3) : monoF nd zs = ((!(zs.getD 0 default).1) && (zs.getD 1 default).2 && (zs.getD 2 default).2) := by unfold monoF; rw [if_neg (by omega), if_pos ⟨h, hn⟩]
theorem monoF_other {nd : ENode} {zs : List (Bool × Bool)} (h3 : ¬ nd.fKind = 3) (h5 : ¬ (nd.fKind = 5 ∧ zs.length = 3)) (h : nd.fKind ≠ 4 ∨ zs.length ≠ 2) : monoF nd zs = false := by unfold monoF; rw [if_neg h3, if_neg h5, if_pos h]
theorem monoF_join {nd : ENode} {zs : List (Bool × Bool)} (h4 : nd.fKind = 4) (hn : zs.length = 2) (hN : nd.fN = 6 ∨ nd.fN = 7) : monoF nd zs = ((zs.getD 0 default).2 && (zs.getD 1 default).2) := by unfold monoF; rw [if_neg (by omega), if_neg (by omega), if_neg (by omega), if_pos hN]
theorem monoF_first {nd : ENode} {zs : List (Bool × Bool)} (h4 : nd.fKind = 4) (hn : zs.length = 2) (hN : nd.fN = 8 ∨ nd.fN = 12) : monoF nd zs = ((zs.getD 0 default).2 && !(zs.getD 1 default).1) := by unfold monoF; rw [if_neg (by omega), if_neg (by omega), if_neg (by omega), if_neg (by omega), if_pos hN]
theorem monoF_rest {nd : ENode} {zs : List (Bool × Bool)} (h4 : nd.fKind = 4) (hn : zs.length = 2) (hN : nd.fN ≠ 6 ∧ nd.fN ≠ 7 ∧ nd.fN ≠ 8 ∧ nd.fN ≠ 12) : monoF nd zs = false := by unfold monoF; rw [if_neg (by omega), if_neg (by omega), if_neg (by omega), if_neg (by omega), if_neg (by omega)]
theorem combU_plain {l : List DOccurrence} {nd : ENode} {zs : List (Bool × Bool)} (h : ¬ nd.fKind = 3) : combU l nd zs = (zs.any usesZ, !(zs.any usesZ) || monoF nd zs) := by
  have : attrIn l nd = false := by unfold attrIn; rw [decide_eq_false h, Bool.false_and]
  unfold combU usesN
  rw [this, Bool.false_or]
  rfl
theorem combU_attr {l : List DOccurrence} {nd : ENode} {zs : List (Bool × Bool)} (h : nd.fKind = 3) : combU l nd zs = (hasAt l ⟨nd.fPos, nd.fName⟩ || zs.any usesZ, true) := by
  have : attrIn l nd = hasAt l ⟨nd.fPos, nd.fName⟩ := by unfold attrIn; rw [decide_eq_true h, Bool.true_and]
  unfold combU usesN
  rw [this, monoF_attr h, Bool.or_true]
  rfl

set_option maxHeartbeats 3200000 in
set_option maxRecDepth 100000 in
theorem usage1_plain {B c q : Nat} {a : Option Addr} (nd : ENode) (zs : List (Bool × Bool)) (hz : zs.length ≤ 1048577) (w : World) (hown : w.ownsRow B 64 2 (.slice a zs.length c) zs.length (zs.flatMap valsusage)) (F : Value) (m : Bool)
    (hF : ∀ W, W.ownsRow B 64 2 (.slice a zs.length c) zs.length (zs.flatMap valsusage) → Calls Try.prog 51 #[.agg #[.int .i64 nd.fKind, .int .i64 nd.fN, .int .i64 nd.fPos, .int .i64 nd.fType, .string nd.fSymbol, .string nd.fName, .int .i64 (nd.fArgs : Int), .int .i64 (nd.fDepth : Int)], .slice a zs.length c] W fun e w' => e = .returned F ∧ Below W.heap.size W w')
    (hA : ∀ W, (Instr.typeAssert F 90 95 true).run Try.prog W = .ok (.tuple #[.agg #[.int .i64 0, .string ⟨#[]⟩], .bool false]) W)
    (hM : ∀ W, Calls Try.prog 55 #[F] W fun e w' => e = .returned (.bool m) ∧ Below W.heap.size W w') :
    Calls Try.prog 50 #[.agg #[.int .i64 nd.fKind, .int .i64 nd.fN, .int .i64 nd.fPos, .int .i64 nd.fType, .string nd.fSymbol, .string nd.fName, .int .i64 (nd.fArgs : Int), .int .i64 (nd.fDepth : Int)], .slice a zs.length c, .pointer (some ⟨q, 0, none⟩)] w fun e w' => e = .returned (.agg #[.bool (zs.any usesZ), .bool (!(zs.any usesZ) || m)]) ∧ Below w.heap.size w w' := by
  have HB := Lib.hid (((Below.refl w.heap.size w).alloc (Nat.le_refl _) (.cells #[.int .i64 nd.fKind, .int .i64 nd.fN, .int .i64 nd.fPos, .int .i64 nd.fType, .string nd.fSymbol, .string nd.fName, .int .i64 (nd.fArgs : Int), .int .i64 (nd.fDepth : Int)] 87)).alloc (by simp) (.cells #[.bool false, .bool false] 64))
  have HS0 := Lib.hid (show ((w.alloc (.cells #[.int .i64 nd.fKind, .int .i64 nd.fN, .int .i64 nd.fPos, .int .i64 nd.fType, .string nd.fSymbol, .string nd.fName, .int .i64 (nd.fArgs : Int), .int .i64 (nd.fDepth : Int)] 87)).alloc (.cells #[.bool false, .bool false] 64)).heap.size = w.heap.size + 2 by simp)
  have HR0 := Lib.hid (show ((w.alloc (.cells #[.int .i64 nd.fKind, .int .i64 nd.fN, .int .i64 nd.fPos, .int .i64 nd.fType, .string nd.fSymbol, .string nd.fName, .int .i64 (nd.fArgs : Int), .int .i64 (nd.fDepth : Int)] 87)).alloc (.cells #[.bool false, .bool false] 64)).heap[w.heap.size + 1]? = some (.cells #[.bool false, .bool false] 64) from blk_new (by simp))
  have HF := Lib.hid (hF _ (ownsRow_below hown HB.out))
  have HC := Lib.hid (fun (W : World) (hW : Below w.heap.size w W) => ContainsFunc_usage zs hz W (ownsRow_below hown hW))
  clear hown
  have HM := Lib.hid hM
  clear hF hM
  generalize zs.any usesZ = u at *
  generalize zs.length = n at *
  go_enter Try.func50, Try.ntmps50
  go_wp2_with fail
  refine HF.out.mono ?_
  rintro e w1 ⟨rfl, hb1⟩
  have HB1 := Lib.hid (HB.out.trans (hb1.mono (by rw [HS0.out]; omega)))
  have HR1 := Lib.hid ((hb1.block (w.heap.size + 1) (by rw [HS0.out]; omega)).trans HR0.out)
  have HS1 := Lib.hid (show w.heap.size + 2 ≤ w1.heap.size by have := hb1.size; rw [HS0.out] at this; exact this)
  clear hb1
  go_wp2_with fail
  refine (HC.out w1 HB1.out).mono ?_
  rintro e w2 ⟨rfl, hb2⟩
  have HB2 := Lib.hid (HB1.out.trans (hb2.mono HB1.out.size))
  have HR2 := Lib.hid ((hb2.block (w.heap.size + 1) (by have := HS1.out; omega)).trans HR1.out)
  have hS2 : w.heap.size + 2 ≤ w2.heap.size := Nat.le_trans HS1.out hb2.size
  clear hb2
  have r0 := pblk_cell (j := 0) (v := .bool false) HR2.out rfl
  have r1 := pblk_cell (j := 1) (v := .bool false) HR2.out rfl
  have s0 := pblk_frozen (j := 0) HR2.out
  have s1 := pblk_frozen (j := 1) HR2.out
  have hlt : w.heap.size + 1 < w2.heap.size := by omega
  cases u
  · skip
    go_wp2
    refine bodyPost_ret (v := .agg #[.bool false, .bool true]) (results_cell_row Try.results50 _ _ (w.heap.size + 1) 64 #[.bool false, .bool true] (0, 0) _ rfl (blk_alloc (by simp [World.setCell]; omega) (pblk_put (pblk_put HR2.out rfl) rfl)) Try.underlying64 rfl rfl) rfl ⟨rfl, ?_⟩
    exact (Below.setCell (Below.setCell HB2.out (Nat.le_succ _) _) (Nat.le_succ _) _).alloc (by simp [World.setCell]; omega) _
  · clear r0 r1 s0 s1
    go_wp2_with fail
    refine (HM.out _).mono ?_
    rintro e w3 ⟨rfl, hb3⟩
    have HR3 := Lib.hid ((hb3.block (w.heap.size + 1) (by simp; omega)).trans (blk_alloc hlt HR2.out))
    have HB3 := Lib.hid ((HB2.out.alloc HB2.out.size _).trans (hb3.mono (by simp; omega)))
    clear hb3
    have r0 := pblk_cell (j := 0) (v := .bool false) HR3.out rfl
    have r1 := pblk_cell (j := 1) (v := .bool false) HR3.out rfl
    have s0 := pblk_frozen (j := 0) HR3.out
    have s1 := pblk_frozen (j := 1) HR3.out
    go_wp2
    refine bodyPost_ret (v := .agg #[.bool true, .bool m]) (results_cell_row Try.results50 _ _ (w.heap.size + 1) 64 #[.bool true, .bool m] (0, 0) _ rfl (pblk_put (pblk_put HR3.out rfl) rfl) Try.underlying64 rfl rfl) rfl ⟨rfl, ?_⟩
    exact Below.setCell (Below.setCell HB3.out (Nat.le_succ _) _) (Nat.le_succ _) _

set_option maxHeartbeats 3200000 in
set_option maxRecDepth 100000 in
theorem usage1_attr {B c q lo hi c0 : Nat} {a a0 : Option Addr} (nd : ENode) (zs : List (Bool × Bool)) (hz : zs.length ≤ 1048577) (w : World) (hown : w.ownsRow B 64 2 (.slice a zs.length c) zs.length (zs.flatMap valsusage)) (h3 : nd.fKind = 3) (l : List DOccurrence) (hl : lsz DOccurrence.sz l ≤ 1048576) (hhi : hi ≤ w.heap.size) (hs : Sl lo hi w 2 l.length (fun k => DOccurrence.ct (l.getD k default)) a0) (hq : w.cell? ⟨q, 0, none⟩ = some (.slice a0 l.length c0)) (hql : q < w.heap.size) :
    Calls Try.prog 50 #[.agg #[.int .i64 nd.fKind, .int .i64 nd.fN, .int .i64 nd.fPos, .int .i64 nd.fType, .string nd.fSymbol, .string nd.fName, .int .i64 (nd.fArgs : Int), .int .i64 (nd.fDepth : Int)], .slice a zs.length c, .pointer (some ⟨q, 0, none⟩)] w fun e w' => e = .returned (.agg #[.bool (hasAt l ⟨nd.fPos, nd.fName⟩ || zs.any usesZ), .bool true]) ∧ Below w.heap.size w w' := by
  have q_attrForm := as_attrForm_attrForm
  have HB := Lib.hid (((Below.refl w.heap.size w).alloc (Nat.le_refl _) (.cells #[.int .i64 nd.fKind, .int .i64 nd.fN, .int .i64 nd.fPos, .int .i64 nd.fType, .string nd.fSymbol, .string nd.fName, .int .i64 (nd.fArgs : Int), .int .i64 (nd.fDepth : Int)] 87)).alloc (by simp) (.cells #[.bool false, .bool false] 64))
  have HS0 := Lib.hid (show ((w.alloc (.cells #[.int .i64 nd.fKind, .int .i64 nd.fN, .int .i64 nd.fPos, .int .i64 nd.fType, .string nd.fSymbol, .string nd.fName, .int .i64 (nd.fArgs : Int), .int .i64 (nd.fDepth : Int)] 87)).alloc (.cells #[.bool false, .bool false] 64)).heap.size = w.heap.size + 2 by simp)
  have HR0 := Lib.hid (show ((w.alloc (.cells #[.int .i64 nd.fKind, .int .i64 nd.fN, .int .i64 nd.fPos, .int .i64 nd.fType, .string nd.fSymbol, .string nd.fName, .int .i64 (nd.fArgs : Int), .int .i64 (nd.fDepth : Int)] 87)).alloc (.cells #[.bool false, .bool false] 64)).heap[w.heap.size + 1]? = some (.cells #[.bool false, .bool false] 64) from blk_new (by simp))
  have HF := Lib.hid (formOf_attr nd zs h3 hz _ (ownsRow_below hown HB.out))
  have HC := Lib.hid (fun (W : World) (hW : Below w.heap.size w W) => ContainsFunc_usage zs hz W (ownsRow_below hown hW))
  clear hown
  have HH := Lib.hid (fun (W : World) (hW : Below w.heap.size w W) => Contains_occurrence (c0_0 := c0) l hl ⟨nd.fPos, nd.fName⟩ W (Nat.le_trans hhi hW.size) (hs.later hW hhi))
  have HQ := Lib.hid hq
  have HM := Lib.hid (fun W => isMono_attr nd.fPos nd.fName W)
  clear hs hq h3
  generalize hasAt l ⟨nd.fPos, nd.fName⟩ = v at *
  generalize zs.any usesZ = u at *
  generalize zs.length = n at *
  generalize l.length = ln at *
  go_enter Try.func50, Try.ntmps50
  go_wp2_with fail
  refine HF.out.mono ?_
  rintro e w1 ⟨rfl, hb1⟩
  have HB1 := Lib.hid (HB.out.trans (hb1.mono (by rw [HS0.out]; omega)))
  have HR1 := Lib.hid ((hb1.block (w.heap.size + 1) (by rw [HS0.out]; omega)).trans HR0.out)
  have HS1 := Lib.hid (show w.heap.size + 2 ≤ w1.heap.size by have := hb1.size; rw [HS0.out] at this; exact this)
  clear hb1
  go_wp2_with fail
  refine (HC.out w1 HB1.out).mono ?_
  rintro e w2 ⟨rfl, hb2⟩
  have HB2 := Lib.hid (HB1.out.trans (hb2.mono HB1.out.size))
  have HR2 := Lib.hid ((hb2.block (w.heap.size + 1) (by have := HS1.out; omega)).trans HR1.out)
  have hS2 : w.heap.size + 2 ≤ w2.heap.size := Nat.le_trans HS1.out hb2.size
  clear hb2
  have p0 : w2.cell? ⟨q, 0, none⟩ = some (.slice a0 ln c0) := (HB2.out.cell (p := ⟨q, 0, none⟩) hql).trans HQ.out
  have hq2 : q < w2.heap.size := Nat.lt_of_lt_of_le hql HB2.out.size
  have hlt : w.heap.size + 1 < w2.heap.size := by omega
  go_wp2_with fail
  refine (HH.out _ (HB2.out.alloc HB2.out.size _)).mono ?_
  rintro e w3 ⟨rfl, hb3⟩
  have HR3 := Lib.hid ((hb3.block (w.heap.size + 1) (by simp; omega)).trans (blk_alloc hlt HR2.out))
  have HB3 := Lib.hid ((HB2.out.alloc HB2.out.size _).trans (hb3.mono (by simp; omega)))
  have hlt3 : w.heap.size + 1 < w3.heap.size := by have := hb3.size; simp at this; omega
  clear hb3
  have r0 := pblk_cell (j := 0) (v := .bool false) HR3.out rfl
  have r1 := pblk_cell (j := 1) (v := .bool false) HR3.out rfl
  have s0 := pblk_frozen (j := 0) HR3.out
  have s1 := pblk_frozen (j := 1) HR3.out
  cases hvu : (v || u)
  · obtain ⟨rfl, rfl⟩ : v = false ∧ u = false := by cases v <;> cases u <;> simp_all
    clear hvu
    go_wp2
    refine bodyPost_ret (v := .agg #[.bool false, .bool true]) (results_cell_row Try.results50 _ _ (w.heap.size + 1) 64 #[.bool false, .bool true] (0, 0) _ rfl (pblk_put (pblk_put HR3.out rfl) rfl) Try.underlying64 rfl rfl) rfl ⟨rfl, ?_⟩
    exact Below.setCell (Below.setCell HB3.out (Nat.le_succ _) _) (Nat.le_succ _) _
  · clear r0 r1 s0 s1
    cases v
    · obtain rfl : u = true := by simpa using hvu
      clear hvu
      go_wp2_with fail
      refine (HM.out _).mono ?_
      rintro e w4 ⟨rfl, hb4⟩
      have HR4 := Lib.hid ((hb4.block (w.heap.size + 1) hlt3).trans HR3.out)
      have HB4 := Lib.hid (HB3.out.trans (hb4.mono HB3.out.size))
      clear hb4
      have r0 := pblk_cell (j := 0) (v := .bool false) HR4.out rfl
      have r1 := pblk_cell (j := 1) (v := .bool false) HR4.out rfl
      have s0 := pblk_frozen (j := 0) HR4.out
      have s1 := pblk_frozen (j := 1) HR4.out
      go_wp2
      refine bodyPost_ret (v := .agg #[.bool true, .bool true]) (results_cell_row Try.results50 _ _ (w.heap.size + 1) 64 #[.bool true, .bool true] (0, 0) _ rfl (pblk_put (pblk_put HR4.out rfl) rfl) Try.underlying64 rfl rfl) rfl ⟨rfl, ?_⟩
      exact Below.setCell (Below.setCell HB4.out (Nat.le_succ _) _) (Nat.le_succ _) _
    · clear hvu
      go_wp2_with fail
      refine (HM.out _).mono ?_
      rintro e w4 ⟨rfl, hb4⟩
      have HR4 := Lib.hid ((hb4.block (w.heap.size + 1) hlt3).trans HR3.out)
      have HB4 := Lib.hid (HB3.out.trans (hb4.mono HB3.out.size))
      clear hb4
      have r0 := pblk_cell (j := 0) (v := .bool false) HR4.out rfl
      have r1 := pblk_cell (j := 1) (v := .bool false) HR4.out rfl
      have s0 := pblk_frozen (j := 0) HR4.out
      have s1 := pblk_frozen (j := 1) HR4.out
      go_wp2
      refine bodyPost_ret (v := .agg #[.bool true, .bool true]) (results_cell_row Try.results50 _ _ (w.heap.size + 1) 64 #[.bool true, .bool true] (0, 0) _ rfl (pblk_put (pblk_put HR4.out rfl) rfl) Try.underlying64 rfl rfl) rfl ⟨rfl, ?_⟩
      exact Below.setCell (Below.setCell HB4.out (Nat.le_succ _) _) (Nat.le_succ _) _

theorem usage1 {B c q lo hi c0 : Nat} {a a0 : Option Addr} (nd : ENode) (zs : List (Bool × Bool)) (hz : zs.length ≤ 1048577) (w : World) (hown : w.ownsRow B 64 2 (.slice a zs.length c) zs.length (zs.flatMap valsusage)) (l : List DOccurrence) (hl : lsz DOccurrence.sz l ≤ 1048576) (hhi : hi ≤ w.heap.size) (hs : Sl lo hi w 2 l.length (fun k => DOccurrence.ct (l.getD k default)) a0) (hq : w.cell? ⟨q, 0, none⟩ = some (.slice a0 l.length c0)) (hql : q < w.heap.size) :
    Calls Try.prog 50 #[.agg #[.int .i64 nd.fKind, .int .i64 nd.fN, .int .i64 nd.fPos, .int .i64 nd.fType, .string nd.fSymbol, .string nd.fName, .int .i64 (nd.fArgs : Int), .int .i64 (nd.fDepth : Int)], .slice a zs.length c, .pointer (some ⟨q, 0, none⟩)] w fun e w' => e = .returned (.agg #[.bool (combU l nd zs).1, .bool (combU l nd zs).2]) ∧ Below w.heap.size w w' := by
  by_cases h3 : nd.fKind = 3
  · rw [combU_attr h3]
    exact usage1_attr nd zs hz w hown h3 l hl hhi hs hq hql
  · rw [combU_plain h3]
    by_cases h5 : nd.fKind = 5 ∧ zs.length = 3
    · rw [monoF_choice h5.1 h5.2]
      exact usage1_plain nd zs hz w hown _ _ (fun W h => formOf_choice nd zs h5.1 h5.2 hz W h) (fun W => as_choiceForm_attrForm _ W) (fun W => isMono_choice _ _ _ _ _ _ W)
    · by_cases h : nd.fKind ≠ 4 ∨ zs.length ≠ 2
      · rw [monoF_other h3 h5 h]
        exact usage1_plain nd zs hz w hown _ _ (fun W hW => formOf_other nd zs h3 h5 h hz W hW) (fun W => as_otherForm_attrForm _ W) (fun W => isMono_other W)
      · have h4 : nd.fKind = 4 := by omega
        have hn : zs.length = 2 := by omega
        by_cases hN : nd.fN = 6 ∨ nd.fN = 7
        · rw [monoF_join h4 hn hN]
          exact usage1_plain nd zs hz w hown _ _ (fun W hW => formOf_join nd zs h4 hn hN hz W hW) (fun W => as_joinForm_attrForm _ W) (fun W => isMono_join _ _ _ _ W)
        · by_cases hN2 : nd.fN = 8 ∨ nd.fN = 12
          · rw [monoF_first h4 hn hN2]
            exact usage1_plain nd zs hz w hown _ _ (fun W hW => formOf_first nd zs h4 hn hN2 hz W hW) (fun W => as_firstForm_attrForm _ W) (fun W => isMono_first _ _ _ _ W)
          · have hN3 : nd.fN ≠ 6 ∧ nd.fN ≠ 7 ∧ nd.fN ≠ 8 ∧ nd.fN ≠ 12 := by omega
            rw [monoF_rest h4 hn hN3]
            exact usage1_plain nd zs hz w hown _ _ (fun W hW => formOf_rest nd zs h4 hn hN3 hz W hW) (fun W => as_otherForm_attrForm _ W) (fun W => isMono_other W)

set_option maxHeartbeats 3200000 in
set_option maxRecDepth 100000 in
theorem impl_usageOf {hi c0_0 c1_0 : Nat} {a6 a0 : Option Addr} (x : DExpr) (hsz : x.sz ≤ 1048576) (l : List DOccurrence) (hl : lsz DOccurrence.sz l ≤ 1048576) (w : World) (hhi : hi ≤ w.heap.size) (hs6 : Sf 0 hi w 7 x.fArgs.length (ctE x.fArgs) a6) (hs : Sl 0 hi w 2 l.length (fun k => DOccurrence.ct (l.getD k default)) a0) :
    Calls Try.prog 29 #[.agg #[.int .i64 x.fKind, .int .i64 x.fN, .int .i64 x.fPos, .int .i64 x.fType, .string x.fSymbol, .string x.fName, .slice a6 x.fArgs.length c0_0], .slice a0 l.length c1_0] w fun e w' => e = .returned (.agg #[.bool (usesX l x), .bool (monoX l x)]) ∧ Below w.heap.size w w' := by
  have HB := Lib.hid ((((Below.refl w.heap.size w).alloc (Nat.le_refl _) (.cells #[.int .i64 x.fKind, .int .i64 x.fN, .int .i64 x.fPos, .int .i64 x.fType, .string x.fSymbol, .string x.fName, .slice a6 x.fArgs.length c0_0] 31)).alloc (by simp) (.cells #[.slice a0 l.length c1_0] 33)).alloc (by simp <;> omega) (.cells #[.bool false, .bool false] 64))
  have HS0 := Lib.hid (show (((w.alloc (.cells #[.int .i64 x.fKind, .int .i64 x.fN, .int .i64 x.fPos, .int .i64 x.fType, .string x.fSymbol, .string x.fName, .slice a6 x.fArgs.length c0_0] 31)).alloc (.cells #[.slice a0 l.length c1_0] 33)).alloc (.cells #[.bool false, .bool false] 64)).heap.size = w.heap.size + 3 by simp)
  have HR0 := Lib.hid (show (((w.alloc (.cells #[.int .i64 x.fKind, .int .i64 x.fN, .int .i64 x.fPos, .int .i64 x.fType, .string x.fSymbol, .string x.fName, .slice a6 x.fArgs.length c0_0] 31)).alloc (.cells #[.slice a0 l.length c1_0] 33)).alloc (.cells #[.bool false, .bool false] 64)).heap[w.heap.size + 2]? = some (.cells #[.bool false, .bool false] 64) from blk_new (by simp))
  have HL0 := Lib.hid (show (((w.alloc (.cells #[.int .i64 x.fKind, .int .i64 x.fN, .int .i64 x.fPos, .int .i64 x.fType, .string x.fSymbol, .string x.fName, .slice a6 x.fArgs.length c0_0] 31)).alloc (.cells #[.slice a0 l.length c1_0] 33)).alloc (.cells #[.bool false, .bool false] 64)).cell? ⟨w.heap.size + 1, 0, none⟩ = some (.slice a0 l.length c1_0) from pblk_cell (blk_alloc (by simp) (blk_new (by simp))) rfl)
  have HF := Lib.hid (foldExpr_usage (c6 := c0_0) (combU l) (w.heap.size + 1) x hsz (((w.alloc (.cells #[.int .i64 x.fKind, .int .i64 x.fN, .int .i64 x.fPos, .int .i64 x.fType, .string x.fSymbol, .string x.fName, .slice a6 x.fArgs.length c0_0] 31)).alloc (.cells #[.slice a0 l.length c1_0] 33)).alloc (.cells #[.bool false, .bool false] 64)) (Nat.le_trans hhi HB.out.size) (hs6.later HB.out hhi) (fun nd zs a c B W h1 h2 h3 h4 h5 => usage1 nd zs h2 W h5 l hl (Nat.le_trans hhi (Nat.le_trans HB.out.size h3.size)) (hs.later (HB.out.trans (h3.mono HB.out.size)) hhi) ((h3.cell (p := ⟨w.heap.size + 1, 0, none⟩) (by show w.heap.size + 1 < _; rw [HS0.out]; omega)).trans HL0.out) (by have := h3.size; rw [HS0.out] at this; omega)))
  rw [foldU_depth l x 1] at HF
  have HU := Lib.hid (show (foldX (combU l) x 0).1 = usesX l x from rfl)
  have HM := Lib.hid (show (foldX (combU l) x 0).2 = monoX l x from rfl)
  rw [HU.out, HM.out] at HF
  clear hs hs6 HU HM
  generalize usesX l x = u at *
  generalize monoX l x = m at *
  generalize l.length = ln at *
  go_enter Try.func29, Try.ntmps29
  go_wp2_with fail
  refine HF.out.mono ?_
  rintro e w1 ⟨rfl, hb1⟩
  have HR1 := Lib.hid ((hb1.block (w.heap.size + 2) (by rw [HS0.out]; omega)).trans HR0.out)
  have HB1 := Lib.hid (HB.out.trans (hb1.mono (by rw [HS0.out]; omega)))
  clear hb1
  have r0 := pblk_cell (j := 0) (v := .bool false) HR1.out rfl
  have r1 := pblk_cell (j := 1) (v := .bool false) HR1.out rfl
  have s0 := pblk_frozen (j := 0) HR1.out
  have s1 := pblk_frozen (j := 1) HR1.out
  go_wp2
  refine bodyPost_ret (v := .agg #[.bool u, .bool m]) (results_cell_row Try.results29 _ _ (w.heap.size + 2) 64 #[.bool u, .bool m] (0, 0) _ rfl (pblk_put (pblk_put HR1.out rfl) rfl) Try.underlying64 rfl rfl) rfl ⟨rfl, ?_⟩
  exact Below.setCell (Below.setCell HB1.out (by dsimp only; omega) _) (by dsimp only; omega) _

set_option maxHeartbeats 3200000 in
set_option maxRecDepth 100000 in
theorem impl_UsesAny {hi c0_0 c1_0 : Nat} {a6 a0 : Option Addr} (x : DExpr) (_ : x.ok) (hsz : x.sz ≤ 1048576) (l : List DOccurrence) (_ : okL DOccurrence.ok l) (hl : lsz DOccurrence.sz l ≤ 1048576) (w : World) (hhi : hi ≤ w.heap.size) (hs6 : Sf 0 hi w 7 x.fArgs.length (ctE x.fArgs) a6) (hs : Sf 0 hi w 2 l.length (fun k => DOccurrence.ct (l.getD k default)) a0) :
    Calls Try.prog 11 #[.agg #[.int .i64 x.fKind, .int .i64 x.fN, .int .i64 x.fPos, .int .i64 x.fType, .string x.fSymbol, .string x.fName, .slice a6 x.fArgs.length c0_0], .slice a0 l.length c1_0] w fun e w' => e = .returned (.bool (usesX l x)) ∧ Below w.heap.size w w' := by
  have HB := Lib.hid ((Below.refl w.heap.size w).alloc (Nat.le_refl _) (.cells #[.int .i64 x.fKind, .int .i64 x.fN, .int .i64 x.fPos, .int .i64 x.fType, .string x.fSymbol, .string x.fName, .slice a6 x.fArgs.length c0_0] 31))
  have HF := Lib.hid (impl_usageOf (c0_0 := c0_0) (c1_0 := c1_0) x hsz l hl _ (Nat.le_trans hhi HB.out.size) (hs6.later HB.out hhi) (hs.sl.later HB.out hhi))
  clear hs hs6
  generalize usesX l x = u at *
  generalize monoX l x = m at *
  generalize l.length = ln at *
  have hfld : ∀ w', (Instr.field 64 (.agg #[.bool u, .bool m]) 0).run Try.prog w' = .ok (.bool u) w' := fun _ => by kernel_rfl
  go_enter Try.func11, Try.ntmps11
  go_wp2_with fail
  refine HF.out.mono ?_
  rintro e w1 ⟨rfl, hb1⟩
  have HB1 := Lib.hid (HB.out.trans (hb1.mono HB.out.size))
  clear hb1
  go_wp2
  go_ret
  exact ⟨rfl, HB1.out⟩

set_option maxHeartbeats 3200000 in
set_option maxRecDepth 100000 in
theorem impl_IsMonotone {hi c0_0 c1_0 : Nat} {a6 a0 : Option Addr} (x : DExpr) (_ : x.ok) (hsz : x.sz ≤ 1048576) (l : List DOccurrence) (_ : okL DOccurrence.ok l) (hl : lsz DOccurrence.sz l ≤ 1048576) (w : World) (hhi : hi ≤ w.heap.size) (hs6 : Sf 0 hi w 7 x.fArgs.length (ctE x.fArgs) a6) (hs : Sf 0 hi w 2 l.length (fun k => DOccurrence.ct (l.getD k default)) a0) :
    Calls Try.prog 15 #[.agg #[.int .i64 x.fKind, .int .i64 x.fN, .int .i64 x.fPos, .int .i64 x.fType, .string x.fSymbol, .string x.fName, .slice a6 x.fArgs.length c0_0], .slice a0 l.length c1_0] w fun e w' => e = .returned (.bool (monoX l x)) ∧ Below w.heap.size w w' := by
  have HB := Lib.hid ((Below.refl w.heap.size w).alloc (Nat.le_refl _) (.cells #[.int .i64 x.fKind, .int .i64 x.fN, .int .i64 x.fPos, .int .i64 x.fType, .string x.fSymbol, .string x.fName, .slice a6 x.fArgs.length c0_0] 31))
  have HF := Lib.hid (impl_usageOf (c0_0 := c0_0) (c1_0 := c1_0) x hsz l hl _ (Nat.le_trans hhi HB.out.size) (hs6.later HB.out hhi) (hs.sl.later HB.out hhi))
  clear hs hs6
  generalize usesX l x = u at *
  generalize monoX l x = m at *
  generalize l.length = ln at *
  have hfld : ∀ w', (Instr.field 64 (.agg #[.bool u, .bool m]) 1).run Try.prog w' = .ok (.bool m) w' := fun _ => by kernel_rfl
  go_enter Try.func15, Try.ntmps15
  go_wp2_with fail
  refine HF.out.mono ?_
  rintro e w1 ⟨rfl, hb1⟩
  have HB1 := Lib.hid (HB.out.trans (hb1.mono HB.out.size))
  clear hb1
  go_wp2
  go_ret
  exact ⟨rfl, HB1.out⟩
end Go.Proofs.Ytamilmhnkiepmaa
