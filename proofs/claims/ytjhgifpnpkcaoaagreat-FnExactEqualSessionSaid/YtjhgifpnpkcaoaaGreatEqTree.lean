/-
  EqualTree and SameShape, in the model and in the program.
-/
import Derived.Test.YtjhgifpnpkcaoaaGreatTTree
import Derived.Test.YtjhgifpnpkcaoaaGreatIntsEq
import Derived.Lib.Strings
namespace Go.Proofs.YtjhgifpnpkcaoaaGreat
open Go.ChangeShapes Go.WideShapes Go.ChangeAt Go.RowKit Go.Deep

theorem eqt_toList_inj {x y : ByteArray} (h : x.toList = y.toList) : x = y := by
  rw [Lib.toList_data, Lib.toList_data] at h
  cases x; cases y
  simp only at h
  rw [ByteArray.mk.injEq]
  exact Array.toList_inj.1 h
theorem eqt_ne {x y : ByteArray} (h : x ≠ y) : (x.toList == y.toList) = false := beq_eq_false_iff_ne.2 (fun e => h (eqt_toList_inj e))
def CondN (ids : Bool) (x y : DNode) : Prop := (ids = true → x.fId = y.fId) ∧ x.fParent = y.fParent ∧ x.fPlace = y.fPlace ∧ x.fLiteral = y.fLiteral ∧ x.fRule = y.fRule ∧ x.fChildren = y.fChildren
/-- Whether two nodes agree: with their Ids, or without. -/
noncomputable def sameN (ids : Bool) (x y : DNode) : Bool := by classical exact decide (CondN ids x y)
theorem sameN_no {ids : Bool} {x y : DNode} (h : ¬ CondN ids x y) : sameN ids x y = false := by classical unfold sameN; exact decide_eq_false h
theorem sameN_last {ids : Bool} {x y : DNode} (h0 : ids = true → x.fId = y.fId) (h1 : x.fParent = y.fParent) (h2 : x.fPlace = y.fPlace) (h3 : x.fLiteral = y.fLiteral) (h4 : x.fRule = y.fRule) : sameN ids x y = decide (x.fChildren = y.fChildren) := by
  classical
  unfold sameN
  by_cases h : x.fChildren = y.fChildren
  · rw [decide_eq_true h]; exact decide_eq_true ⟨h0, h1, h2, h3, h4, h⟩
  · rw [decide_eq_false h]; exact decide_eq_false (fun e => h e.2.2.2.2.2)
theorem sameN_true {x y : DNode} (h : x.fId = y.fId) : sameN true x y = sameN false x y := by
  classical
  by_cases hc : CondN false x y
  · unfold sameN; rw [decide_eq_true hc]; exact decide_eq_true ⟨fun _ => h, hc.2⟩
  · rw [sameN_no hc, sameN_no fun e => hc ⟨fun h => (by cases h), e.2⟩]
noncomputable def sameT (ids : Bool) (l m : List DNode) : Bool := by classical exact decide (l.length = m.length ∧ ∀ k, k < l.length → sameN ids (l.getD k default) (m.getD k default) = true)
theorem sameT_len {ids : Bool} {l m : List DNode} (h : ¬ l.length = m.length) : sameT ids l m = false := by classical unfold sameT; exact decide_eq_false fun e => h e.1
theorem sameT_no {ids : Bool} {l m : List DNode} {k : Nat} (hk : k < l.length) (h : sameN ids (l.getD k default) (m.getD k default) = false) : sameT ids l m = false := by
  classical
  unfold sameT
  exact decide_eq_false fun e => by rw [e.2 k hk] at h; cases h
theorem sameT_yes {ids : Bool} {l m : List DNode} (hl : l.length = m.length) (h : ∀ k, k < l.length → sameN ids (l.getD k default) (m.getD k default) = true) : sameT ids l m = true := by classical unfold sameT; exact decide_eq_true ⟨hl, h⟩
theorem node_small {x : DNode} (h : x.sz ≤ 1048576) : x.fChildren.length ≤ 1048576 := by unfold DNode.sz lsz at h; omega

set_option maxHeartbeats 3200000 in
set_option maxRecDepth 100000 in
theorem impl_hasShapeOf {lo hi b b2 : Nat} {a5 a5q : Option Addr} {c5 c5q : Nat} (x y : DNode) (hx : x.sz ≤ 1048576) (hy : y.sz ≤ 1048576) (w : World)
    (p1 : w.cell? ⟨b, 1, none⟩ = some (.int .i64 x.fParent)) (p2 : w.cell? ⟨b, 2, none⟩ = some (.int .i64 x.fPlace)) (p3 : w.cell? ⟨b, 3, none⟩ = some (.int .i64 x.fLiteral)) (p4 : w.cell? ⟨b, 4, none⟩ = some (.string x.fRule)) (p5 : w.cell? ⟨b, 5, none⟩ = some (.slice a5 x.fChildren.length c5))
    (q1 : w.cell? ⟨b2, 1, none⟩ = some (.int .i64 y.fParent)) (q2 : w.cell? ⟨b2, 2, none⟩ = some (.int .i64 y.fPlace)) (q3 : w.cell? ⟨b2, 3, none⟩ = some (.int .i64 y.fLiteral)) (q4 : w.cell? ⟨b2, 4, none⟩ = some (.string y.fRule)) (q5 : w.cell? ⟨b2, 5, none⟩ = some (.slice a5q y.fChildren.length c5q))
    (hs : Sl lo hi w 1 x.fChildren.length (fun k => ictI (x.fChildren.getD k default)) a5) (ht : Sl lo hi w 1 y.fChildren.length (fun k => ictI (y.fChildren.getD k default)) a5q) :
    Calls Tryz.prog 74 #[.pointer (some ⟨b, 0, none⟩), .pointer (some ⟨b2, 0, none⟩)] w fun e w' => e = .returned (.bool (sameN false x y)) ∧ ∃ q, w' = w.drewN q := by
  have HB := Lib.hid (Below.refl w.heap.size w)
  have HE := Lib.hid (fun (W : World) (q : Nat) (hW : W = w.drewN q) => slices_Equal_ints (cap := c5) (cap2 := c5q) x.fChildren y.fChildren (node_small hx) (node_small hy) W (hs.later (hW ▸ (below_drewN (Below.refl hi w) q)) (Nat.le_refl _)) (ht.later (hW ▸ (below_drewN (Below.refl hi w) q)) (Nat.le_refl _)))
  have hno := @sameN_no false x y
  have hlast := @sameN_last false x y
  unfold CondN at hno
  clear hs ht hx hy
  generalize x.fId = id1 at *
  generalize y.fId = id2 at *
  generalize x.fParent = parent1 at *
  generalize y.fParent = parent2 at *
  generalize x.fPlace = place1 at *
  generalize y.fPlace = place2 at *
  generalize x.fLiteral = literal1 at *
  generalize y.fLiteral = literal2 at *
  generalize x.fRule = rule1 at *
  generalize y.fRule = rule2 at *
  generalize x.fChildren = ch1 at *
  generalize y.fChildren = ch2 at *
  generalize sameN false x y = res at *
  by_cases hparent : parent1 = parent2
  · subst hparent
    by_cases hplace : place1 = place2
    · subst hplace
      by_cases hliteral : literal1 = literal2
      · subst hliteral
        by_cases hrule : rule1 = rule2
        · subst hrule
          have fin := Lib.hid (hlast (fun h => by cases h) rfl rfl rfl rfl)
          clear hno hlast
          generalize decide (ch1 = ch2) = rr at *
          go_enter Tryz.func74, Tryz.ntmps74
          go_wp2_with fail
          go_quiet ((go_at_call 95; exact Calls.quiet_of (HE.out _ _ rfl)))
          go_wp2
          go_ret
          exact ⟨ret_b fin.out.symm, _, rfl⟩
        · have fin := Lib.hid (hno (fun e => hrule (e.2.2.2.2.1)))
          have e1 : (rule1.toList == rule2.toList) = false := eqt_ne hrule
          have e2 : (rule1.toList != rule2.toList) = true := by rw [bne, e1]; rfl
          clear hrule hno hlast
          go_enter Tryz.func74, Tryz.ntmps74
          go_wp2_with fail
          go_quiet (fail)
          go_wp2
          go_ret
          exact ⟨ret_b fin.out.symm, _, rfl⟩
      · have fin := Lib.hid (hno (fun e => hliteral (e.2.2.2.1)))
        have e1 : (literal1 == literal2) = false := beq_eq_false_iff_ne.2 hliteral
        have e2 : (literal1 != literal2) = true := by rw [bne, e1]; rfl
        clear hliteral hno hlast
        go_enter Tryz.func74, Tryz.ntmps74
        go_wp2_with fail
        go_quiet (fail)
        go_wp2
        go_ret
        exact ⟨ret_b fin.out.symm, _, rfl⟩
    · have fin := Lib.hid (hno (fun e => hplace (e.2.2.1)))
      have e1 : (place1 == place2) = false := beq_eq_false_iff_ne.2 hplace
      have e2 : (place1 != place2) = true := by rw [bne, e1]; rfl
      clear hplace hno hlast
      go_enter Tryz.func74, Tryz.ntmps74
      go_wp2_with fail
      go_quiet (fail)
      go_wp2
      go_ret
      exact ⟨ret_b fin.out.symm, _, rfl⟩
  · have fin := Lib.hid (hno (fun e => hparent (e.2.1)))
    have e1 : (parent1 == parent2) = false := beq_eq_false_iff_ne.2 hparent
    have e2 : (parent1 != parent2) = true := by rw [bne, e1]; rfl
    clear hparent hno hlast
    go_enter Tryz.func74, Tryz.ntmps74
    go_wp2_with fail
    go_quiet (fail)
    go_wp2
    go_ret
    exact ⟨ret_b fin.out.symm, _, rfl⟩

theorem cell_drewN (w : World) (q : Nat) (p : Addr) : (w.drewN q).cell? p = w.cell? p := by go_simp

set_option maxHeartbeats 3200000 in
set_option maxRecDepth 100000 in
theorem impl_nodeEqual {lo hi b b2 : Nat} {a5 a5q : Option Addr} {c5 c5q : Nat} (x y : DNode) (hx : x.sz ≤ 1048576) (hy : y.sz ≤ 1048576) (w : World)
    (p0 : w.cell? ⟨b, 0, none⟩ = some (.int .i64 x.fId)) (p1 : w.cell? ⟨b, 1, none⟩ = some (.int .i64 x.fParent)) (p2 : w.cell? ⟨b, 2, none⟩ = some (.int .i64 x.fPlace)) (p3 : w.cell? ⟨b, 3, none⟩ = some (.int .i64 x.fLiteral)) (p4 : w.cell? ⟨b, 4, none⟩ = some (.string x.fRule)) (p5 : w.cell? ⟨b, 5, none⟩ = some (.slice a5 x.fChildren.length c5)) 
    (q0 : w.cell? ⟨b2, 0, none⟩ = some (.int .i64 y.fId)) (q1 : w.cell? ⟨b2, 1, none⟩ = some (.int .i64 y.fParent)) (q2 : w.cell? ⟨b2, 2, none⟩ = some (.int .i64 y.fPlace)) (q3 : w.cell? ⟨b2, 3, none⟩ = some (.int .i64 y.fLiteral)) (q4 : w.cell? ⟨b2, 4, none⟩ = some (.string y.fRule)) (q5 : w.cell? ⟨b2, 5, none⟩ = some (.slice a5q y.fChildren.length c5q)) 
    (hs : Sl lo hi w 1 x.fChildren.length (fun k => ictI (x.fChildren.getD k default)) a5) (ht : Sl lo hi w 1 y.fChildren.length (fun k => ictI (y.fChildren.getD k default)) a5q) :
    Calls Tryz.prog 44 #[.pointer (some ⟨b, 0, none⟩), .pointer (some ⟨b2, 0, none⟩)] w fun e w' => e = .returned (.bool (sameN true x y)) ∧ ∃ q, w' = w.drewN q := by
  have HE := Lib.hid (fun (W : World) (q : Nat) (hW : W = w.drewN q) => impl_hasShapeOf (b := b) (b2 := b2) (a5 := a5) (a5q := a5q) (c5 := c5) (c5q := c5q) x y hx hy W (by subst hW; exact (cell_drewN _ _ _).trans p1) (by subst hW; exact (cell_drewN _ _ _).trans p2) (by subst hW; exact (cell_drewN _ _ _).trans p3) (by subst hW; exact (cell_drewN _ _ _).trans p4) (by subst hW; exact (cell_drewN _ _ _).trans p5) (by subst hW; exact (cell_drewN _ _ _).trans q1) (by subst hW; exact (cell_drewN _ _ _).trans q2) (by subst hW; exact (cell_drewN _ _ _).trans q3) (by subst hW; exact (cell_drewN _ _ _).trans q4) (by subst hW; exact (cell_drewN _ _ _).trans q5) (hs.later (hW ▸ (below_drewN (Below.refl hi w) q)) (Nat.le_refl _)) (ht.later (hW ▸ (below_drewN (Below.refl hi w) q)) (Nat.le_refl _)))
  have hno := @sameN_no true x y
  have hyes := @sameN_true x y
  unfold CondN at hno
  clear hs ht hx hy p1 p2 p3 p4 p5 q1 q2 q3 q4 q5
  generalize x.fId = id1 at *
  generalize y.fId = id2 at *
  generalize sameN false x y = rr at *
  generalize sameN true x y = res at *
  by_cases h : id1 = id2
  · subst h
    have fin := Lib.hid (hyes rfl)
    clear hno hyes
    go_enter Tryz.func44, Tryz.ntmps44
    go_wp2_with fail
    go_quiet ((go_at_call 74; exact Calls.quiet_of (HE.out _ _ rfl)))
    go_wp2
    go_ret
    exact ⟨ret_b fin.out.symm, _, rfl⟩
  · have fin := Lib.hid (hno (fun e => h (e.1 rfl)))
    have e1 : (id1 == id2) = false := beq_eq_false_iff_ne.2 h
    clear h hno hyes
    go_enter Tryz.func44, Tryz.ntmps44
    go_wp2_with fail
    go_quiet (fail)
    go_wp2
    go_ret
    exact ⟨ret_b fin.out.symm, _, rfl⟩

set_option maxHeartbeats 3200000 in
set_option maxRecDepth 100000 in
theorem impl_EqualTree1 {lo hi : Nat} {a5 a5q : Option Addr} {c5 c5q : Nat} (x y : DNode) (hx : x.sz ≤ 1048576) (hy : y.sz ≤ 1048576) (w : World) (hhi : hi ≤ w.heap.size) (hs : Sl lo hi w 1 x.fChildren.length (fun k => ictI (x.fChildren.getD k default)) a5) (ht : Sl lo hi w 1 y.fChildren.length (fun k => ictI (y.fChildren.getD k default)) a5q) :
    Calls Tryz.prog 43 #[.agg #[.int .i64 x.fId, .int .i64 x.fParent, .int .i64 x.fPlace, .int .i64 x.fLiteral, .string x.fRule, .slice a5 x.fChildren.length c5], .agg #[.int .i64 y.fId, .int .i64 y.fParent, .int .i64 y.fPlace, .int .i64 y.fLiteral, .string y.fRule, .slice a5q y.fChildren.length c5q]] w fun e w' => e = .returned (.bool (sameN true x y)) ∧ Below w.heap.size w w' := by
  have HB := Lib.hid (((Below.refl w.heap.size w).alloc (Nat.le_refl _) (.cells #[.int .i64 x.fId, .int .i64 x.fParent, .int .i64 x.fPlace, .int .i64 x.fLiteral, .string x.fRule, .slice a5 x.fChildren.length c5] 90)).alloc (by simp) (.cells #[.int .i64 y.fId, .int .i64 y.fParent, .int .i64 y.fPlace, .int .i64 y.fLiteral, .string y.fRule, .slice a5q y.fChildren.length c5q] 90))
  have HC := Lib.hid (impl_nodeEqual (b := w.heap.size) (b2 := w.heap.size + 1) (a5 := a5) (a5q := a5q) (c5 := c5) (c5q := c5q) x y hx hy ((w.alloc (.cells #[.int .i64 x.fId, .int .i64 x.fParent, .int .i64 x.fPlace, .int .i64 x.fLiteral, .string x.fRule, .slice a5 x.fChildren.length c5] 90)).alloc (.cells #[.int .i64 y.fId, .int .i64 y.fParent, .int .i64 y.fPlace, .int .i64 y.fLiteral, .string y.fRule, .slice a5q y.fChildren.length c5q] 90)) (by go_simp) (by go_simp) (by go_simp) (by go_simp) (by go_simp) (by go_simp) (by go_simp) (by go_simp) (by go_simp) (by go_simp) (by go_simp) (by go_simp) (hs.later HB.out hhi) (ht.later HB.out hhi))
  clear hs ht hx hy
  generalize sameN true x y = res at *
  go_enter Tryz.func43, Tryz.ntmps43
  go_wp2_with fail
  refine HC.out.mono ?_
  rintro e w1 ⟨rfl, q, rfl⟩
  go_wp2
  go_ret
  exact ⟨rfl, below_drewN HB.out _⟩

set_option maxHeartbeats 3200000 in
set_option maxRecDepth 100000 in
theorem EqualFunc_EqualTree {lo hi cap cap2 : Nat} {a a2 : Option Addr} (l m : List DNode) (hl : lsz DNode.sz l ≤ 1048576) (hm : lsz DNode.sz m ≤ 1048576) (w : World) (hhi : hi ≤ w.heap.size) (hs : Sl lo hi w 6 l.length (fun k => DNode.ct (l.getD k default)) a) (hs2 : Sl lo hi w 6 m.length (fun k => DNode.ct (m.getD k default)) a2) :
    Calls Tryz.prog 42 #[.slice a l.length cap, .slice a2 m.length cap2, .func (.func 43) #[] #[]] w fun e w' => e = .returned (.bool (sameT true l m)) ∧ Below w.heap.size w w' := by
  have hn : l.length ≤ 1048576 := by unfold lsz at hl; omega
  have hn2 : m.length ≤ 1048576 := by unfold lsz at hm; omega
  by_cases hlen : l.length = m.length
  · have HS := Lib.hid hs
    have HS2 := Lib.hid hs2
    have HL := Lib.hid hlen
    have HSZ := Lib.hid (fun k (hk : k < l.length) => Nat.le_trans (szle_at (f := DNode.sz) l k hk) hl)
    have HSZ2 := Lib.hid (fun k (hk : k < m.length) => Nat.le_trans (szle_at (f := DNode.sz) m k hk) hm)
    have e0 : ((l.length : Int) == (m.length : Int)) = true := by rw [hlen]; exact beq_self_eq_true _
    have e00 : ((l.length : Int) != (m.length : Int)) = false := by rw [bne, e0]; rfl
    clear hs hs2 hlen hl hm
    go_enter Tryz.func42, Tryz.ntmps42
    go_wp2
    go_loopw [17] (fun i wr => ∃ k : Nat, k ≤ l.length ∧ i = .int .i64 (k : Int) ∧ (∀ jj, jj < k → sameN true (l.getD jj default) (m.getD jj default) = true) ∧ Below w.heap.size w wr) (fun i _ => l.length - (intOf i).toNat)
    case atStart => exact ⟨0, Nat.zero_le _, rfl, fun _ h => absurd h (Nat.not_lt_zero _), Below.refl _ _⟩
    case round =>
      obtain ⟨k, hk, rfl, heq, hbl⟩ := hrel
      have HE := Lib.hid heq
      have HB := Lib.hid hbl
      clear heq
      by_cases hlt : k < l.length
      · have hltm : k < m.length := by rw [← HL.out]; exact hlt
        have SX := Lib.hid (HS.out.later (hbl.mono hhi) (Nat.le_refl _))
        have SY := Lib.hid (HS2.out.later (hbl.mono hhi) (Nat.le_refl _))
        obtain ⟨b, off, rfl, _, hb_, hc⟩ := SX.out.at k hlt
        obtain ⟨b2, off2, rfl, _, hb2_, hc2⟩ := SY.out.at k hltm
        obtain ⟨a5, c5, hc0, hc1, hc2_, hc3, hc4, hc5, hs5⟩ := DNode.open hc
        obtain ⟨a5q, c5q, hd0, hd1, hd2, hd3, hd4, hd5, ht5⟩ := DNode.open hc2
        have HC := Lib.hid (fun (W : World) (hW : Below wr.heap.size wr W) => impl_EqualTree1 (a5 := a5) (a5q := a5q) (c5 := c5) (c5q := c5q) (l.getD k default) (m.getD k default) (HSZ.out k hlt) (HSZ2.out k hltm) W (Nat.le_trans hhi (Nat.le_trans HB.out.size hW.size)) (hs5.later (hW.mono (Nat.le_trans hhi HB.out.size)) (Nat.le_refl _)) (ht5.later (hW.mono (Nat.le_trans hhi HB.out.size)) (Nat.le_refl _)))
        have bl2 : b2 < wr.heap.size := Nat.lt_of_lt_of_le hb2_ (Nat.le_trans hhi HB.out.size)
        have bl1 : b < wr.heap.size := Nat.lt_of_lt_of_le hb_ (Nat.le_trans hhi HB.out.size)
        have f0 : ∀ o, (wr.alloc o).cell? ⟨b2, off2 + k * 6, none⟩ = some (.int .i64 (m.getD k default).fId) := fun o => (((Below.refl wr.heap.size wr).alloc (Nat.le_refl _) o).cell (p := ⟨b2, off2 + k * 6, none⟩) bl2).trans hd0
        have f1 : ∀ o, (wr.alloc o).cell? ⟨b2, off2 + k * 6 + 1, none⟩ = some (.int .i64 (m.getD k default).fParent) := fun o => (((Below.refl wr.heap.size wr).alloc (Nat.le_refl _) o).cell (p := ⟨b2, off2 + k * 6 + 1, none⟩) bl2).trans hd1
        have f2 : ∀ o, (wr.alloc o).cell? ⟨b2, off2 + k * 6 + 2, none⟩ = some (.int .i64 (m.getD k default).fPlace) := fun o => (((Below.refl wr.heap.size wr).alloc (Nat.le_refl _) o).cell (p := ⟨b2, off2 + k * 6 + 2, none⟩) bl2).trans hd2
        have f3 : ∀ o, (wr.alloc o).cell? ⟨b2, off2 + k * 6 + 3, none⟩ = some (.int .i64 (m.getD k default).fLiteral) := fun o => (((Below.refl wr.heap.size wr).alloc (Nat.le_refl _) o).cell (p := ⟨b2, off2 + k * 6 + 3, none⟩) bl2).trans hd3
        have f4 : ∀ o, (wr.alloc o).cell? ⟨b2, off2 + k * 6 + 4, none⟩ = some (.string (m.getD k default).fRule) := fun o => (((Below.refl wr.heap.size wr).alloc (Nat.le_refl _) o).cell (p := ⟨b2, off2 + k * 6 + 4, none⟩) bl2).trans hd4
        have f5 : ∀ o, (wr.alloc o).cell? ⟨b2, off2 + k * 6 + 5, none⟩ = some (.slice a5q (m.getD k default).fChildren.length c5q) := fun o => (((Below.refl wr.heap.size wr).alloc (Nat.le_refl _) o).cell (p := ⟨b2, off2 + k * 6 + 5, none⟩) bl2).trans hd5
        clear hc hc2 hs5 ht5 hbl
        by_cases h1 : sameN true (l.getD k default) (m.getD k default) = true
        · have HE2 := Lib.hid (show ∀ jj, jj < k + 1 → sameN true (l.getD jj default) (m.getD jj default) = true from fun jj hj => by
            rcases Nat.lt_succ_iff_lt_or_eq.1 hj with h | h
            · exact HE.out jj h
            · rw [h]; exact h1)
          rw [h1] at HC
          clear h1
          generalize l.getD k default = x at *
          generalize m.getD k default = y at *
          go_wp2_with fail
          refine (HC.out _ (by repeat (first | (with_reducible exact Below.refl _ _) | (with_reducible apply Below.drew) | (refine Below.setCell ?_ (by simp <;> omega) _) | (refine Below.alloc ?_ (by simp <;> omega) _)) : Below wr.heap.size wr _)).mono ?_
          rintro e w1 ⟨rfl, hb1⟩
          have HB1 := Lib.hid (((by repeat (first | (with_reducible exact Below.refl _ _) | (with_reducible apply Below.drew) | (refine Below.setCell ?_ (by simp <;> omega) _) | (refine Below.alloc ?_ (by simp <;> omega) _)) : Below wr.heap.size wr _)).trans (hb1.mono ((by repeat (first | (with_reducible exact Below.refl _ _) | (with_reducible apply Below.drew) | (refine Below.setCell ?_ (by simp <;> omega) _) | (refine Below.alloc ?_ (by simp <;> omega) _)) : Below wr.heap.size wr _)).size))
          clear hb1
          go_wp2
          go_roundw
          case rel => exact ⟨k + 1, by omega, by go_num, HE2.out, HB.out.trans (HB1.out.mono HB.out.size)⟩
          case measure => simp [intOf]; omega
        · have h2 : sameN true (l.getD k default) (m.getD k default) = false := by cases hq : sameN true (l.getD k default) (m.getD k default); rfl; exact absurd hq h1
          have fin := Lib.hid (sameT_no hlt h2)
          rw [h2] at HC
          clear h1 h2
          generalize l.getD k default = x at *
          generalize m.getD k default = y at *
          go_wp2_with fail
          refine (HC.out _ (by repeat (first | (with_reducible exact Below.refl _ _) | (with_reducible apply Below.drew) | (refine Below.setCell ?_ (by simp <;> omega) _) | (refine Below.alloc ?_ (by simp <;> omega) _)) : Below wr.heap.size wr _)).mono ?_
          rintro e w1 ⟨rfl, hb1⟩
          have HB1 := Lib.hid (((by repeat (first | (with_reducible exact Below.refl _ _) | (with_reducible apply Below.drew) | (refine Below.setCell ?_ (by simp <;> omega) _) | (refine Below.alloc ?_ (by simp <;> omega) _)) : Below wr.heap.size wr _)).trans (hb1.mono ((by repeat (first | (with_reducible exact Below.refl _ _) | (with_reducible apply Below.drew) | (refine Below.setCell ?_ (by simp <;> omega) _) | (refine Below.alloc ?_ (by simp <;> omega) _)) : Below wr.heap.size wr _)).size))
          clear hb1
          go_wp2
          go_ret
          exact ⟨ret_b fin.out.symm, HB.out.trans (HB1.out.mono HB.out.size)⟩
      · obtain rfl : k = l.length := by omega
        have fin := Lib.hid (sameT_yes HL.out HE.out)
        go_wp2
        go_ret
        exact ⟨ret_b fin.out.symm, HB.out⟩
  · have fin := Lib.hid (sameT_len (ids := true) hlen)
    have e0 : ((l.length : Int) == (m.length : Int)) = false := beq_eq_false_iff_ne.2 (by omega)
    have e00 : ((l.length : Int) != (m.length : Int)) = true := by rw [bne, e0]; rfl
    clear hs hs2 hlen
    generalize sameT true l m = res at *
    go_enter Tryz.func42, Tryz.ntmps42
    go_wp2
    go_ret
    exact ⟨ret_b fin.out.symm, Below.refl _ _⟩

set_option maxHeartbeats 3200000 in
set_option maxRecDepth 100000 in
theorem impl_EqualTree {lo hi : Nat} {a0 a1 : Option Addr} {c0_0 c1_0 : Nat} (x : DTree) (_ : x.ok) (hx : x.sz ≤ 1048576) (y : DTree) (_ : y.ok) (hy : y.sz ≤ 1048576) (w : World) (hhi : hi ≤ w.heap.size) (hs : Sl lo hi w 6 x.fNodes.length (fun k => DNode.ct (x.fNodes.getD k default)) a0) (ht : Sl lo hi w 6 y.fNodes.length (fun k => DNode.ct (y.fNodes.getD k default)) a1) :
    Calls Tryz.prog 19 #[.agg #[.slice a0 x.fNodes.length c0_0], .agg #[.slice a1 y.fNodes.length c1_0]] w fun e w' => e = .returned (.bool (sameT true x.fNodes y.fNodes)) ∧ Below w.heap.size w w' := by
  have HB := Lib.hid (((Below.refl w.heap.size w).alloc (Nat.le_refl _) (.cells #[.slice a0 x.fNodes.length c0_0] 43)).alloc (by simp) (.cells #[.slice a1 y.fNodes.length c1_0] 43))
  have HC := Lib.hid (EqualFunc_EqualTree (cap := c0_0) (cap2 := c1_0) x.fNodes y.fNodes hx hy _ (Nat.le_trans hhi HB.out.size) (hs.later HB.out hhi) (ht.later HB.out hhi))
  clear hs ht hx hy
  generalize sameT true x.fNodes y.fNodes = res at *
  generalize x.fNodes = l at *
  generalize y.fNodes = m at *
  go_enter Tryz.func19, Tryz.ntmps19
  go_wp2_with fail
  refine HC.out.mono ?_
  rintro e w1 ⟨rfl, hb1⟩
  have HB1 := Lib.hid (HB.out.trans (hb1.mono HB.out.size))
  clear hb1
  go_wp2
  go_ret
  exact ⟨rfl, HB1.out⟩

set_option maxHeartbeats 3200000 in
set_option maxRecDepth 100000 in
theorem spec_l13Same_true {lo hi cap cap2 : Nat} {a a2 : Option Addr} (l m : List DNode) (hl : lsz DNode.sz l ≤ 1048576) (hm : lsz DNode.sz m ≤ 1048576) (w : World) (hhi : hi ≤ w.heap.size) (hs : Sl lo hi w 6 l.length (fun k => DNode.ct (l.getD k default)) a) (hs2 : Sl lo hi w 6 m.length (fun k => DNode.ct (m.getD k default)) a2) :
    Calls Tryz.prog 31 #[.agg #[.slice a l.length cap], .agg #[.slice a2 m.length cap2], .bool true] w fun e w' => e = .returned (.bool (sameT true l m)) ∧ Below w.heap.size w w' := by
  have hn : l.length ≤ 1048576 := by unfold lsz at hl; omega
  have hn2 : m.length ≤ 1048576 := by unfold lsz at hm; omega
  have HW0 := Lib.hid (((Below.refl w.heap.size w).alloc (Nat.le_refl _) (.cells #[.slice a l.length cap] 43)).alloc (by simp) (.cells #[.slice a2 m.length cap2] 43))
  by_cases hlen : l.length = m.length
  · have HS := Lib.hid hs
    have HS2 := Lib.hid hs2
    have HL := Lib.hid hlen
    have HSZ := Lib.hid (fun k (hk : k < l.length) => Nat.le_trans (szle_at (f := DNode.sz) l k hk) hl)
    have HSZ2 := Lib.hid (fun k (hk : k < m.length) => Nat.le_trans (szle_at (f := DNode.sz) m k hk) hm)
    have e0 : ((l.length : Int) == (m.length : Int)) = true := by rw [hlen]; exact beq_self_eq_true _
    have e00 : ((l.length : Int) != (m.length : Int)) = false := by rw [bne, e0]; rfl
    clear hs hs2 hlen hl hm
    go_enter Tryz.func31, Tryz.ntmps31
    go_wp2
    go_loopw [7] (fun i wr => ∃ k : Nat, k ≤ l.length ∧ i = .int .i64 (k : Int) ∧ (∀ jj, jj < k → sameN true (l.getD jj default) (m.getD jj default) = true) ∧ Below (w.heap.size + 2) ((w.alloc (.cells #[.slice a l.length cap] 43)).alloc (.cells #[.slice a2 m.length cap2] 43)) wr) (fun i _ => l.length - (intOf i).toNat)
    case atStart => exact ⟨0, Nat.zero_le _, rfl, fun _ h => absurd h (Nat.not_lt_zero _), Below.refl _ _⟩
    case round =>
      obtain ⟨k, hk, rfl, heq, hbl⟩ := hrel
      have HE := Lib.hid heq
      have HBL := Lib.hid hbl
      have hbw : Below w.heap.size w wr := HW0.out.trans (hbl.mono (by omega))
      have HBW := Lib.hid hbw
      have p3 : wr.cell? ⟨w.heap.size, 0, none⟩ = some (.slice a l.length cap) := (hbl.cell (p := ⟨w.heap.size, 0, none⟩) (by show w.heap.size < w.heap.size + 2; omega)).trans (by go_simp)
      have p4 : wr.cell? ⟨w.heap.size + 1, 0, none⟩ = some (.slice a2 m.length cap2) := (hbl.cell (p := ⟨w.heap.size + 1, 0, none⟩) (by show w.heap.size + 1 < w.heap.size + 2; omega)).trans (by go_simp)
      have hsz2 : w.heap.size + 2 ≤ wr.heap.size := Nat.le_trans (by simp) hbl.size
      have p5 : ∀ o, (wr.alloc o).cell? ⟨w.heap.size + 1, 0, none⟩ = some (.slice a2 m.length cap2) := fun o => (((Below.refl wr.heap.size wr).alloc (Nat.le_refl _) o).cell (p := ⟨w.heap.size + 1, 0, none⟩) (by show w.heap.size + 1 < wr.heap.size; omega)).trans p4
      clear heq
      by_cases hlt : k < l.length
      · have hltm : k < m.length := by rw [← HL.out]; exact hlt
        obtain ⟨b, off, rfl, _, hb_, hc⟩ := (HS.out.later (hbw.mono hhi) (Nat.le_refl _)).at k hlt
        obtain ⟨b2, off2, rfl, _, hb2_, hc2⟩ := (HS2.out.later (hbw.mono hhi) (Nat.le_refl _)).at k hltm
        obtain ⟨a5, c5, hc0, hc1, hc2_, hc3, hc4, hc5, hs5⟩ := DNode.open hc
        obtain ⟨a5q, c5q, hd0, hd1, hd2, hd3, hd4, hd5, ht5⟩ := DNode.open hc2
        have HE0 := Lib.hid (fun (W : World) (hW : Below wr.heap.size wr W) => spec_l1Ints (cap := c5) (cap2 := c5q) (l.getD k default).fChildren (m.getD k default).fChildren (node_small (HSZ.out k hlt)) (node_small (HSZ2.out k hltm)) W (hs5.later (hW.mono (Nat.le_trans hhi HBW.out.size)) (Nat.le_refl _)) (ht5.later (hW.mono (Nat.le_trans hhi HBW.out.size)) (Nat.le_refl _)))
        have bl2 : b2 < wr.heap.size := Nat.lt_of_lt_of_le hb2_ (Nat.le_trans hhi HBW.out.size)
        have bl1 : b < wr.heap.size := Nat.lt_of_lt_of_le hb_ (Nat.le_trans hhi HBW.out.size)
        have f0 : ∀ o, (wr.alloc o).cell? ⟨b2, off2 + k * 6, none⟩ = some (.int .i64 (m.getD k default).fId) := fun o => (((Below.refl wr.heap.size wr).alloc (Nat.le_refl _) o).cell (p := ⟨b2, off2 + k * 6, none⟩) bl2).trans hd0
        have f1 : ∀ o, (wr.alloc o).cell? ⟨b2, off2 + k * 6 + 1, none⟩ = some (.int .i64 (m.getD k default).fParent) := fun o => (((Below.refl wr.heap.size wr).alloc (Nat.le_refl _) o).cell (p := ⟨b2, off2 + k * 6 + 1, none⟩) bl2).trans hd1
        have f2 : ∀ o, (wr.alloc o).cell? ⟨b2, off2 + k * 6 + 2, none⟩ = some (.int .i64 (m.getD k default).fPlace) := fun o => (((Below.refl wr.heap.size wr).alloc (Nat.le_refl _) o).cell (p := ⟨b2, off2 + k * 6 + 2, none⟩) bl2).trans hd2
        have f3 : ∀ o, (wr.alloc o).cell? ⟨b2, off2 + k * 6 + 3, none⟩ = some (.int .i64 (m.getD k default).fLiteral) := fun o => (((Below.refl wr.heap.size wr).alloc (Nat.le_refl _) o).cell (p := ⟨b2, off2 + k * 6 + 3, none⟩) bl2).trans hd3
        have f4 : ∀ o, (wr.alloc o).cell? ⟨b2, off2 + k * 6 + 4, none⟩ = some (.string (m.getD k default).fRule) := fun o => (((Below.refl wr.heap.size wr).alloc (Nat.le_refl _) o).cell (p := ⟨b2, off2 + k * 6 + 4, none⟩) bl2).trans hd4
        have f5 : ∀ o, (wr.alloc o).cell? ⟨b2, off2 + k * 6 + 5, none⟩ = some (.slice a5q (m.getD k default).fChildren.length c5q) := fun o => (((Below.refl wr.heap.size wr).alloc (Nat.le_refl _) o).cell (p := ⟨b2, off2 + k * 6 + 5, none⟩) bl2).trans hd5
        have HPS := Lib.hid (show sameN true (l.getD k default) (m.getD k default) = true → ∀ jj, jj < k + 1 → sameN true (l.getD jj default) (m.getD jj default) = true from fun h1 jj hj => by
          rcases Nat.lt_succ_iff_lt_or_eq.1 hj with h | h
          · exact HE.out jj h
          · rw [h]; exact h1)
        have HNO := Lib.hid (fun h => sameT_no (ids := true) (m := m) hlt h)
        clear hc hc2 hs5 ht5 hbl hbw
        generalize l.getD k default = x at *
        generalize m.getD k default = y at *
        have hno : ¬ CondN true x y → sameT true l m = false := fun h => HNO.out (sameN_no h)
        have hlast := @sameN_last true x y
        unfold CondN at hno
        generalize x.fId = id1 at *
        generalize y.fId = id2 at *
        generalize x.fParent = parent1 at *
        generalize y.fParent = parent2 at *
        generalize x.fPlace = place1 at *
        generalize y.fPlace = place2 at *
        generalize x.fLiteral = literal1 at *
        generalize y.fLiteral = literal2 at *
        generalize x.fRule = rule1 at *
        generalize y.fRule = rule2 at *
        generalize x.fChildren = ch1 at *
        generalize y.fChildren = ch2 at *
        by_cases hid : id1 = id2
        · subst hid
          by_cases hparent : parent1 = parent2
          · subst hparent
            by_cases hplace : place1 = place2
            · subst hplace
              by_cases hliteral : literal1 = literal2
              · subst hliteral
                by_cases hrule : rule1 = rule2
                · subst hrule
                  have hlst := hlast (fun _ => rfl) rfl rfl rfl rfl
                  clear hno hlast
                  by_cases hch : ch1 = ch2
                  · have HPS2 := Lib.hid (HPS.out (by rw [hlst]; exact decide_eq_true hch))
                    have HE1 := Lib.hid (fun W hW => by have h := HE0.out W hW; rw [decide_eq_true hch] at h; exact h)
                    clear hlst hch HE0 HPS HNO
                    go_wp2_with fail
                    refine (HE1.out _ (by repeat (first | (with_reducible exact Below.refl _ _) | (with_reducible refine below_drewN ?_ _) | (with_reducible apply Below.drew) | (refine Below.alloc ?_ (by simp <;> omega) _)) : Below wr.heap.size wr _)).mono ?_
                    rintro e w1 ⟨rfl, q, rfl⟩
                    go_wp2
                    go_roundw
                    case rel => exact ⟨k + 1, by omega, by go_num, HPS2.out, HBL.out.trans ((by repeat (first | (with_reducible exact Below.refl _ _) | (with_reducible refine below_drewN ?_ _) | (with_reducible apply Below.drew) | (refine Below.alloc ?_ (by simp <;> omega) _)) : Below wr.heap.size wr _).mono hsz2)⟩
                    case measure => simp [intOf]; omega
                  · have fin := Lib.hid (HNO.out (by rw [hlst]; exact decide_eq_false hch))
                    have HE1 := Lib.hid (fun W hW => by have h := HE0.out W hW; rw [decide_eq_false hch] at h; exact h)
                    clear hlst hch HE0 HPS HNO
                    go_wp2_with fail
                    refine (HE1.out _ (by repeat (first | (with_reducible exact Below.refl _ _) | (with_reducible refine below_drewN ?_ _) | (with_reducible apply Below.drew) | (refine Below.alloc ?_ (by simp <;> omega) _)) : Below wr.heap.size wr _)).mono ?_
                    rintro e w1 ⟨rfl, q, rfl⟩
                    go_wp2
                    go_ret
                    exact ⟨ret_b fin.out.symm, HBW.out.trans ((by repeat (first | (with_reducible exact Below.refl _ _) | (with_reducible refine below_drewN ?_ _) | (with_reducible apply Below.drew) | (refine Below.alloc ?_ (by simp <;> omega) _)) : Below wr.heap.size wr _).mono HBW.out.size)⟩
                · have fin := Lib.hid (hno (fun e => hrule (e.2.2.2.2.1)))
                  have e1 : (rule1.toList == rule2.toList) = false := eqt_ne hrule
                  have e2 : (rule1.toList != rule2.toList) = true := by rw [bne, e1]; rfl
                  clear hrule hno hlast
                  go_wp2
                  go_ret
                  exact ⟨ret_b fin.out.symm, HBW.out.trans ((by repeat (first | (with_reducible exact Below.refl _ _) | (with_reducible refine below_drewN ?_ _) | (with_reducible apply Below.drew) | (refine Below.alloc ?_ (by simp <;> omega) _)) : Below wr.heap.size wr _).mono HBW.out.size)⟩
              · have fin := Lib.hid (hno (fun e => hliteral (e.2.2.2.1)))
                have e1 : (literal1 == literal2) = false := beq_eq_false_iff_ne.2 hliteral
                have e2 : (literal1 != literal2) = true := by rw [bne, e1]; rfl
                clear hliteral hno hlast
                go_wp2
                go_ret
                exact ⟨ret_b fin.out.symm, HBW.out.trans ((by repeat (first | (with_reducible exact Below.refl _ _) | (with_reducible refine below_drewN ?_ _) | (with_reducible apply Below.drew) | (refine Below.alloc ?_ (by simp <;> omega) _)) : Below wr.heap.size wr _).mono HBW.out.size)⟩
            · have fin := Lib.hid (hno (fun e => hplace (e.2.2.1)))
              have e1 : (place1 == place2) = false := beq_eq_false_iff_ne.2 hplace
              have e2 : (place1 != place2) = true := by rw [bne, e1]; rfl
              clear hplace hno hlast
              go_wp2
              go_ret
              exact ⟨ret_b fin.out.symm, HBW.out.trans ((by repeat (first | (with_reducible exact Below.refl _ _) | (with_reducible refine below_drewN ?_ _) | (with_reducible apply Below.drew) | (refine Below.alloc ?_ (by simp <;> omega) _)) : Below wr.heap.size wr _).mono HBW.out.size)⟩
          · have fin := Lib.hid (hno (fun e => hparent (e.2.1)))
            have e1 : (parent1 == parent2) = false := beq_eq_false_iff_ne.2 hparent
            have e2 : (parent1 != parent2) = true := by rw [bne, e1]; rfl
            clear hparent hno hlast
            go_wp2
            go_ret
            exact ⟨ret_b fin.out.symm, HBW.out.trans ((by repeat (first | (with_reducible exact Below.refl _ _) | (with_reducible refine below_drewN ?_ _) | (with_reducible apply Below.drew) | (refine Below.alloc ?_ (by simp <;> omega) _)) : Below wr.heap.size wr _).mono HBW.out.size)⟩
        · have fin := Lib.hid (hno (fun e => hid (e.1 rfl)))
          have e1 : (id1 == id2) = false := beq_eq_false_iff_ne.2 hid
          have e2 : (id1 != id2) = true := by rw [bne, e1]; rfl
          clear hid hno hlast
          go_wp2
          go_ret
          exact ⟨ret_b fin.out.symm, HBW.out.trans ((by repeat (first | (with_reducible exact Below.refl _ _) | (with_reducible refine below_drewN ?_ _) | (with_reducible apply Below.drew) | (refine Below.alloc ?_ (by simp <;> omega) _)) : Below wr.heap.size wr _).mono HBW.out.size)⟩
      · obtain rfl : k = l.length := by omega
        have fin := Lib.hid (sameT_yes HL.out HE.out)
        clear hbl hbw
        go_wp2
        go_ret
        exact ⟨ret_b fin.out.symm, HBW.out⟩
  · have fin := Lib.hid (sameT_len (ids := true) hlen)
    have e0 : ((l.length : Int) == (m.length : Int)) = false := beq_eq_false_iff_ne.2 (by omega)
    have e00 : ((l.length : Int) != (m.length : Int)) = true := by rw [bne, e0]; rfl
    clear hs hs2 hlen
    go_enter Tryz.func31, Tryz.ntmps31
    go_wp2
    go_ret
    exact ⟨ret_b fin.out.symm, HW0.out⟩

set_option maxHeartbeats 3200000 in
set_option maxRecDepth 100000 in
theorem spec_l13Same_false {lo hi cap cap2 : Nat} {a a2 : Option Addr} (l m : List DNode) (hl : lsz DNode.sz l ≤ 1048576) (hm : lsz DNode.sz m ≤ 1048576) (w : World) (hhi : hi ≤ w.heap.size) (hs : Sl lo hi w 6 l.length (fun k => DNode.ct (l.getD k default)) a) (hs2 : Sl lo hi w 6 m.length (fun k => DNode.ct (m.getD k default)) a2) :
    Calls Tryz.prog 31 #[.agg #[.slice a l.length cap], .agg #[.slice a2 m.length cap2], .bool false] w fun e w' => e = .returned (.bool (sameT false l m)) ∧ Below w.heap.size w w' := by
  have hn : l.length ≤ 1048576 := by unfold lsz at hl; omega
  have hn2 : m.length ≤ 1048576 := by unfold lsz at hm; omega
  have HW0 := Lib.hid (((Below.refl w.heap.size w).alloc (Nat.le_refl _) (.cells #[.slice a l.length cap] 43)).alloc (by simp) (.cells #[.slice a2 m.length cap2] 43))
  by_cases hlen : l.length = m.length
  · have HS := Lib.hid hs
    have HS2 := Lib.hid hs2
    have HL := Lib.hid hlen
    have HSZ := Lib.hid (fun k (hk : k < l.length) => Nat.le_trans (szle_at (f := DNode.sz) l k hk) hl)
    have HSZ2 := Lib.hid (fun k (hk : k < m.length) => Nat.le_trans (szle_at (f := DNode.sz) m k hk) hm)
    have e0 : ((l.length : Int) == (m.length : Int)) = true := by rw [hlen]; exact beq_self_eq_true _
    have e00 : ((l.length : Int) != (m.length : Int)) = false := by rw [bne, e0]; rfl
    clear hs hs2 hlen hl hm
    go_enter Tryz.func31, Tryz.ntmps31
    go_wp2
    go_loopw [7] (fun i wr => ∃ k : Nat, k ≤ l.length ∧ i = .int .i64 (k : Int) ∧ (∀ jj, jj < k → sameN false (l.getD jj default) (m.getD jj default) = true) ∧ Below (w.heap.size + 2) ((w.alloc (.cells #[.slice a l.length cap] 43)).alloc (.cells #[.slice a2 m.length cap2] 43)) wr) (fun i _ => l.length - (intOf i).toNat)
    case atStart => exact ⟨0, Nat.zero_le _, rfl, fun _ h => absurd h (Nat.not_lt_zero _), Below.refl _ _⟩
    case round =>
      obtain ⟨k, hk, rfl, heq, hbl⟩ := hrel
      have HE := Lib.hid heq
      have HBL := Lib.hid hbl
      have hbw : Below w.heap.size w wr := HW0.out.trans (hbl.mono (by omega))
      have HBW := Lib.hid hbw
      have p3 : wr.cell? ⟨w.heap.size, 0, none⟩ = some (.slice a l.length cap) := (hbl.cell (p := ⟨w.heap.size, 0, none⟩) (by show w.heap.size < w.heap.size + 2; omega)).trans (by go_simp)
      have p4 : wr.cell? ⟨w.heap.size + 1, 0, none⟩ = some (.slice a2 m.length cap2) := (hbl.cell (p := ⟨w.heap.size + 1, 0, none⟩) (by show w.heap.size + 1 < w.heap.size + 2; omega)).trans (by go_simp)
      have hsz2 : w.heap.size + 2 ≤ wr.heap.size := Nat.le_trans (by simp) hbl.size
      have p5 : ∀ o, (wr.alloc o).cell? ⟨w.heap.size + 1, 0, none⟩ = some (.slice a2 m.length cap2) := fun o => (((Below.refl wr.heap.size wr).alloc (Nat.le_refl _) o).cell (p := ⟨w.heap.size + 1, 0, none⟩) (by show w.heap.size + 1 < wr.heap.size; omega)).trans p4
      clear heq
      by_cases hlt : k < l.length
      · have hltm : k < m.length := by rw [← HL.out]; exact hlt
        obtain ⟨b, off, rfl, _, hb_, hc⟩ := (HS.out.later (hbw.mono hhi) (Nat.le_refl _)).at k hlt
        obtain ⟨b2, off2, rfl, _, hb2_, hc2⟩ := (HS2.out.later (hbw.mono hhi) (Nat.le_refl _)).at k hltm
        obtain ⟨a5, c5, hc0, hc1, hc2_, hc3, hc4, hc5, hs5⟩ := DNode.open hc
        obtain ⟨a5q, c5q, hd0, hd1, hd2, hd3, hd4, hd5, ht5⟩ := DNode.open hc2
        have HE0 := Lib.hid (fun (W : World) (hW : Below wr.heap.size wr W) => spec_l1Ints (cap := c5) (cap2 := c5q) (l.getD k default).fChildren (m.getD k default).fChildren (node_small (HSZ.out k hlt)) (node_small (HSZ2.out k hltm)) W (hs5.later (hW.mono (Nat.le_trans hhi HBW.out.size)) (Nat.le_refl _)) (ht5.later (hW.mono (Nat.le_trans hhi HBW.out.size)) (Nat.le_refl _)))
        have bl2 : b2 < wr.heap.size := Nat.lt_of_lt_of_le hb2_ (Nat.le_trans hhi HBW.out.size)
        have bl1 : b < wr.heap.size := Nat.lt_of_lt_of_le hb_ (Nat.le_trans hhi HBW.out.size)
        have f0 : ∀ o, (wr.alloc o).cell? ⟨b2, off2 + k * 6, none⟩ = some (.int .i64 (m.getD k default).fId) := fun o => (((Below.refl wr.heap.size wr).alloc (Nat.le_refl _) o).cell (p := ⟨b2, off2 + k * 6, none⟩) bl2).trans hd0
        have f1 : ∀ o, (wr.alloc o).cell? ⟨b2, off2 + k * 6 + 1, none⟩ = some (.int .i64 (m.getD k default).fParent) := fun o => (((Below.refl wr.heap.size wr).alloc (Nat.le_refl _) o).cell (p := ⟨b2, off2 + k * 6 + 1, none⟩) bl2).trans hd1
        have f2 : ∀ o, (wr.alloc o).cell? ⟨b2, off2 + k * 6 + 2, none⟩ = some (.int .i64 (m.getD k default).fPlace) := fun o => (((Below.refl wr.heap.size wr).alloc (Nat.le_refl _) o).cell (p := ⟨b2, off2 + k * 6 + 2, none⟩) bl2).trans hd2
        have f3 : ∀ o, (wr.alloc o).cell? ⟨b2, off2 + k * 6 + 3, none⟩ = some (.int .i64 (m.getD k default).fLiteral) := fun o => (((Below.refl wr.heap.size wr).alloc (Nat.le_refl _) o).cell (p := ⟨b2, off2 + k * 6 + 3, none⟩) bl2).trans hd3
        have f4 : ∀ o, (wr.alloc o).cell? ⟨b2, off2 + k * 6 + 4, none⟩ = some (.string (m.getD k default).fRule) := fun o => (((Below.refl wr.heap.size wr).alloc (Nat.le_refl _) o).cell (p := ⟨b2, off2 + k * 6 + 4, none⟩) bl2).trans hd4
        have f5 : ∀ o, (wr.alloc o).cell? ⟨b2, off2 + k * 6 + 5, none⟩ = some (.slice a5q (m.getD k default).fChildren.length c5q) := fun o => (((Below.refl wr.heap.size wr).alloc (Nat.le_refl _) o).cell (p := ⟨b2, off2 + k * 6 + 5, none⟩) bl2).trans hd5
        have HPS := Lib.hid (show sameN false (l.getD k default) (m.getD k default) = true → ∀ jj, jj < k + 1 → sameN false (l.getD jj default) (m.getD jj default) = true from fun h1 jj hj => by
          rcases Nat.lt_succ_iff_lt_or_eq.1 hj with h | h
          · exact HE.out jj h
          · rw [h]; exact h1)
        have HNO := Lib.hid (fun h => sameT_no (ids := false) (m := m) hlt h)
        clear hc hc2 hs5 ht5 hbl hbw
        generalize l.getD k default = x at *
        generalize m.getD k default = y at *
        have hno : ¬ CondN false x y → sameT false l m = false := fun h => HNO.out (sameN_no h)
        have hlast := @sameN_last false x y
        unfold CondN at hno
        generalize x.fId = id1 at *
        generalize y.fId = id2 at *
        generalize x.fParent = parent1 at *
        generalize y.fParent = parent2 at *
        generalize x.fPlace = place1 at *
        generalize y.fPlace = place2 at *
        generalize x.fLiteral = literal1 at *
        generalize y.fLiteral = literal2 at *
        generalize x.fRule = rule1 at *
        generalize y.fRule = rule2 at *
        generalize x.fChildren = ch1 at *
        generalize y.fChildren = ch2 at *
        by_cases hparent : parent1 = parent2
        · subst hparent
          by_cases hplace : place1 = place2
          · subst hplace
            by_cases hliteral : literal1 = literal2
            · subst hliteral
              by_cases hrule : rule1 = rule2
              · subst hrule
                have hlst := hlast (fun h => by cases h) rfl rfl rfl rfl
                clear hno hlast
                by_cases hch : ch1 = ch2
                · have HPS2 := Lib.hid (HPS.out (by rw [hlst]; exact decide_eq_true hch))
                  have HE1 := Lib.hid (fun W hW => by have h := HE0.out W hW; rw [decide_eq_true hch] at h; exact h)
                  clear hlst hch HE0 HPS HNO
                  go_wp2_with fail
                  refine (HE1.out _ (by repeat (first | (with_reducible exact Below.refl _ _) | (with_reducible refine below_drewN ?_ _) | (with_reducible apply Below.drew) | (refine Below.alloc ?_ (by simp <;> omega) _)) : Below wr.heap.size wr _)).mono ?_
                  rintro e w1 ⟨rfl, q, rfl⟩
                  go_wp2
                  go_roundw
                  case rel => exact ⟨k + 1, by omega, by go_num, HPS2.out, HBL.out.trans ((by repeat (first | (with_reducible exact Below.refl _ _) | (with_reducible refine below_drewN ?_ _) | (with_reducible apply Below.drew) | (refine Below.alloc ?_ (by simp <;> omega) _)) : Below wr.heap.size wr _).mono hsz2)⟩
                  case measure => simp [intOf]; omega
                · have fin := Lib.hid (HNO.out (by rw [hlst]; exact decide_eq_false hch))
                  have HE1 := Lib.hid (fun W hW => by have h := HE0.out W hW; rw [decide_eq_false hch] at h; exact h)
                  clear hlst hch HE0 HPS HNO
                  go_wp2_with fail
                  refine (HE1.out _ (by repeat (first | (with_reducible exact Below.refl _ _) | (with_reducible refine below_drewN ?_ _) | (with_reducible apply Below.drew) | (refine Below.alloc ?_ (by simp <;> omega) _)) : Below wr.heap.size wr _)).mono ?_
                  rintro e w1 ⟨rfl, q, rfl⟩
                  go_wp2
                  go_ret
                  exact ⟨ret_b fin.out.symm, HBW.out.trans ((by repeat (first | (with_reducible exact Below.refl _ _) | (with_reducible refine below_drewN ?_ _) | (with_reducible apply Below.drew) | (refine Below.alloc ?_ (by simp <;> omega) _)) : Below wr.heap.size wr _).mono HBW.out.size)⟩
              · have fin := Lib.hid (hno (fun e => hrule (e.2.2.2.2.1)))
                have e1 : (rule1.toList == rule2.toList) = false := eqt_ne hrule
                have e2 : (rule1.toList != rule2.toList) = true := by rw [bne, e1]; rfl
                clear hrule hno hlast
                go_wp2
                go_ret
                exact ⟨ret_b fin.out.symm, HBW.out.trans ((by repeat (first | (with_reducible exact Below.refl _ _) | (with_reducible refine below_drewN ?_ _) | (with_reducible apply Below.drew) | (refine Below.alloc ?_ (by simp <;> omega) _)) : Below wr.heap.size wr _).mono HBW.out.size)⟩
            · have fin := Lib.hid (hno (fun e => hliteral (e.2.2.2.1)))
              have e1 : (literal1 == literal2) = false := beq_eq_false_iff_ne.2 hliteral
              have e2 : (literal1 != literal2) = true := by rw [bne, e1]; rfl
              clear hliteral hno hlast
              go_wp2
              go_ret
              exact ⟨ret_b fin.out.symm, HBW.out.trans ((by repeat (first | (with_reducible exact Below.refl _ _) | (with_reducible refine below_drewN ?_ _) | (with_reducible apply Below.drew) | (refine Below.alloc ?_ (by simp <;> omega) _)) : Below wr.heap.size wr _).mono HBW.out.size)⟩
          · have fin := Lib.hid (hno (fun e => hplace (e.2.2.1)))
            have e1 : (place1 == place2) = false := beq_eq_false_iff_ne.2 hplace
            have e2 : (place1 != place2) = true := by rw [bne, e1]; rfl
            clear hplace hno hlast
            go_wp2
            go_ret
            exact ⟨ret_b fin.out.symm, HBW.out.trans ((by repeat (first | (with_reducible exact Below.refl _ _) | (with_reducible refine below_drewN ?_ _) | (with_reducible apply Below.drew) | (refine Below.alloc ?_ (by simp <;> omega) _)) : Below wr.heap.size wr _).mono HBW.out.size)⟩
        · have fin := Lib.hid (hno (fun e => hparent (e.2.1)))
          have e1 : (parent1 == parent2) = false := beq_eq_false_iff_ne.2 hparent
          have e2 : (parent1 != parent2) = true := by rw [bne, e1]; rfl
          clear hparent hno hlast
          go_wp2
          go_ret
          exact ⟨ret_b fin.out.symm, HBW.out.trans ((by repeat (first | (with_reducible exact Below.refl _ _) | (with_reducible refine below_drewN ?_ _) | (with_reducible apply Below.drew) | (refine Below.alloc ?_ (by simp <;> omega) _)) : Below wr.heap.size wr _).mono HBW.out.size)⟩
      · obtain rfl : k = l.length := by omega
        have fin := Lib.hid (sameT_yes HL.out HE.out)
        clear hbl hbw
        go_wp2
        go_ret
        exact ⟨ret_b fin.out.symm, HBW.out⟩
  · have fin := Lib.hid (sameT_len (ids := false) hlen)
    have e0 : ((l.length : Int) == (m.length : Int)) = false := beq_eq_false_iff_ne.2 (by omega)
    have e00 : ((l.length : Int) != (m.length : Int)) = true := by rw [bne, e0]; rfl
    clear hs hs2 hlen
    go_enter Tryz.func31, Tryz.ntmps31
    go_wp2
    go_ret
    exact ⟨ret_b fin.out.symm, HW0.out⟩

set_option maxHeartbeats 3200000 in
set_option maxRecDepth 100000 in
theorem spec_EqualTree {lo hi : Nat} {a0 a1 : Option Addr} {c0_0 c1_0 : Nat} (x : DTree) (_ : x.ok) (hx : x.sz ≤ 1048576) (y : DTree) (_ : y.ok) (hy : y.sz ≤ 1048576) (w : World) (hhi : hi ≤ w.heap.size) (hs : Sl lo hi w 6 x.fNodes.length (fun k => DNode.ct (x.fNodes.getD k default)) a0) (ht : Sl lo hi w 6 y.fNodes.length (fun k => DNode.ct (y.fNodes.getD k default)) a1) :
    Calls Tryz.prog 13 #[.agg #[.slice a0 x.fNodes.length c0_0], .agg #[.slice a1 y.fNodes.length c1_0]] w fun e w' => e = .returned (.bool (sameT true x.fNodes y.fNodes)) ∧ Below w.heap.size w w' := by
  have HB := Lib.hid (((Below.refl w.heap.size w).alloc (Nat.le_refl _) (.cells #[.slice a0 x.fNodes.length c0_0] 43)).alloc (by simp) (.cells #[.slice a1 y.fNodes.length c1_0] 43))
  have HC := Lib.hid (spec_l13Same_true (cap := c0_0) (cap2 := c1_0) x.fNodes y.fNodes hx hy _ (Nat.le_trans hhi HB.out.size) (hs.later HB.out hhi) (ht.later HB.out hhi))
  clear hs ht hx hy
  generalize sameT true x.fNodes y.fNodes = res at *
  generalize x.fNodes = l at *
  generalize y.fNodes = m at *
  go_enter Tryz.func13, Tryz.ntmps13
  go_wp2_with fail
  refine HC.out.mono ?_
  rintro e w1 ⟨rfl, hb1⟩
  have HB1 := Lib.hid (HB.out.trans (hb1.mono HB.out.size))
  clear hb1
  go_wp2
  go_ret
  exact ⟨rfl, HB1.out⟩
end Go.Proofs.YtjhgifpnpkcaoaaGreat
