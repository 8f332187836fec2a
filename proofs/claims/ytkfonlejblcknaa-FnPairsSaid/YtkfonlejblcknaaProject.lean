/-
  ProjectRelation of the model and of the program.
-/
import Derived.Test.YtkfonlejblcknaaUnion
import Derived.Test.YtkfonlejblcknaaHasP
import Derived.Test.YtkfonlejblcknaaEmptyRel
import Derived.Test.YtkfonlejblcknaaFree
namespace Go.Proofs.Ytkfonlejblcknaa
open Go.ChangeShapes Go.WideShapes Go.ChangeAt Go.RowKit Go.Deep

/-- Row a gets bit b, if P says so. -/
def stP (P : Nat → Nat → Bool) (g : Nat → Int) (a b j : Nat) : Int := if j = a ∧ P a b = true then orB (g a) b else g j
def inP (P : Nat → Nat → Bool) (g : Nat → Int) (a : Nat) : Nat → Nat → Int
  | 0 => g
  | b + 1 => stP P (inP P g a b) a b
def outP (P : Nat → Nat → Bool) (n : Nat) : Nat → Nat → Int
  | 0 => fun _ => 0
  | a + 1 => inP P (outP P n a) a n
theorem stP_yes {P : Nat → Nat → Bool} {g : Nat → Int} {a b : Nat} (h : P a b = true) : stP P g a b a = orB (g a) b := by unfold stP; rw [if_pos ⟨rfl, h⟩]
theorem stP_other {P : Nat → Nat → Bool} {g : Nat → Int} {a b j : Nat} (h : j ≠ a) : stP P g a b j = g j := by unfold stP; rw [if_neg (fun e => h e.1)]
theorem stP_no {P : Nat → Nat → Bool} {g : Nat → Int} {a b j : Nat} (h : P a b = false) : stP P g a b j = g j := by unfold stP; rw [if_neg (fun e => by rw [h] at e; cases e.2)]
def pairP (r : DRelation) (l : List Int) (a b : Nat) : Bool := hasPair r (l.getD a default) (l.getD b default)
def projRel (r : DRelation) (l : List Int) : DRelation := if relB r = true ∧ l.length ≤ 16 then ⟨l.length, (List.range l.length).map (outP (pairP r l) l.length l.length)⟩ else ⟨0, []⟩
theorem projRel_yes {r : DRelation} {l : List Int} (h : relB r = true) (h2 : l.length ≤ 16) : projRel r l = ⟨l.length, (List.range l.length).map (outP (pairP r l) l.length l.length)⟩ := if_pos ⟨h, h2⟩
theorem projRel_no1 {r : DRelation} {l : List Int} (h : relB r = false) : projRel r l = ⟨0, []⟩ := if_neg (fun e => by rw [h] at e; cases e.1)
theorem projRel_no2 {r : DRelation} {l : List Int} (h : 16 < l.length) : projRel r l = ⟨0, []⟩ := if_neg (fun e => by omega)
theorem projRel_len (r : DRelation) (l : List Int) : (projRel r l).fRows.length ≤ 16 := by
  unfold projRel
  split
  · rename_i h; simp; exact h.2
  · simp
theorem projRel_sz (r : DRelation) (l : List Int) : (projRel r l).sz ≤ 1048576 := by
  have := projRel_len r l
  unfold DRelation.sz
  rw [lsz_zero]
  omega
/-- The rows lie in F; the variable behind the blocks of w2 holds x0, x1; of the blocks of w2 none but those of F is written. -/
def RInv (F : Nat → Prop) (w2 : World) (x0 x1 : Value) (wr : World) : Prop :=
  WritesF F w2 wr ∧ w2.heap.size < wr.heap.size ∧ wr.cell? ⟨w2.heap.size, 0, none⟩ = some x0 ∧ wr.cell? ⟨w2.heap.size, 1, none⟩ = some x1
theorem RInv.below {F : Nat → Prop} {w2 wr w' : World} {x0 x1 : Value} (h : RInv F w2 x0 x1 wr) (hb : Below wr.heap.size wr w') : RInv F w2 x0 x1 w' :=
  ⟨h.1.later hb, Nat.lt_of_lt_of_le h.2.1 hb.size, (hb.cell (p := ⟨w2.heap.size, 0, none⟩) h.2.1).trans h.2.2.1, (hb.cell (p := ⟨w2.heap.size, 1, none⟩) h.2.1).trans h.2.2.2⟩
theorem RInv.put {F : Nat → Prop} {w2 wr : World} {x0 x1 : Value} (h : RInv F w2 x0 x1 wr) {p : Addr} (hF : F p.block) (hp : p.block < w2.heap.size) (u : Value) : RInv F w2 x0 x1 (wr.setCell p u) :=
  ⟨h.1.setCell hF, by have := h.2.1; simp [World.setCell]; exact this,
    (World.cell?_of_block (a := ⟨w2.heap.size, 0, none⟩) (Below.heap_setCell _ _ _ _ (by show w2.heap.size ≠ p.block; omega))).trans h.2.2.1,
    (World.cell?_of_block (a := ⟨w2.heap.size, 1, none⟩) (Below.heap_setCell _ _ _ _ (by show w2.heap.size ≠ p.block; omega))).trans h.2.2.2⟩
theorem RInv.drew {F : Nat → Prop} {w2 wr : World} {x0 x1 : Value} (h : RInv F w2 x0 x1 wr) : RInv F w2 x0 x1 wr.drew := ⟨h.1.drew, h.2.1, h.2.2.1, h.2.2.2⟩
theorem RInv.drewN {F : Nat → Prop} {w2 wr : World} {x0 x1 : Value} (h : RInv F w2 x0 x1 wr) (n : Nat) : RInv F w2 x0 x1 (wr.drewN n) := ⟨h.1.drewN n, h.2.1, h.2.2.1, h.2.2.2⟩

set_option maxHeartbeats 6400000 in
set_option maxRecDepth 100000 in
theorem spec_ProjectRelation {lo hi c0_0 c1_0 : Nat} {a0 b0 : Option Addr} (r : DRelation) (okr : r.ok) (hsz : r.sz ≤ 1048576) (l : List Int) (okl : okL okI l) (hszl : lsz (fun _ => 0) l ≤ 1048576) (w : World) (hhi : hi ≤ w.heap.size) (hs : Sl lo hi w 1 r.fRows.length (fun k => ictI (r.fRows.getD k default)) a0) (hsl : Sl lo hi w 1 l.length (fun k => ictI (l.getD k default)) b0) :
    Calls Try.prog 28 #[.agg #[.int .i64 r.fN, .slice a0 r.fRows.length c0_0], .slice b0 l.length c1_0] w (RelOut (projRel r l) w) := by
  have HLR := Lib.hid (rel_len hsz)
  have hll : l.length ≤ 1048576 := by have := lsz_zero l; omega
  have HB0 := Lib.hid (((Below.refl w.heap.size w).alloc (Nat.le_refl _) (.cells #[.int .i64 r.fN, .slice a0 r.fRows.length c0_0] 27)).alloc (by simp) (.cells #[.int .i64 0, .slice none 0 0] 27))
  have HG0 := Lib.hid (show ((w.alloc (.cells #[.int .i64 r.fN, .slice a0 r.fRows.length c0_0] 27)).alloc (.cells #[.int .i64 0, .slice none 0 0] 27)).heap[w.heap.size + 1]? = some (.cells #[.int .i64 0, .slice none 0 0] 27) from blk_new (by simp))
  have HSL0 := Lib.hid hsl
  have HS00 := Lib.hid hs
  have HS := Lib.hid (hs.later HB0.out hhi)
  have HSL := Lib.hid (hsl.later HB0.out hhi)
  have HHI := Lib.hid (Nat.le_trans hhi HB0.out.size)
  have HHI0 := Lib.hid hhi
  have OKR := Lib.hid okr
  have OKL := Lib.hid okl
  have HSZ := Lib.hid hsz
  clear hs hsl hhi okr okl hsz hszl
  cases hv : relB r with
  | false =>
    have HV := Lib.hid hv
    have fin := Lib.hid (projRel_no1 (l := l) hv)
    clear hv
    go_enter Try.func28, Try.ntmps28
    go_wp2_with fail
    refine (spec_relValid (c0 := c0_0) r HLR.out false HV.out _ HHI.out HS.out).mono ?_
    rintro e w1 ⟨rfl, hb1⟩
    have z0 : w1.cell? ⟨w.heap.size + 1, 0, none⟩ = some (.int .i64 0) := (hb1.cell (p := ⟨w.heap.size + 1, 0, none⟩) (by first | omega | (simp; done) | (simp; omega) | (simp [World.setCell]; omega))).trans (by go_simp)
    have f0 : w1.frozen? ⟨w.heap.size + 1, 0, none⟩ = false := (hb1.frozen (p := ⟨w.heap.size + 1, 0, none⟩) (by first | omega | (simp; done) | (simp; omega) | (simp [World.setCell]; omega))).trans (by go_simp)
    have r0 : w1.cell? ⟨w.heap.size, 0, none⟩ = some (.int .i64 r.fN) := (hb1.cell (p := ⟨w.heap.size, 0, none⟩) (by first | omega | (simp; done) | (simp; omega) | (simp [World.setCell]; omega))).trans (by go_simp)
    have z1 : w1.cell? ⟨w.heap.size + 1, 1, none⟩ = some (.slice none 0 0) := (hb1.cell (p := ⟨w.heap.size + 1, 1, none⟩) (by first | omega | (simp; done) | (simp; omega) | (simp [World.setCell]; omega))).trans (by go_simp)
    have f1 : w1.frozen? ⟨w.heap.size + 1, 1, none⟩ = false := (hb1.frozen (p := ⟨w.heap.size + 1, 1, none⟩) (by first | omega | (simp; done) | (simp; omega) | (simp [World.setCell]; omega))).trans (by go_simp)
    have r1 : w1.cell? ⟨w.heap.size, 1, none⟩ = some (.slice a0 r.fRows.length c0_0) := (hb1.cell (p := ⟨w.heap.size, 1, none⟩) (by first | omega | (simp; done) | (simp; omega) | (simp [World.setCell]; omega))).trans (by go_simp)
    have hsz1 : w.heap.size + 2 ≤ w1.heap.size := by have := hb1.size; simp at this; omega
    have HG1 := Lib.hid ((hb1.block (w.heap.size + 1) (by first | omega | (simp; done) | (simp; omega) | (simp [World.setCell]; omega))).trans HG0.out)
    have HB1 := Lib.hid (HB0.out.trans (hb1.mono HB0.out.size))
    have hk0 : w.heap.size < w1.heap.size := by omega
    have hk1 : w.heap.size + 1 < w1.heap.size := by omega
    go_wp2
    refine bodyPost_ret (v := .agg #[.int .i64 0, .slice none 0 0]) (results_cell_row Try.results28 _ _ (w.heap.size + 1) 27 #[.int .i64 0, .slice none 0 0] (0, 0) _ rfl (by (repeat (with_reducible refine blk_alloc (by first | omega | (simp; done) | (simp; omega) | (simp [World.setCell]; done) | (simp [World.setCell]; omega)) ?_)); refine Eq.trans (blk_set (cs := #[.int .i64 0, .slice none 0 0]) (t := 27) (fr := (0, 0)) ?_) rfl; refine Eq.trans (blk_set (cs := #[.int .i64 0, .slice none 0 0]) (t := 27) (fr := (0, 0)) ?_) rfl; repeat (first | (with_reducible exact HG1.out) | (refine blk_other (by dsimp only; omega) ?_) | (with_reducible refine blk_alloc (by first | omega | (simp; done) | (simp; omega) | (simp [World.setCell]; done) | (simp [World.setCell]; omega)) ?_))) Try.underlying27 rfl rfl) rfl ?_
    rw [fin.out]
    exact ⟨none, 0, rfl, Own.nil _ _ _ _ _, (by repeat (first | (with_reducible exact HB1.out) | (with_reducible exact Below.refl _ _) | (with_reducible apply Below.drew) | (with_reducible refine below_drewN ?_ _) | (refine Below.setCell ?_ (by first | omega | (simp <;> omega)) _) | (refine Below.alloc ?_ (by first | omega | (simp <;> omega)) _)))⟩
  | true =>
    have HV := Lib.hid hv
    by_cases h16 : 16 < l.length
    · have fin := Lib.hid (projRel_no2 (r := r) h16)
      clear hv
      go_enter Try.func28, Try.ntmps28
      go_wp2_with fail
      refine (spec_relValid (c0 := c0_0) r HLR.out true HV.out _ HHI.out HS.out).mono ?_
      rintro e w1 ⟨rfl, hb1⟩
      have z0 : w1.cell? ⟨w.heap.size + 1, 0, none⟩ = some (.int .i64 0) := (hb1.cell (p := ⟨w.heap.size + 1, 0, none⟩) (by first | omega | (simp; done) | (simp; omega) | (simp [World.setCell]; omega))).trans (by go_simp)
      have f0 : w1.frozen? ⟨w.heap.size + 1, 0, none⟩ = false := (hb1.frozen (p := ⟨w.heap.size + 1, 0, none⟩) (by first | omega | (simp; done) | (simp; omega) | (simp [World.setCell]; omega))).trans (by go_simp)
      have r0 : w1.cell? ⟨w.heap.size, 0, none⟩ = some (.int .i64 r.fN) := (hb1.cell (p := ⟨w.heap.size, 0, none⟩) (by first | omega | (simp; done) | (simp; omega) | (simp [World.setCell]; omega))).trans (by go_simp)
      have z1 : w1.cell? ⟨w.heap.size + 1, 1, none⟩ = some (.slice none 0 0) := (hb1.cell (p := ⟨w.heap.size + 1, 1, none⟩) (by first | omega | (simp; done) | (simp; omega) | (simp [World.setCell]; omega))).trans (by go_simp)
      have f1 : w1.frozen? ⟨w.heap.size + 1, 1, none⟩ = false := (hb1.frozen (p := ⟨w.heap.size + 1, 1, none⟩) (by first | omega | (simp; done) | (simp; omega) | (simp [World.setCell]; omega))).trans (by go_simp)
      have r1 : w1.cell? ⟨w.heap.size, 1, none⟩ = some (.slice a0 r.fRows.length c0_0) := (hb1.cell (p := ⟨w.heap.size, 1, none⟩) (by first | omega | (simp; done) | (simp; omega) | (simp [World.setCell]; omega))).trans (by go_simp)
      have hsz1 : w.heap.size + 2 ≤ w1.heap.size := by have := hb1.size; simp at this; omega
      have HG1 := Lib.hid ((hb1.block (w.heap.size + 1) (by first | omega | (simp; done) | (simp; omega) | (simp [World.setCell]; omega))).trans HG0.out)
      have HB1 := Lib.hid (HB0.out.trans (hb1.mono HB0.out.size))
      have hk0 : w.heap.size < w1.heap.size := by omega
      have hk1 : w.heap.size + 1 < w1.heap.size := by omega
      go_wp2
      refine bodyPost_ret (v := .agg #[.int .i64 0, .slice none 0 0]) (results_cell_row Try.results28 _ _ (w.heap.size + 1) 27 #[.int .i64 0, .slice none 0 0] (0, 0) _ rfl (by (repeat (with_reducible refine blk_alloc (by first | omega | (simp; done) | (simp; omega) | (simp [World.setCell]; done) | (simp [World.setCell]; omega)) ?_)); refine Eq.trans (blk_set (cs := #[.int .i64 0, .slice none 0 0]) (t := 27) (fr := (0, 0)) ?_) rfl; refine Eq.trans (blk_set (cs := #[.int .i64 0, .slice none 0 0]) (t := 27) (fr := (0, 0)) ?_) rfl; repeat (first | (with_reducible exact HG1.out) | (refine blk_other (by dsimp only; omega) ?_) | (with_reducible refine blk_alloc (by first | omega | (simp; done) | (simp; omega) | (simp [World.setCell]; done) | (simp [World.setCell]; omega)) ?_))) Try.underlying27 rfl rfl) rfl ?_
      rw [fin.out]
      exact ⟨none, 0, rfl, Own.nil _ _ _ _ _, (by repeat (first | (with_reducible exact HB1.out) | (with_reducible exact Below.refl _ _) | (with_reducible apply Below.drew) | (with_reducible refine below_drewN ?_ _) | (refine Below.setCell ?_ (by first | omega | (simp <;> omega)) _) | (refine Below.alloc ?_ (by first | omega | (simp <;> omega)) _)))⟩
    · have hl16 : l.length ≤ 16 := by omega
      have fin := Lib.hid (projRel_yes hv hl16)
      have HEM := Lib.hid (fun (W : World) => by have h := spec_EmptyRelation (l.length : Int) ⟨by omega, by omega⟩ W; rw [emptyRel_nat hl16] at h; exact h)
      clear hv h16
      go_enter Try.func28, Try.ntmps28
      go_wp2_with fail
      refine (spec_relValid (c0 := c0_0) r HLR.out true HV.out _ HHI.out HS.out).mono ?_
      rintro e w1 ⟨rfl, hb1⟩
      have z0 : w1.cell? ⟨w.heap.size + 1, 0, none⟩ = some (.int .i64 0) := (hb1.cell (p := ⟨w.heap.size + 1, 0, none⟩) (by first | omega | (simp; done) | (simp; omega) | (simp [World.setCell]; omega))).trans (by go_simp)
      have f0 : w1.frozen? ⟨w.heap.size + 1, 0, none⟩ = false := (hb1.frozen (p := ⟨w.heap.size + 1, 0, none⟩) (by first | omega | (simp; done) | (simp; omega) | (simp [World.setCell]; omega))).trans (by go_simp)
      have r0 : w1.cell? ⟨w.heap.size, 0, none⟩ = some (.int .i64 r.fN) := (hb1.cell (p := ⟨w.heap.size, 0, none⟩) (by first | omega | (simp; done) | (simp; omega) | (simp [World.setCell]; omega))).trans (by go_simp)
      have z1 : w1.cell? ⟨w.heap.size + 1, 1, none⟩ = some (.slice none 0 0) := (hb1.cell (p := ⟨w.heap.size + 1, 1, none⟩) (by first | omega | (simp; done) | (simp; omega) | (simp [World.setCell]; omega))).trans (by go_simp)
      have f1 : w1.frozen? ⟨w.heap.size + 1, 1, none⟩ = false := (hb1.frozen (p := ⟨w.heap.size + 1, 1, none⟩) (by first | omega | (simp; done) | (simp; omega) | (simp [World.setCell]; omega))).trans (by go_simp)
      have r1 : w1.cell? ⟨w.heap.size, 1, none⟩ = some (.slice a0 r.fRows.length c0_0) := (hb1.cell (p := ⟨w.heap.size, 1, none⟩) (by first | omega | (simp; done) | (simp; omega) | (simp [World.setCell]; omega))).trans (by go_simp)
      have hsz1 : w.heap.size + 2 ≤ w1.heap.size := by have := hb1.size; simp at this; omega
      have HG1 := Lib.hid ((hb1.block (w.heap.size + 1) (by first | omega | (simp; done) | (simp; omega) | (simp [World.setCell]; omega))).trans HG0.out)
      have HB1 := Lib.hid (HB0.out.trans (hb1.mono HB0.out.size))
      have hk0 : w.heap.size < w1.heap.size := by omega
      have hk1 : w.heap.size + 1 < w1.heap.size := by omega
      clear hb1
      go_wp2_with fail
      refine (HEM.out _).mono ?_
      rintro e w2 ⟨a1, c1, rfl, ho2, hb2⟩
      rw [List.length_replicate] at ho2 ⊢
      have z0 : w2.cell? ⟨w.heap.size + 1, 0, none⟩ = some (.int .i64 0) := (hb2.cell (p := ⟨w.heap.size + 1, 0, none⟩) (by first | omega | (simp; done) | (simp; omega) | (simp [World.setCell]; omega))).trans z0
      have f0 : w2.frozen? ⟨w.heap.size + 1, 0, none⟩ = false := (hb2.frozen (p := ⟨w.heap.size + 1, 0, none⟩) (by first | omega | (simp; done) | (simp; omega) | (simp [World.setCell]; omega))).trans f0
      have r0 : w2.cell? ⟨w.heap.size, 0, none⟩ = some (.int .i64 r.fN) := (hb2.cell (p := ⟨w.heap.size, 0, none⟩) (by first | omega | (simp; done) | (simp; omega) | (simp [World.setCell]; omega))).trans r0
      have z1 : w2.cell? ⟨w.heap.size + 1, 1, none⟩ = some (.slice none 0 0) := (hb2.cell (p := ⟨w.heap.size + 1, 1, none⟩) (by first | omega | (simp; done) | (simp; omega) | (simp [World.setCell]; omega))).trans z1
      have f1 : w2.frozen? ⟨w.heap.size + 1, 1, none⟩ = false := (hb2.frozen (p := ⟨w.heap.size + 1, 1, none⟩) (by first | omega | (simp; done) | (simp; omega) | (simp [World.setCell]; omega))).trans f1
      have r1 : w2.cell? ⟨w.heap.size, 1, none⟩ = some (.slice a0 r.fRows.length c0_0) := (hb2.cell (p := ⟨w.heap.size, 1, none⟩) (by first | omega | (simp; done) | (simp; omega) | (simp [World.setCell]; omega))).trans r1
      have hsz2 := hb2.size
      have HG2 := Lib.hid ((hb2.block (w.heap.size + 1) hk1).trans HG1.out)
      have HB2 := Lib.hid (HB1.out.trans (hb2.mono (by omega)))
      have HO0 := Lib.hid (show Own w2 (fun y => w1.heap.size ≤ y ∧ y < w2.heap.size) (.sl 1 l.length (fun j => ictI (outP (pairP r l) l.length 0 j))) (.slice a1 l.length c1) from ho2.congr (fun j hj q _ => by show ictI _ q = ictI 0 q; rw [rep_get hj]))
      have hk2 : w.heap.size < w2.heap.size := by omega
      have hk3 : w.heap.size + 1 < w2.heap.size := by omega
      have HR0 := Lib.hid r0
      have HR1 := Lib.hid r1
      have HZ0 := Lib.hid z0
      have HZ1 := Lib.hid z1
      have HF0 := Lib.hid f0
      have HF1 := Lib.hid f1
      clear ho2 hb2 r0 r1 z0 z1 f0 f1
      go_wp2
      go_loopw [6] (fun i wr => ∃ k : Nat, k ≤ l.length ∧ i = .int .i64 (k : Int) ∧ Own wr (fun y => w1.heap.size ≤ y ∧ y < w2.heap.size) (.sl 1 l.length (fun j => ictI (outP (pairP r l) l.length k j))) (.slice a1 l.length c1) ∧ RInv (fun y => w1.heap.size ≤ y ∧ y < w2.heap.size) w2 (.int .i64 (l.length : Int)) (.slice a1 l.length c1) wr) (fun i _ => l.length - (intOf i).toNat)
      case atStart =>
        refine ⟨0, Nat.zero_le _, rfl, HO0.out.kept (Kept.of_below_all (by repeat (first | (with_reducible exact hx) | (with_reducible exact Below.refl _ _) | (with_reducible apply Below.drew) | (with_reducible refine below_drewN ?_ _) | (refine Below.setCell ?_ (by first | omega | (simp <;> omega)) _) | (refine Below.alloc ?_ (by first | omega | (simp <;> omega)) _)))), WritesF.of_below (WritesF.refl _ _) ?_, ?_, ?_, ?_⟩
        · exact (by repeat (first | (with_reducible exact hx) | (with_reducible exact Below.refl _ _) | (with_reducible apply Below.drew) | (with_reducible refine below_drewN ?_ _) | (refine Below.setCell ?_ (by first | omega | (simp <;> omega)) _) | (refine Below.alloc ?_ (by first | omega | (simp <;> omega)) _)))
        · first | (simp; done) | (simp [World.setCell]; done)
        · go_simp
        · go_simp
      case round =>
        obtain ⟨k, hk, rfl, hown, hinv⟩ := hrel
        have HOO := Lib.hid hown
        have HIO := Lib.hid hinv
        obtain ⟨wo, rfl⟩ : ∃ wo : World, wo = wr := ⟨_, rfl⟩
        have hko : w2.heap.size < wo.heap.size := hinv.2.1
        have x1o : wo.cell? ⟨w2.heap.size, 1, none⟩ = some (.slice a1 l.length c1) := hinv.2.2.2
        have x0o : wo.cell? ⟨w2.heap.size, 0, none⟩ = some (.int .i64 (l.length : Int)) := hinv.2.2.1
        clear hown hinv
        by_cases hlt : k < l.length
        · have hkI : (0 : Int) ≤ (k : Int) ∧ (k : Int) < (l.length : Int) := by omega
          have HLo := Lib.hid (HSL0.out.later (show Below w.heap.size w wo from (HB2.out.trans (HIO.out.1.below (B := w.heap.size) (fun y hy => by have := hy.1; omega) (by omega)))) HHI0.out)
          obtain ⟨bq, oq, rfl, _, hbq, hcq⟩ := HLo.out.at k hlt
          obtain ⟨uq, hcu, hlu⟩ := hcq 0 (by decide)
          have lk : wo.cell? ⟨bq, oq + k, none⟩ = some (.int .i64 (l.getD k default)) := by rw [← lies_lit hlu]; simpa using hcu
          have hbqw : bq < w.heap.size := Nat.lt_of_lt_of_le hbq HHI0.out
          have hbqo : bq < wo.heap.size := by omega
          clear hcq hcu hlu
          go_wp2
          go_loopw [7] (fun i wr => ∃ t : Nat, t ≤ l.length ∧ i = .int .i64 (t : Int) ∧ Own wr (fun y => w1.heap.size ≤ y ∧ y < w2.heap.size) (.sl 1 l.length (fun j => ictI (inP (pairP r l) (outP (pairP r l) l.length k) k t j))) (.slice a1 l.length c1) ∧ RInv (fun y => w1.heap.size ≤ y ∧ y < w2.heap.size) w2 (.int .i64 (l.length : Int)) (.slice a1 l.length c1) wr) (fun i _ => l.length - (intOf i).toNat)
          case atStart => exact ⟨0, Nat.zero_le _, rfl, HOO.out, HIO.out⟩
          case round =>
            obtain ⟨t, ht, rfl, hown, hinv⟩ := hrel
            have HOR := Lib.hid hown
            have HIR := Lib.hid hinv
            clear x0o x1o lk
            have hkr : w2.heap.size < wr.heap.size := hinv.2.1
            have x1r : wr.cell? ⟨w2.heap.size, 1, none⟩ = some (.slice a1 l.length c1) := hinv.2.2.2
            have x0r : wr.cell? ⟨w2.heap.size, 0, none⟩ = some (.int .i64 (l.length : Int)) := hinv.2.2.1
            clear hown
            have HBr := Lib.hid (HB2.out.trans (hinv.1.below (B := w.heap.size) (fun y hy => by have := hy.1; omega) (by omega)))
            have r0 : wr.cell? ⟨w.heap.size, 0, none⟩ = some (.int .i64 r.fN) := (hinv.1.cell (p := ⟨w.heap.size, 0, none⟩) hk2 (by intro h; have := h.1; dsimp only at this; omega)).trans HR0.out
            have r1 : wr.cell? ⟨w.heap.size, 1, none⟩ = some (.slice a0 r.fRows.length c0_0) := (hinv.1.cell (p := ⟨w.heap.size, 1, none⟩) hk2 (by intro h; have := h.1; dsimp only at this; omega)).trans HR1.out
            clear hinv
            have hkr0 : w.heap.size < wr.heap.size := by omega
            have hbqr : bq < wr.heap.size := by omega
            by_cases hltt : t < l.length
            · have htI : (0 : Int) ≤ (t : Int) ∧ (t : Int) < (l.length : Int) := by omega
              have HLr := Lib.hid (HSL0.out.later HBr.out HHI0.out)
              obtain ⟨b3, o3, h3, _, _, hc3⟩ := HLr.out.at t hltt
              obtain ⟨b4, o4, h4, _, _, hc4⟩ := HLr.out.at k hlt
              cases h3
              cases h4
              obtain ⟨u3, hcu3, hlu3⟩ := hc3 0 (by decide)
              obtain ⟨u4, hcu4, hlu4⟩ := hc4 0 (by decide)
              have lt_ : wr.cell? ⟨bq, oq + t, none⟩ = some (.int .i64 (l.getD t default)) := by rw [← lies_lit hlu3]; simpa using hcu3
              have lk_ : wr.cell? ⟨bq, oq + k, none⟩ = some (.int .i64 (l.getD k default)) := by rw [← lies_lit hlu4]; simpa using hcu4
              have HPR := Lib.hid (fun (W : World) (hW : Below wr.heap.size wr W) => spec_HasPair (c0_0 := c0_0) r OKR.out HSZ.out (l.getD k default) (OKL.out.at hlt) (l.getD t default) (OKL.out.at hltt) W (Nat.le_trans (Nat.le_trans HHI0.out (by omega)) hW.size) (HS00.out.later (HBr.out.trans (hW.mono (by omega))) HHI0.out))
              have HPP := Lib.hid (show pairP r l k t = hasPair r (l.getD k default) (l.getD t default) from rfl)
              have hokk : -9223372036854775808 ≤ l.getD k default ∧ l.getD k default ≤ 9223372036854775807 := OKL.out.at hlt
              have hokt : -9223372036854775808 ≤ l.getD t default ∧ l.getD t default ≤ 9223372036854775807 := OKL.out.at hltt
              clear hc3 hc4 hcu3 hlu3 hcu4 hlu4
              generalize l.getD k default = zk at *
              generalize l.getD t default = zt at *
              generalize hq : hasPair r zk zt = bp at *
              clear hq
              go_wp2_with fail
              refine wp_region_free [([], none), ([], none), ([], none), ([1, 2], none), ([3], none), ([], none), ([], none), ([5, 6], none), ([7], none), ([0, 4, 8], none)] [0, 1, 2, 3, 4, 5, 6, 7, 8, 9] (fun jq9 V L H wx => match jq9 with | 0 => V 0 = .agg #[.int .i64 r.fN, .slice a0 r.fRows.length c0_0] | 1 => V 1 = .slice (some ⟨bq, oq, none⟩) l.length c1_0 | 2 => V 2 = .int .i64 (k : Int) | 3 => V 3 = .pointer (some ⟨bq, oq + k, none⟩) | 4 => V 4 = .int .i64 zk | 5 => V 5 = .slice (some ⟨bq, oq, none⟩) l.length c1_0 | 6 => V 6 = .int .i64 (t : Int) | 7 => V 7 = .pointer (some ⟨bq, oq + t, none⟩) | 8 => V 8 = .int .i64 zt | 9 => V 9 = .bool bp | _ => True) (by kernel_rfl) (by kernel_rfl) ?loc ?lasts ?walk
              case loc =>
                intro k V V' L H wx h0 h1 hG
                match k with
                | 0 =>
                  try dsimp only at hG ⊢
                  rw [← h0]
                  exact hG
                | 1 =>
                  try dsimp only at hG ⊢
                  rw [← h0]
                  exact hG
                | 2 =>
                  try dsimp only at hG ⊢
                  rw [← h0]
                  exact hG
                | 3 =>
                  try dsimp only at hG ⊢
                  rw [← h0]
                  exact hG
                | 4 =>
                  try dsimp only at hG ⊢
                  rw [← h0]
                  exact hG
                | 5 =>
                  try dsimp only at hG ⊢
                  rw [← h0]
                  exact hG
                | 6 =>
                  try dsimp only at hG ⊢
                  rw [← h0]
                  exact hG
                | 7 =>
                  try dsimp only at hG ⊢
                  rw [← h0]
                  exact hG
                | 8 =>
                  try dsimp only at hG ⊢
                  rw [← h0]
                  exact hG
                | 9 =>
                  try dsimp only at hG ⊢
                  rw [← h0]
                  exact hG
                | n + 10 => trivial
              case lasts =>
                intro i hi V L H wx wy hB hH hk
                match i, hi with
                | 0, _ => exact fun h => h
                | 1, _ => exact fun h => h
                | 2, _ => exact fun h => h
                | 3, _ => exact fun h => h
                | 4, _ => exact fun h => h
                | 5, _ => exact fun h => h
                | 6, _ => exact fun h => h
                | 7, _ => exact fun h => h
                | 8, _ => exact fun h => h
                | 9, _ => exact fun h => h
                | n + 10, hn => exact absurd hn (by simp)
              case walk =>
                simp only [free, Nat.reduceAdd, Act.put, List.setIfInBounds_toArray, List.set_cons_succ, List.set_cons_zero]
                refine ⟨?_, ?_, ?_, ?_, ?_, ?_, ?_, ?_, ?_, ?_, ?_⟩
                · intro V L H w3 hb1 hd
                  clear hd
                  have q0 : w3.cell? ⟨w.heap.size, 0, none⟩ = some (.int .i64 r.fN) := (hb1.cell (p := ⟨w.heap.size, 0, none⟩) (by assumption)).trans r0
                  have q1 : w3.cell? ⟨w.heap.size, 1, none⟩ = some (.slice a0 r.fRows.length c0_0) := (hb1.cell (p := ⟨w.heap.size, 1, none⟩) (by assumption)).trans r1
                  go_wp2_with fail
                  exact freePost _ rfl ⟨Below.refl _ _, upd_self⟩
                · intro V L H w3 hb1 hd
                  clear hd
                  go_wp2_with fail
                  exact freePost _ rfl ⟨Below.refl _ _, upd_self⟩
                · intro V L H w3 hb1 hd
                  clear hd
                  go_wp2_with fail
                  exact freePost _ rfl ⟨Below.refl _ _, upd_self⟩
                · intro V L H w3 hb1 hd
                  obtain ⟨⟨hL1, hM1, hH1, hv1⟩, ⟨hL2, hM2, hH2, hv2⟩, -⟩ := hd
                  rw [hv1, hv2]
                  have HV1 := Lib.hid hv1
                  have HV2 := Lib.hid hv2
                  clear hv1 hv2
                  go_wp2_with fail
                  exact freePost _ rfl ⟨Below.refl _ _, upd_self⟩
                · intro V L H w3 hb1 hd
                  obtain ⟨⟨hL3, hM3, hH3, hv3⟩, -⟩ := hd
                  rw [hv3]
                  have HV3 := Lib.hid hv3
                  clear hv3
                  have q4 : w3.cell? ⟨bq, oq + k, none⟩ = some (.int .i64 zk) := (hb1.cell (p := ⟨bq, oq + k, none⟩) (by assumption)).trans lk_
                  go_wp2_with fail
                  exact freePost _ rfl ⟨Below.refl _ _, upd_self⟩
                · intro V L H w3 hb1 hd
                  clear hd
                  go_wp2_with fail
                  exact freePost _ rfl ⟨Below.refl _ _, upd_self⟩
                · intro V L H w3 hb1 hd
                  clear hd
                  go_wp2_with fail
                  exact freePost _ rfl ⟨Below.refl _ _, upd_self⟩
                · intro V L H w3 hb1 hd
                  obtain ⟨⟨hL5, hM5, hH5, hv5⟩, ⟨hL6, hM6, hH6, hv6⟩, -⟩ := hd
                  rw [hv5, hv6]
                  have HV5 := Lib.hid hv5
                  have HV6 := Lib.hid hv6
                  clear hv5 hv6
                  go_wp2_with fail
                  exact freePost _ rfl ⟨Below.refl _ _, upd_self⟩
                · intro V L H w3 hb1 hd
                  obtain ⟨⟨hL7, hM7, hH7, hv7⟩, -⟩ := hd
                  rw [hv7]
                  have HV7 := Lib.hid hv7
                  clear hv7
                  have q8 : w3.cell? ⟨bq, oq + t, none⟩ = some (.int .i64 zt) := (hb1.cell (p := ⟨bq, oq + t, none⟩) (by assumption)).trans lt_
                  go_wp2_with fail
                  exact freePost _ rfl ⟨Below.refl _ _, upd_self⟩
                · intro V L H w3 hb1 hd
                  obtain ⟨⟨hL0, hM0, hH0, hv0⟩, ⟨hL4, hM4, hH4, hv4⟩, ⟨hL8, hM8, hH8, hv8⟩, -⟩ := hd
                  rw [hv0, hv4, hv8]
                  have HV0 := Lib.hid hv0
                  have HV4 := Lib.hid hv4
                  have HV8 := Lib.hid hv8
                  clear hv0 hv4 hv8
                  go_wp2_with fail
                  refine (HPR.out _ hb1).mono ?_
                  rintro e w4 ⟨rfl, hb4⟩
                  go_wp2_with fail
                  exact freePost _ rfl ⟨hb4, upd_self⟩
                · intro V L H w3 hb1 hd hap hdead
                  obtain ⟨⟨hL0, hM0, hH0, hv0⟩, ⟨hL1, hM1, hH1, hv1⟩, ⟨hL2, hM2, hH2, hv2⟩, ⟨hL3, hM3, hH3, hv3⟩, ⟨hL4, hM4, hH4, hv4⟩, ⟨hL5, hM5, hH5, hv5⟩, ⟨hL6, hM6, hH6, hv6⟩, ⟨hL7, hM7, hH7, hv7⟩, ⟨hL8, hM8, hH8, hv8⟩, ⟨hL9, hM9, hH9, hv9⟩, -⟩ := hd
                  rw [hv0, hv1, hv2, hv3, hv4, hv5, hv6, hv7, hv8, hv9]
                  clear hv0 hv1 hv2 hv3 hv4 hv5 hv6 hv7 hv8 hv9
                  clear hap hdead
                  have HO3 := Lib.hid (HOR.out.kept (Kept.of_below_all hb1))
                  have HI3 := Lib.hid (HIR.out.below hb1)
                  have hk3 : w2.heap.size < w3.heap.size := HI3.out.2.1
                  have x1w : w3.cell? ⟨w2.heap.size, 1, none⟩ = some (.slice a1 l.length c1) := HI3.out.2.2.2
                  have x0w : w3.cell? ⟨w2.heap.size, 0, none⟩ = some (.int .i64 (l.length : Int)) := HI3.out.2.2.1
                  clear hb1 r0 r1 lk_ lt_ x0r x1r
                  cases bp
                  · have HN := Lib.hid (fun j => stP_no (g := inP (pairP r l) (outP (pairP r l) l.length k) k t) (j := j) HPP.out)
                    go_wp2
                    go_roundw
                    case rel =>
                      refine ⟨t + 1, by omega, by go_num, HO3.out.congr (fun j _ q _ => by show ictI _ q = ictI (stP (pairP r l) (inP (pairP r l) (outP (pairP r l) l.length k) k t) k t j) q; rw [HN.out j]), HI3.out⟩
                    case measure => simp [intOf]; omega
                  · have HYY := Lib.hid (stP_yes (g := inP (pairP r l) (outP (pairP r l) l.length k) k t) HPP.out)
                    obtain ⟨bb, ob, rfl, hFb, hbl, hcs, hzs⟩ := ownf_at HO3.out (by omega)
                    have hFb1 : w1.heap.size ≤ bb := hFb.1
                    have hFb2 : bb < w2.heap.size := hFb.2
                    have hrow := hcs k hlt
                    have hrz := hzs (ob + k)
                    have ht16 : t ≤ 16 := by omega
                    obtain ⟨q, hq⟩ : ∃ q : Int, (2 : Int) ^ t = q := ⟨_, rfl⟩
                    have hq1 := pow_in ht16
                    rw [hq] at hq1
                    have hlow : 1 ≤ q := hq1.1
                    have hhigh : q ≤ 65536 := hq1.2
                    have hw1 : wrap64 q = q := IntWalk.wrap64_in _ ⟨by omega, by omega⟩
                    have HQ := Lib.hid hq
                    have HKEEP := HO3
                    clear hFb hcs hzs hq1
                    generalize hrow1 : inP (pairP r l) (outP (pairP r l) l.length k) k t k = row at *
                    have HROW := Lib.hid hrow1
                    clear hrow1
                    go_wp2_with fail
                    go_region
                    all_goals
                      go_wp2
                      go_roundw
                      case rel =>
                        refine ⟨t + 1, by omega, by go_num, ?_, ?_⟩
                        · refine Own.kept (ownf_set HKEEP.out k hlt (bits BinOp.or IntKind.i64 row q) (g' := stP (pairP r l) (inP (pairP r l) (outP (pairP r l) l.length k) k t) k t) (by rw [HYY.out]; unfold orB; rw [HQ.out]) (fun j _ hj => (stP_other hj).symm)) ?_
                          repeat (first | (with_reducible exact Kept.refl) | (with_reducible apply Kept.drew) | (with_reducible apply Kept.drewN))
                        · repeat (first | (with_reducible exact HI3.out) | (with_reducible apply RInv.drew) | (with_reducible refine RInv.drewN ?_ _) | (refine RInv.put ?_ (by exact ⟨hFb1, hFb2⟩) hFb2 _))
                      case measure => simp [intOf]; omega
            · obtain rfl : t = l.length := by omega
              go_wp2
              go_roundw
              case rel => exact ⟨k + 1, by omega, by go_num, HOR.out, HIR.out⟩
              case measure => simp [intOf]; omega
        · obtain rfl : k = l.length := by omega
          have hinv := HIO.out
          have HGo := Lib.hid ((hinv.1.block (w.heap.size + 1) hk3 (by intro h; have := h.1; omega)).trans HG2.out)
          have z0 : wo.cell? ⟨w.heap.size + 1, 0, none⟩ = some (.int .i64 0) := (hinv.1.cell (p := ⟨w.heap.size + 1, 0, none⟩) hk3 (by intro h; have := h.1; dsimp only at this; omega)).trans HZ0.out
          have f0 : wo.frozen? ⟨w.heap.size + 1, 0, none⟩ = false := (hinv.1.frozen (p := ⟨w.heap.size + 1, 0, none⟩) hk3 (by intro h; have := h.1; dsimp only at this; omega)).trans HF0.out
          have z1 : wo.cell? ⟨w.heap.size + 1, 1, none⟩ = some (.slice none 0 0) := (hinv.1.cell (p := ⟨w.heap.size + 1, 1, none⟩) hk3 (by intro h; have := h.1; dsimp only at this; omega)).trans HZ1.out
          have f1 : wo.frozen? ⟨w.heap.size + 1, 1, none⟩ = false := (hinv.1.frozen (p := ⟨w.heap.size + 1, 1, none⟩) hk3 (by intro h; have := h.1; dsimp only at this; omega)).trans HF1.out
          have HBf := Lib.hid (HB2.out.trans (hinv.1.below (B := w.heap.size) (fun y hy => by have := hy.1; omega) (by omega)))
          have hkz : w.heap.size + 1 < wo.heap.size := by omega
          clear hinv
          go_wp2
          refine bodyPost_ret (v := .agg #[.int .i64 (l.length : Int), .slice a1 l.length c1]) (results_cell_row Try.results28 _ _ (w.heap.size + 1) 27 #[.int .i64 (l.length : Int), .slice a1 l.length c1] (0, 0) _ rfl (by (repeat (with_reducible refine blk_alloc (by first | omega | (simp; done) | (simp; omega) | (simp [World.setCell]; done) | (simp [World.setCell]; omega)) ?_)); refine Eq.trans (blk_set (cs := #[.int .i64 (l.length : Int), .slice none 0 0]) (t := 27) (fr := (0, 0)) ?_) rfl; refine Eq.trans (blk_set (cs := #[.int .i64 0, .slice none 0 0]) (t := 27) (fr := (0, 0)) ?_) rfl; repeat (first | (with_reducible exact HGo.out) | (refine blk_other (by dsimp only; omega) ?_) | (with_reducible refine blk_alloc (by first | omega | (simp; done) | (simp; omega) | (simp [World.setCell]; done) | (simp [World.setCell]; omega)) ?_))) Try.underlying27 rfl rfl) rfl ?_
          rw [fin.out]
          refine ⟨a1, c1, by simp, ?_, (by repeat (first | (with_reducible exact HBf.out) | (with_reducible exact Below.refl _ _) | (with_reducible apply Below.drew) | (with_reducible refine below_drewN ?_ _) | (refine Below.setCell ?_ (by first | omega | (simp <;> omega)) _) | (refine Below.alloc ?_ (by first | omega | (simp <;> omega)) _)))⟩
          refine Own.sub (F := (fun y => w1.heap.size ≤ y ∧ y < w2.heap.size)) (Own.kept (own_range_sl HOO.out) ?_) (fun y hy => ⟨Nat.le_trans (by omega) hy.1, Nat.lt_of_lt_of_le hy.2 (by first | omega | (simp; omega) | (simp [World.setCell]; omega))⟩)
          repeat (first | (with_reducible exact Kept.refl) | (with_reducible apply Kept.drew) | (with_reducible apply Kept.drewN) | (refine Kept.put ?_ (by intro h; have h1 := h.1; dsimp only at h1; omega)))

set_option maxHeartbeats 6400000 in
set_option maxRecDepth 100000 in
theorem impl_ProjectRelation {lo hi c0_0 c1_0 : Nat} {a0 b0 : Option Addr} (r : DRelation) (okr : r.ok) (hsz : r.sz ≤ 1048576) (l : List Int) (okl : okL okI l) (hszl : lsz (fun _ => 0) l ≤ 1048576) (w : World) (hhi : hi ≤ w.heap.size) (hs : Sl lo hi w 1 r.fRows.length (fun k => ictI (r.fRows.getD k default)) a0) (hsl : Sl lo hi w 1 l.length (fun k => ictI (l.getD k default)) b0) :
    Calls Try.prog 27 #[.agg #[.int .i64 r.fN, .slice a0 r.fRows.length c0_0], .slice b0 l.length c1_0] w (RelOut (projRel r l) w) := by
  have HLR := Lib.hid (rel_len hsz)
  have hll : l.length ≤ 1048576 := by have := lsz_zero l; omega
  have HB0 := Lib.hid (((Below.refl w.heap.size w).alloc (Nat.le_refl _) (.cells #[.int .i64 r.fN, .slice a0 r.fRows.length c0_0] 27)).alloc (by simp) (.cells #[.int .i64 0, .slice none 0 0] 27))
  have HG0 := Lib.hid (show ((w.alloc (.cells #[.int .i64 r.fN, .slice a0 r.fRows.length c0_0] 27)).alloc (.cells #[.int .i64 0, .slice none 0 0] 27)).heap[w.heap.size + 1]? = some (.cells #[.int .i64 0, .slice none 0 0] 27) from blk_new (by simp))
  have HSL0 := Lib.hid hsl
  have HS00 := Lib.hid hs
  have HS := Lib.hid (hs.later HB0.out hhi)
  have HSL := Lib.hid (hsl.later HB0.out hhi)
  have HHI := Lib.hid (Nat.le_trans hhi HB0.out.size)
  have HHI0 := Lib.hid hhi
  have OKR := Lib.hid okr
  have OKL := Lib.hid okl
  have HSZ := Lib.hid hsz
  clear hs hsl hhi okr okl hsz hszl
  cases hv : relB r with
  | false =>
    have HV := Lib.hid hv
    have fin := Lib.hid (projRel_no1 (l := l) hv)
    clear hv
    go_enter Try.func27, Try.ntmps27
    go_wp2_with fail
    refine (impl_relValid (c0 := c0_0) r HLR.out false HV.out _ HHI.out HS.out).mono ?_
    rintro e w1 ⟨rfl, hb1⟩
    have z0 : w1.cell? ⟨w.heap.size + 1, 0, none⟩ = some (.int .i64 0) := (hb1.cell (p := ⟨w.heap.size + 1, 0, none⟩) (by first | omega | (simp; done) | (simp; omega) | (simp [World.setCell]; omega))).trans (by go_simp)
    have f0 : w1.frozen? ⟨w.heap.size + 1, 0, none⟩ = false := (hb1.frozen (p := ⟨w.heap.size + 1, 0, none⟩) (by first | omega | (simp; done) | (simp; omega) | (simp [World.setCell]; omega))).trans (by go_simp)
    have r0 : w1.cell? ⟨w.heap.size, 0, none⟩ = some (.int .i64 r.fN) := (hb1.cell (p := ⟨w.heap.size, 0, none⟩) (by first | omega | (simp; done) | (simp; omega) | (simp [World.setCell]; omega))).trans (by go_simp)
    have z1 : w1.cell? ⟨w.heap.size + 1, 1, none⟩ = some (.slice none 0 0) := (hb1.cell (p := ⟨w.heap.size + 1, 1, none⟩) (by first | omega | (simp; done) | (simp; omega) | (simp [World.setCell]; omega))).trans (by go_simp)
    have f1 : w1.frozen? ⟨w.heap.size + 1, 1, none⟩ = false := (hb1.frozen (p := ⟨w.heap.size + 1, 1, none⟩) (by first | omega | (simp; done) | (simp; omega) | (simp [World.setCell]; omega))).trans (by go_simp)
    have r1 : w1.cell? ⟨w.heap.size, 1, none⟩ = some (.slice a0 r.fRows.length c0_0) := (hb1.cell (p := ⟨w.heap.size, 1, none⟩) (by first | omega | (simp; done) | (simp; omega) | (simp [World.setCell]; omega))).trans (by go_simp)
    have hsz1 : w.heap.size + 2 ≤ w1.heap.size := by have := hb1.size; simp at this; omega
    have HG1 := Lib.hid ((hb1.block (w.heap.size + 1) (by first | omega | (simp; done) | (simp; omega) | (simp [World.setCell]; omega))).trans HG0.out)
    have HB1 := Lib.hid (HB0.out.trans (hb1.mono HB0.out.size))
    have hk0 : w.heap.size < w1.heap.size := by omega
    have hk1 : w.heap.size + 1 < w1.heap.size := by omega
    go_wp2
    refine bodyPost_ret (v := .agg #[.int .i64 0, .slice none 0 0]) (results_cell_row Try.results27 _ _ (w.heap.size + 1) 27 #[.int .i64 0, .slice none 0 0] (0, 0) _ rfl (by (repeat (with_reducible refine blk_alloc (by first | omega | (simp; done) | (simp; omega) | (simp [World.setCell]; done) | (simp [World.setCell]; omega)) ?_)); refine Eq.trans (blk_set (cs := #[.int .i64 0, .slice none 0 0]) (t := 27) (fr := (0, 0)) ?_) rfl; refine Eq.trans (blk_set (cs := #[.int .i64 0, .slice none 0 0]) (t := 27) (fr := (0, 0)) ?_) rfl; repeat (first | (with_reducible exact HG1.out) | (refine blk_other (by dsimp only; omega) ?_) | (with_reducible refine blk_alloc (by first | omega | (simp; done) | (simp; omega) | (simp [World.setCell]; done) | (simp [World.setCell]; omega)) ?_))) Try.underlying27 rfl rfl) rfl ?_
    rw [fin.out]
    exact ⟨none, 0, rfl, Own.nil _ _ _ _ _, (by repeat (first | (with_reducible exact HB1.out) | (with_reducible exact Below.refl _ _) | (with_reducible apply Below.drew) | (with_reducible refine below_drewN ?_ _) | (refine Below.setCell ?_ (by first | omega | (simp <;> omega)) _) | (refine Below.alloc ?_ (by first | omega | (simp <;> omega)) _)))⟩
  | true =>
    have HV := Lib.hid hv
    by_cases h16 : 16 < l.length
    · have fin := Lib.hid (projRel_no2 (r := r) h16)
      clear hv
      go_enter Try.func27, Try.ntmps27
      go_wp2_with fail
      refine (impl_relValid (c0 := c0_0) r HLR.out true HV.out _ HHI.out HS.out).mono ?_
      rintro e w1 ⟨rfl, hb1⟩
      have z0 : w1.cell? ⟨w.heap.size + 1, 0, none⟩ = some (.int .i64 0) := (hb1.cell (p := ⟨w.heap.size + 1, 0, none⟩) (by first | omega | (simp; done) | (simp; omega) | (simp [World.setCell]; omega))).trans (by go_simp)
      have f0 : w1.frozen? ⟨w.heap.size + 1, 0, none⟩ = false := (hb1.frozen (p := ⟨w.heap.size + 1, 0, none⟩) (by first | omega | (simp; done) | (simp; omega) | (simp [World.setCell]; omega))).trans (by go_simp)
      have r0 : w1.cell? ⟨w.heap.size, 0, none⟩ = some (.int .i64 r.fN) := (hb1.cell (p := ⟨w.heap.size, 0, none⟩) (by first | omega | (simp; done) | (simp; omega) | (simp [World.setCell]; omega))).trans (by go_simp)
      have z1 : w1.cell? ⟨w.heap.size + 1, 1, none⟩ = some (.slice none 0 0) := (hb1.cell (p := ⟨w.heap.size + 1, 1, none⟩) (by first | omega | (simp; done) | (simp; omega) | (simp [World.setCell]; omega))).trans (by go_simp)
      have f1 : w1.frozen? ⟨w.heap.size + 1, 1, none⟩ = false := (hb1.frozen (p := ⟨w.heap.size + 1, 1, none⟩) (by first | omega | (simp; done) | (simp; omega) | (simp [World.setCell]; omega))).trans (by go_simp)
      have r1 : w1.cell? ⟨w.heap.size, 1, none⟩ = some (.slice a0 r.fRows.length c0_0) := (hb1.cell (p := ⟨w.heap.size, 1, none⟩) (by first | omega | (simp; done) | (simp; omega) | (simp [World.setCell]; omega))).trans (by go_simp)
      have hsz1 : w.heap.size + 2 ≤ w1.heap.size := by have := hb1.size; simp at this; omega
      have HG1 := Lib.hid ((hb1.block (w.heap.size + 1) (by first | omega | (simp; done) | (simp; omega) | (simp [World.setCell]; omega))).trans HG0.out)
      have HB1 := Lib.hid (HB0.out.trans (hb1.mono HB0.out.size))
      have hk0 : w.heap.size < w1.heap.size := by omega
      have hk1 : w.heap.size + 1 < w1.heap.size := by omega
      go_wp2
      refine bodyPost_ret (v := .agg #[.int .i64 0, .slice none 0 0]) (results_cell_row Try.results27 _ _ (w.heap.size + 1) 27 #[.int .i64 0, .slice none 0 0] (0, 0) _ rfl (by (repeat (with_reducible refine blk_alloc (by first | omega | (simp; done) | (simp; omega) | (simp [World.setCell]; done) | (simp [World.setCell]; omega)) ?_)); refine Eq.trans (blk_set (cs := #[.int .i64 0, .slice none 0 0]) (t := 27) (fr := (0, 0)) ?_) rfl; refine Eq.trans (blk_set (cs := #[.int .i64 0, .slice none 0 0]) (t := 27) (fr := (0, 0)) ?_) rfl; repeat (first | (with_reducible exact HG1.out) | (refine blk_other (by dsimp only; omega) ?_) | (with_reducible refine blk_alloc (by first | omega | (simp; done) | (simp; omega) | (simp [World.setCell]; done) | (simp [World.setCell]; omega)) ?_))) Try.underlying27 rfl rfl) rfl ?_
      rw [fin.out]
      exact ⟨none, 0, rfl, Own.nil _ _ _ _ _, (by repeat (first | (with_reducible exact HB1.out) | (with_reducible exact Below.refl _ _) | (with_reducible apply Below.drew) | (with_reducible refine below_drewN ?_ _) | (refine Below.setCell ?_ (by first | omega | (simp <;> omega)) _) | (refine Below.alloc ?_ (by first | omega | (simp <;> omega)) _)))⟩
    · have hl16 : l.length ≤ 16 := by omega
      have fin := Lib.hid (projRel_yes hv hl16)
      have HEM := Lib.hid (fun (W : World) => by have h := impl_EmptyRelation (l.length : Int) ⟨by omega, by omega⟩ W; rw [emptyRel_nat hl16] at h; exact h)
      clear hv h16
      go_enter Try.func27, Try.ntmps27
      go_wp2_with fail
      refine (impl_relValid (c0 := c0_0) r HLR.out true HV.out _ HHI.out HS.out).mono ?_
      rintro e w1 ⟨rfl, hb1⟩
      have z0 : w1.cell? ⟨w.heap.size + 1, 0, none⟩ = some (.int .i64 0) := (hb1.cell (p := ⟨w.heap.size + 1, 0, none⟩) (by first | omega | (simp; done) | (simp; omega) | (simp [World.setCell]; omega))).trans (by go_simp)
      have f0 : w1.frozen? ⟨w.heap.size + 1, 0, none⟩ = false := (hb1.frozen (p := ⟨w.heap.size + 1, 0, none⟩) (by first | omega | (simp; done) | (simp; omega) | (simp [World.setCell]; omega))).trans (by go_simp)
      have r0 : w1.cell? ⟨w.heap.size, 0, none⟩ = some (.int .i64 r.fN) := (hb1.cell (p := ⟨w.heap.size, 0, none⟩) (by first | omega | (simp; done) | (simp; omega) | (simp [World.setCell]; omega))).trans (by go_simp)
      have z1 : w1.cell? ⟨w.heap.size + 1, 1, none⟩ = some (.slice none 0 0) := (hb1.cell (p := ⟨w.heap.size + 1, 1, none⟩) (by first | omega | (simp; done) | (simp; omega) | (simp [World.setCell]; omega))).trans (by go_simp)
      have f1 : w1.frozen? ⟨w.heap.size + 1, 1, none⟩ = false := (hb1.frozen (p := ⟨w.heap.size + 1, 1, none⟩) (by first | omega | (simp; done) | (simp; omega) | (simp [World.setCell]; omega))).trans (by go_simp)
      have r1 : w1.cell? ⟨w.heap.size, 1, none⟩ = some (.slice a0 r.fRows.length c0_0) := (hb1.cell (p := ⟨w.heap.size, 1, none⟩) (by first | omega | (simp; done) | (simp; omega) | (simp [World.setCell]; omega))).trans (by go_simp)
      have hsz1 : w.heap.size + 2 ≤ w1.heap.size := by have := hb1.size; simp at this; omega
      have HG1 := Lib.hid ((hb1.block (w.heap.size + 1) (by first | omega | (simp; done) | (simp; omega) | (simp [World.setCell]; omega))).trans HG0.out)
      have HB1 := Lib.hid (HB0.out.trans (hb1.mono HB0.out.size))
      have hk0 : w.heap.size < w1.heap.size := by omega
      have hk1 : w.heap.size + 1 < w1.heap.size := by omega
      clear hb1
      go_wp2_with fail
      refine (HEM.out _).mono ?_
      rintro e w2 ⟨a1, c1, rfl, ho2, hb2⟩
      rw [List.length_replicate] at ho2 ⊢
      have z0 : w2.cell? ⟨w.heap.size + 1, 0, none⟩ = some (.int .i64 0) := (hb2.cell (p := ⟨w.heap.size + 1, 0, none⟩) (by first | omega | (simp; done) | (simp; omega) | (simp [World.setCell]; omega))).trans z0
      have f0 : w2.frozen? ⟨w.heap.size + 1, 0, none⟩ = false := (hb2.frozen (p := ⟨w.heap.size + 1, 0, none⟩) (by first | omega | (simp; done) | (simp; omega) | (simp [World.setCell]; omega))).trans f0
      have r0 : w2.cell? ⟨w.heap.size, 0, none⟩ = some (.int .i64 r.fN) := (hb2.cell (p := ⟨w.heap.size, 0, none⟩) (by first | omega | (simp; done) | (simp; omega) | (simp [World.setCell]; omega))).trans r0
      have z1 : w2.cell? ⟨w.heap.size + 1, 1, none⟩ = some (.slice none 0 0) := (hb2.cell (p := ⟨w.heap.size + 1, 1, none⟩) (by first | omega | (simp; done) | (simp; omega) | (simp [World.setCell]; omega))).trans z1
      have f1 : w2.frozen? ⟨w.heap.size + 1, 1, none⟩ = false := (hb2.frozen (p := ⟨w.heap.size + 1, 1, none⟩) (by first | omega | (simp; done) | (simp; omega) | (simp [World.setCell]; omega))).trans f1
      have r1 : w2.cell? ⟨w.heap.size, 1, none⟩ = some (.slice a0 r.fRows.length c0_0) := (hb2.cell (p := ⟨w.heap.size, 1, none⟩) (by first | omega | (simp; done) | (simp; omega) | (simp [World.setCell]; omega))).trans r1
      have hsz2 := hb2.size
      have HG2 := Lib.hid ((hb2.block (w.heap.size + 1) hk1).trans HG1.out)
      have HB2 := Lib.hid (HB1.out.trans (hb2.mono (by omega)))
      have HO0 := Lib.hid (show Own w2 (fun y => w1.heap.size ≤ y ∧ y < w2.heap.size) (.sl 1 l.length (fun j => ictI (outP (pairP r l) l.length 0 j))) (.slice a1 l.length c1) from ho2.congr (fun j hj q _ => by show ictI _ q = ictI 0 q; rw [rep_get hj]))
      have hk2 : w.heap.size < w2.heap.size := by omega
      have hk3 : w.heap.size + 1 < w2.heap.size := by omega
      have HR0 := Lib.hid r0
      have HR1 := Lib.hid r1
      have HZ0 := Lib.hid z0
      have HZ1 := Lib.hid z1
      have HF0 := Lib.hid f0
      have HF1 := Lib.hid f1
      clear ho2 hb2 r0 r1 z0 z1 f0 f1
      go_wp2
      go_loopw [24] (fun i wr => ∃ k : Nat, k ≤ l.length ∧ i = .int .i64 (k : Int) ∧ Own wr (fun y => w1.heap.size ≤ y ∧ y < w2.heap.size) (.sl 1 l.length (fun j => ictI (outP (pairP r l) l.length k j))) (.slice a1 l.length c1) ∧ RInv (fun y => w1.heap.size ≤ y ∧ y < w2.heap.size) w2 (.int .i64 (l.length : Int)) (.slice a1 l.length c1) wr) (fun i _ => l.length - (intOf i).toNat)
      case atStart =>
        refine ⟨0, Nat.zero_le _, rfl, HO0.out.kept (Kept.of_below_all (by repeat (first | (with_reducible exact hx) | (with_reducible exact Below.refl _ _) | (with_reducible apply Below.drew) | (with_reducible refine below_drewN ?_ _) | (refine Below.setCell ?_ (by first | omega | (simp <;> omega)) _) | (refine Below.alloc ?_ (by first | omega | (simp <;> omega)) _)))), WritesF.of_below (WritesF.refl _ _) ?_, ?_, ?_, ?_⟩
        · exact (by repeat (first | (with_reducible exact hx) | (with_reducible exact Below.refl _ _) | (with_reducible apply Below.drew) | (with_reducible refine below_drewN ?_ _) | (refine Below.setCell ?_ (by first | omega | (simp <;> omega)) _) | (refine Below.alloc ?_ (by first | omega | (simp <;> omega)) _)))
        · first | (simp; done) | (simp [World.setCell]; done)
        · go_simp
        · go_simp
      case round =>
        obtain ⟨k, hk, rfl, hown, hinv⟩ := hrel
        have HOO := Lib.hid hown
        have HIO := Lib.hid hinv
        obtain ⟨wo, rfl⟩ : ∃ wo : World, wo = wr := ⟨_, rfl⟩
        have hko : w2.heap.size < wo.heap.size := hinv.2.1
        have x1o : wo.cell? ⟨w2.heap.size, 1, none⟩ = some (.slice a1 l.length c1) := hinv.2.2.2
        have x0o : wo.cell? ⟨w2.heap.size, 0, none⟩ = some (.int .i64 (l.length : Int)) := hinv.2.2.1
        clear hown hinv
        by_cases hlt : k < l.length
        · have hkI : (0 : Int) ≤ (k : Int) ∧ (k : Int) < (l.length : Int) := by omega
          have HLo := Lib.hid (HSL0.out.later (show Below w.heap.size w wo from (HB2.out.trans (HIO.out.1.below (B := w.heap.size) (fun y hy => by have := hy.1; omega) (by omega)))) HHI0.out)
          obtain ⟨bq, oq, rfl, _, hbq, hcq⟩ := HLo.out.at k hlt
          obtain ⟨uq, hcu, hlu⟩ := hcq 0 (by decide)
          have lk : wo.cell? ⟨bq, oq + k, none⟩ = some (.int .i64 (l.getD k default)) := by rw [← lies_lit hlu]; simpa using hcu
          have hbqw : bq < w.heap.size := Nat.lt_of_lt_of_le hbq HHI0.out
          have hbqo : bq < wo.heap.size := by omega
          clear hcq hcu hlu
          generalize hzk : l.getD k default = zk at lk
          have HZK := Lib.hid hzk
          clear hzk
          go_wp2
          go_loopw [31] (fun i wr => ∃ t : Nat, t ≤ l.length ∧ i = .int .i64 (t : Int) ∧ Own wr (fun y => w1.heap.size ≤ y ∧ y < w2.heap.size) (.sl 1 l.length (fun j => ictI (inP (pairP r l) (outP (pairP r l) l.length k) k t j))) (.slice a1 l.length c1) ∧ RInv (fun y => w1.heap.size ≤ y ∧ y < w2.heap.size) w2 (.int .i64 (l.length : Int)) (.slice a1 l.length c1) wr) (fun i _ => l.length - (intOf i).toNat)
          case atStart => exact ⟨0, Nat.zero_le _, rfl, HOO.out, HIO.out⟩
          case round =>
            obtain ⟨t, ht, rfl, hown, hinv⟩ := hrel
            have HOR := Lib.hid hown
            have HIR := Lib.hid hinv
            clear x0o x1o lk
            have hkr : w2.heap.size < wr.heap.size := hinv.2.1
            have x1r : wr.cell? ⟨w2.heap.size, 1, none⟩ = some (.slice a1 l.length c1) := hinv.2.2.2
            have x0r : wr.cell? ⟨w2.heap.size, 0, none⟩ = some (.int .i64 (l.length : Int)) := hinv.2.2.1
            clear hown
            have HBr := Lib.hid (HB2.out.trans (hinv.1.below (B := w.heap.size) (fun y hy => by have := hy.1; omega) (by omega)))
            have r0 : wr.cell? ⟨w.heap.size, 0, none⟩ = some (.int .i64 r.fN) := (hinv.1.cell (p := ⟨w.heap.size, 0, none⟩) hk2 (by intro h; have := h.1; dsimp only at this; omega)).trans HR0.out
            have r1 : wr.cell? ⟨w.heap.size, 1, none⟩ = some (.slice a0 r.fRows.length c0_0) := (hinv.1.cell (p := ⟨w.heap.size, 1, none⟩) hk2 (by intro h; have := h.1; dsimp only at this; omega)).trans HR1.out
            clear hinv
            have hkr0 : w.heap.size < wr.heap.size := by omega
            have hbqr : bq < wr.heap.size := by omega
            by_cases hltt : t < l.length
            · have htI : (0 : Int) ≤ (t : Int) ∧ (t : Int) < (l.length : Int) := by omega
              have HLr := Lib.hid (HSL0.out.later HBr.out HHI0.out)
              obtain ⟨b3, o3, h3, _, _, hc3⟩ := HLr.out.at t hltt
              obtain ⟨b4, o4, h4, _, _, hc4⟩ := HLr.out.at k hlt
              cases h3
              cases h4
              obtain ⟨u3, hcu3, hlu3⟩ := hc3 0 (by decide)
              obtain ⟨u4, hcu4, hlu4⟩ := hc4 0 (by decide)
              have lt_ : wr.cell? ⟨bq, oq + t, none⟩ = some (.int .i64 (l.getD t default)) := by rw [← lies_lit hlu3]; simpa using hcu3
              have lk_ : wr.cell? ⟨bq, oq + k, none⟩ = some (.int .i64 (l.getD k default)) := by rw [← lies_lit hlu4]; simpa using hcu4
              have HPR := Lib.hid (fun (W : World) (hW : Below wr.heap.size wr W) => impl_HasPair (c0_0 := c0_0) r OKR.out HSZ.out (l.getD k default) (OKL.out.at hlt) (l.getD t default) (OKL.out.at hltt) W (Nat.le_trans (Nat.le_trans HHI0.out (by omega)) hW.size) (HS00.out.later (HBr.out.trans (hW.mono (by omega))) HHI0.out))
              have HPP := Lib.hid (show pairP r l k t = hasPair r (l.getD k default) (l.getD t default) from rfl)
              have hokk : -9223372036854775808 ≤ l.getD k default ∧ l.getD k default ≤ 9223372036854775807 := OKL.out.at hlt
              have hokt : -9223372036854775808 ≤ l.getD t default ∧ l.getD t default ≤ 9223372036854775807 := OKL.out.at hltt
              clear hc3 hc4 hcu3 hlu3 hcu4 hlu4
              have hzk := HZK.out
              rw [hzk] at lk_ HPR HPP hokk
              clear hzk HZK
              generalize l.getD t default = zt at *
              generalize hq : hasPair r zk zt = bp at *
              clear hq
              go_wp2_with fail
              refine (HPR.out _ (by repeat (first | (with_reducible exact hx) | (with_reducible exact Below.refl _ _) | (with_reducible apply Below.drew) | (with_reducible refine below_drewN ?_ _) | (refine Below.setCell ?_ (by first | omega | (simp <;> omega)) _) | (refine Below.alloc ?_ (by first | omega | (simp <;> omega)) _)))).mono ?_
              rintro e w3 ⟨rfl, hb0⟩
              have hb1 : Below wr.heap.size wr w3 := (show Below wr.heap.size wr _ from (by repeat (first | (with_reducible exact hx) | (with_reducible exact Below.refl _ _) | (with_reducible apply Below.drew) | (with_reducible refine below_drewN ?_ _) | (refine Below.setCell ?_ (by first | omega | (simp <;> omega)) _) | (refine Below.alloc ?_ (by first | omega | (simp <;> omega)) _)))).trans (hb0.mono (Below.size (show Below wr.heap.size wr _ from (by repeat (first | (with_reducible exact hx) | (with_reducible exact Below.refl _ _) | (with_reducible apply Below.drew) | (with_reducible refine below_drewN ?_ _) | (refine Below.setCell ?_ (by first | omega | (simp <;> omega)) _) | (refine Below.alloc ?_ (by first | omega | (simp <;> omega)) _))))))
              clear hb0
              have HO3 := Lib.hid (HOR.out.kept (Kept.of_below_all hb1))
              have HI3 := Lib.hid (HIR.out.below hb1)
              have hk3 : w2.heap.size < w3.heap.size := HI3.out.2.1
              have x1w : w3.cell? ⟨w2.heap.size, 1, none⟩ = some (.slice a1 l.length c1) := HI3.out.2.2.2
              have x0w : w3.cell? ⟨w2.heap.size, 0, none⟩ = some (.int .i64 (l.length : Int)) := HI3.out.2.2.1
              clear hb1 r0 r1 lk_ lt_ x0r x1r
              cases bp
              · have HN := Lib.hid (fun j => stP_no (g := inP (pairP r l) (outP (pairP r l) l.length k) k t) (j := j) HPP.out)
                go_wp2
                go_roundw
                case rel =>
                  refine ⟨t + 1, by omega, by go_num, HO3.out.congr (fun j _ q _ => by show ictI _ q = ictI (stP (pairP r l) (inP (pairP r l) (outP (pairP r l) l.length k) k t) k t j) q; rw [HN.out j]), HI3.out⟩
                case measure => simp [intOf]; omega
              · have HYY := Lib.hid (stP_yes (g := inP (pairP r l) (outP (pairP r l) l.length k) k t) HPP.out)
                obtain ⟨bb, ob, rfl, hFb, hbl, hcs, hzs⟩ := ownf_at HO3.out (by omega)
                have hFb1 : w1.heap.size ≤ bb := hFb.1
                have hFb2 : bb < w2.heap.size := hFb.2
                have hrow := hcs k hlt
                have hrz := hzs (ob + k)
                have ht16 : t ≤ 16 := by omega
                obtain ⟨q, hq⟩ : ∃ q : Int, (2 : Int) ^ t = q := ⟨_, rfl⟩
                have hq1 := pow_in ht16
                rw [hq] at hq1
                have hlow : 1 ≤ q := hq1.1
                have hhigh : q ≤ 65536 := hq1.2
                have hw1 : wrap64 q = q := IntWalk.wrap64_in _ ⟨by omega, by omega⟩
                have HQ := Lib.hid hq
                have HKEEP := HO3
                clear hFb hcs hzs hq1
                generalize hrow1 : inP (pairP r l) (outP (pairP r l) l.length k) k t k = row at *
                have HROW := Lib.hid hrow1
                clear hrow1
                go_wp2_with fail
                go_region
                all_goals
                  go_wp2
                  go_roundw
                  case rel =>
                    refine ⟨t + 1, by omega, by go_num, ?_, ?_⟩
                    · refine Own.kept (ownf_set HKEEP.out k hlt (bits BinOp.or IntKind.i64 row q) (g' := stP (pairP r l) (inP (pairP r l) (outP (pairP r l) l.length k) k t) k t) (by rw [HYY.out]; unfold orB; rw [HQ.out]) (fun j _ hj => (stP_other hj).symm)) ?_
                      repeat (first | (with_reducible exact Kept.refl) | (with_reducible apply Kept.drew) | (with_reducible apply Kept.drewN))
                    · repeat (first | (with_reducible exact HI3.out) | (with_reducible apply RInv.drew) | (with_reducible refine RInv.drewN ?_ _) | (refine RInv.put ?_ (by exact ⟨hFb1, hFb2⟩) hFb2 _))
                  case measure => simp [intOf]; omega
            · obtain rfl : t = l.length := by omega
              go_wp2
              go_roundw
              case rel => exact ⟨k + 1, by omega, by go_num, HOR.out, HIR.out⟩
              case measure => simp [intOf]; omega
        · obtain rfl : k = l.length := by omega
          have hinv := HIO.out
          have HGo := Lib.hid ((hinv.1.block (w.heap.size + 1) hk3 (by intro h; have := h.1; omega)).trans HG2.out)
          have z0 : wo.cell? ⟨w.heap.size + 1, 0, none⟩ = some (.int .i64 0) := (hinv.1.cell (p := ⟨w.heap.size + 1, 0, none⟩) hk3 (by intro h; have := h.1; dsimp only at this; omega)).trans HZ0.out
          have f0 : wo.frozen? ⟨w.heap.size + 1, 0, none⟩ = false := (hinv.1.frozen (p := ⟨w.heap.size + 1, 0, none⟩) hk3 (by intro h; have := h.1; dsimp only at this; omega)).trans HF0.out
          have z1 : wo.cell? ⟨w.heap.size + 1, 1, none⟩ = some (.slice none 0 0) := (hinv.1.cell (p := ⟨w.heap.size + 1, 1, none⟩) hk3 (by intro h; have := h.1; dsimp only at this; omega)).trans HZ1.out
          have f1 : wo.frozen? ⟨w.heap.size + 1, 1, none⟩ = false := (hinv.1.frozen (p := ⟨w.heap.size + 1, 1, none⟩) hk3 (by intro h; have := h.1; dsimp only at this; omega)).trans HF1.out
          have HBf := Lib.hid (HB2.out.trans (hinv.1.below (B := w.heap.size) (fun y hy => by have := hy.1; omega) (by omega)))
          have hkz : w.heap.size + 1 < wo.heap.size := by omega
          clear hinv
          go_wp2
          refine bodyPost_ret (v := .agg #[.int .i64 (l.length : Int), .slice a1 l.length c1]) (results_cell_row Try.results27 _ _ (w.heap.size + 1) 27 #[.int .i64 (l.length : Int), .slice a1 l.length c1] (0, 0) _ rfl (by (repeat (with_reducible refine blk_alloc (by first | omega | (simp; done) | (simp; omega) | (simp [World.setCell]; done) | (simp [World.setCell]; omega)) ?_)); refine Eq.trans (blk_set (cs := #[.int .i64 (l.length : Int), .slice none 0 0]) (t := 27) (fr := (0, 0)) ?_) rfl; refine Eq.trans (blk_set (cs := #[.int .i64 0, .slice none 0 0]) (t := 27) (fr := (0, 0)) ?_) rfl; repeat (first | (with_reducible exact HGo.out) | (refine blk_other (by dsimp only; omega) ?_) | (with_reducible refine blk_alloc (by first | omega | (simp; done) | (simp; omega) | (simp [World.setCell]; done) | (simp [World.setCell]; omega)) ?_))) Try.underlying27 rfl rfl) rfl ?_
          rw [fin.out]
          refine ⟨a1, c1, by simp, ?_, (by repeat (first | (with_reducible exact HBf.out) | (with_reducible exact Below.refl _ _) | (with_reducible apply Below.drew) | (with_reducible refine below_drewN ?_ _) | (refine Below.setCell ?_ (by first | omega | (simp <;> omega)) _) | (refine Below.alloc ?_ (by first | omega | (simp <;> omega)) _)))⟩
          refine Own.sub (F := (fun y => w1.heap.size ≤ y ∧ y < w2.heap.size)) (Own.kept (own_range_sl HOO.out) ?_) (fun y hy => ⟨Nat.le_trans (by omega) hy.1, Nat.lt_of_lt_of_le hy.2 (by first | omega | (simp; omega) | (simp [World.setCell]; omega))⟩)
          repeat (first | (with_reducible exact Kept.refl) | (with_reducible apply Kept.drew) | (with_reducible apply Kept.drewN) | (refine Kept.put ?_ (by intro h; have h1 := h.1; dsimp only at h1; omega)))
end Go.Proofs.Ytkfonlejblcknaa
