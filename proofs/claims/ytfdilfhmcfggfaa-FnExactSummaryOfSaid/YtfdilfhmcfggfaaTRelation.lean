/-
  The type Relation of the laws: its data, and the contracts of the laws' own helpers on it.
-/
import Derived.Test.YtfdilfhmcfggfaaTInt
import Derived.WalkSpells
import Derived.WalkSmall
import Derived.WalkLawsBesides
import Derived.SliceStrings
import Derived.Deep.QuietTactic
import Derived.Deep.RegionWith
import Derived.BigQuiet
import Derived.Outline
import Derived.Laws.Rows
namespace Go.Proofs.Ytfdilfhmcfggfaa
open Go.ChangeShapes Go.WideShapes Go.ChangeAt Go.RowKit Go.Deep

structure DRelation where
  fN : Int
  fRows : List (Int)
  deriving Inhabited

def DRelation.ct (x : DRelation) : Nat → Ct
  | 0 => .lit (.int .i64 x.fN)
  | 1 => .sl 1 x.fRows.length (fun k => ictI (x.fRows.getD k default))
  | _ => .lit .nilFunc

def DRelation.ok (x : DRelation) : Prop := okI x.fN ∧ (okL okI) x.fRows

def DRelation.sz (x : DRelation) : Nat := (lsz (fun _ => 0)) x.fRows

theorem DRelation.open {lo hi b o : Nat} {w : World} {x : DRelation} (h : ∀ j, j < 2 → ∃ u, w.cell? ⟨b, o + j, none⟩ = some u ∧ Lies lo hi w (x.ct j) u) :
    ∃ a1 c1, w.cell? ⟨b, o, none⟩ = some (.int .i64 x.fN) ∧ w.cell? ⟨b, o + 1, none⟩ = some (.slice a1 x.fRows.length c1) ∧ Sl lo hi w 1 x.fRows.length (fun k => ictI (x.fRows.getD k default)) a1 := by
  obtain ⟨u0, hc0, hl0⟩ := h 0 (by decide)
  obtain rfl := lies_lit hl0
  obtain ⟨u1, hc1, hl1⟩ := h 1 (by decide)
  obtain ⟨a1, c1, rfl, hs1⟩ := lies_sl hl1
  exact ⟨a1, c1, hc0, hc1, hs1⟩

theorem opens_relation {H : Type} {enc : TypeId × Value → H} {w : World} (fuel : Nat) : Opens enc Try.prog w 33 2 DRelation.ct DRelation.ok fuel := by
  intro cs x h
  have hl := opens_len Try.underlying33 h
  obtain ⟨y0, k0, q0⟩ := opens_field Try.underlying33 h 0 _ rfl (ft := 3) (o := 0) (n := 1) rfl rfl (fun m _ => opens_int Try.underlying3 m) (by kernel_rfl)
  obtain ⟨y1, k1, q1⟩ := opens_field Try.underlying33 h 1 _ rfl (ft := 31) (o := 1) (n := 1) rfl rfl (fun m _ => (fun fuel => opens_slice Try.underlying31 (e := 3) (n := 1) (by kernel_rfl) (by decide) fuel (fun m _ => (opens_int Try.underlying3) m)) m) (by kernel_rfl)
  refine ⟨⟨y0, y1⟩, ⟨k0, k1⟩, hl.trans (by kernel_rfl), fun j hj => ?_⟩
  match j, hj with
  | 0, _ => exact q0 0 (by decide)
  | 1, _ => exact q1 0 (by decide)

open Go.WideElems Go.WideMaps in
set_option maxRecDepth 100000 in
theorem arg_relation {H : Type} {enc : TypeId × Value → H} {W : World} {base : Nat} {v : Value} {d : DataW H} {p : List MemPlace} (hv : Value.okWide Try.prog W .any base 33 v) (h : DataW.Trod enc Try.prog W 0 (fun _ => true) true 33 v d p) :
    ∃ (x : DRelation) (a1 : Option Addr) (c1 : Nat), v = .agg #[.int .i64 x.fN, .slice a1 x.fRows.length c1] ∧ x.ok ∧ Sl 0 W.heap.size W 1 x.fRows.length (fun k => ictI (x.fRows.getD k default)) a1 := by
  obtain ⟨cs, rfl, hsz⟩ := okWide_struct Try.underlying33 hv
  obtain ⟨fuel, hf⟩ := h
  obtain ⟨x, hx, hl, hj⟩ := opens_relation fuel _ _ hf
  obtain ⟨l⟩ := cs
  match l, hl, hj with
  | [e0, e1], _, hj =>
    obtain ⟨u0, hu0, hl0⟩ := hj 0 (by decide)
    obtain rfl := lies_lit hl0
    obtain rfl : e0 = _ := Option.some.inj hu0
    obtain ⟨u1, hu1, hl1⟩ := hj 1 (by decide)
    obtain ⟨a1, c1, rfl, hs1⟩ := lies_sl hl1
    obtain rfl : e1 = _ := Option.some.inj hu1
    exact ⟨x, a1, c1, rfl, hx, hs1⟩

set_option maxHeartbeats 1600000 in
set_option maxRecDepth 100000 in
theorem laws_szRelation {lo hi : Nat} {a1 : Option Addr} {c1 : Nat} (x : DRelation) (L : Int) (hL0 : 0 ≤ L) (hL1 : L ≤ 1048576) (hx : x.ok) (w : World) (hhi : hi ≤ w.heap.size) (hs1 : Sl lo hi w 1 x.fRows.length (fun k => ictI (x.fRows.getD k default)) a1) :
    Calls Try.prog 6 #[.agg #[.int .i64 x.fN, .slice a1 x.fRows.length c1], .int .i64 L] w fun e w' => e = .returned (.int .i64 (szR L x.sz)) ∧ Below w.heap.size w w' := by
  have HS1 := Lib.hid hs1
  clear hs1
  have HX := Lib.hid hx
  clear hx
  have HB0 := Lib.hid ((Below.refl w.heap.size w).alloc (Nat.le_refl _) (.cells #[.int .i64 x.fN, .slice a1 x.fRows.length c1] 33))
  by_cases h0 : L < (((lsz (fun _ => 0)) x.fRows : Nat) : Int)
  · skip
    have hz0 := fun (w' : World) (hhi : hi ≤ w'.heap.size) (hs1 : Sl lo hi w' 1 x.fRows.length (fun k => ictI (x.fRows.getD k default)) a1) => laws_szIntS (cap := c1) x.fRows L (by omega) (by omega) HX.out.2 w' hhi hs1
    rw [szR_gt (by omega)] at hz0
    have HZ0 := Lib.hid hz0
    clear hz0
    have fin := Lib.hid (szR_gt (n := x.sz) (L := L) (by unfold DRelation.sz; omega))
    go_enter Try.func6, Try.ntmps6
    go_wp2_with fail
    refine (HZ0.out _ (Nat.le_trans hhi HB0.out.size) (HS1.out.later HB0.out hhi)).mono ?_
    rintro e w1 ⟨rfl, hb1⟩
    have hsz1 : w.heap.size < w1.heap.size := Nat.lt_of_lt_of_le (by first | omega | (simp; done) | (simp; omega)) hb1.size
    have HB1 := Lib.hid (HB0.out.trans (hb1.mono HB0.out.size))
    clear hb1
    go_wp2
    go_ret
    exact ⟨ret_i (by rw [fin.out]), HB1.out⟩
  · skip
    have hz0 := fun (w' : World) (hhi : hi ≤ w'.heap.size) (hs1 : Sl lo hi w' 1 x.fRows.length (fun k => ictI (x.fRows.getD k default)) a1) => laws_szIntS (cap := c1) x.fRows L (by omega) (by omega) HX.out.2 w' hhi hs1
    rw [szR_le (by omega)] at hz0
    have HZ0 := Lib.hid hz0
    clear hz0
    have fin := Lib.hid (szR_le (n := x.sz) (L := L) (by unfold DRelation.sz; omega))
    go_enter Try.func6, Try.ntmps6
    go_wp2_with fail
    refine (HZ0.out _ (Nat.le_trans hhi HB0.out.size) (HS1.out.later HB0.out hhi)).mono ?_
    rintro e w1 ⟨rfl, hb1⟩
    have hsz1 : w.heap.size < w1.heap.size := Nat.lt_of_lt_of_le (by first | omega | (simp; done) | (simp; omega)) hb1.size
    have HB1 := Lib.hid (HB0.out.trans (hb1.mono HB0.out.size))
    clear hb1
    go_wp2
    go_ret
    exact ⟨ret_i (by rw [fin.out]; unfold DRelation.sz; omega), HB1.out⟩

set_option maxHeartbeats 1600000 in
set_option maxRecDepth 100000 in
theorem laws_toRelation {lo hi : Nat} {a1 : Option Addr} {c1 : Nat} (x : DRelation) (hsz : x.sz ≤ 1048576) (w : World) (hhi : hi ≤ w.heap.size) (hs1 : Sl lo hi w 1 x.fRows.length (fun k => ictI (x.fRows.getD k default)) a1) :
    Calls Try.prog 10 #[.agg #[.int .i64 x.fN, .slice a1 x.fRows.length c1]] w fun e w' => ∃ a1r c1r, e = .returned (.agg #[.int .i64 x.fN, .slice a1r x.fRows.length c1r]) ∧ OwnR w' (fun y => w.heap.size ≤ y ∧ y < w'.heap.size) 2 x.ct (fun j => [.int .i64 x.fN, .slice a1r x.fRows.length c1r].getD j .nilFunc) ∧ Below w.heap.size w w' := by
  have HS1 := Lib.hid hs1
  clear hs1
  have HW := Lib.hid hsz
  clear hsz
  have HB0 := Lib.hid (((((Below.refl w.heap.size w).alloc (Nat.le_refl _) (.cells #[.int .i64 x.fN, .slice a1 x.fRows.length c1] 33)).alloc (by simp <;> omega) (.cells #[.int .i64 0, .slice none 0 0] 37))).alloc (by simp <;> omega) (.cells #[.int .i64 0, .slice none 0 0] 37))
  have HSZ0 := Lib.hid (show w.heap.size + 2 < (((w.alloc (.cells #[.int .i64 x.fN, .slice a1 x.fRows.length c1] 33)).alloc (.cells #[.int .i64 0, .slice none 0 0] 37)).alloc (.cells #[.int .i64 0, .slice none 0 0] 37)).heap.size by simp)
  have ht0 := fun (w' : World) (hhi : hi ≤ w'.heap.size) (hs : Sl lo hi w' 1 x.fRows.length (fun k => ictI (x.fRows.getD k default)) a1) => laws_toIntS (cap := c1) x.fRows (by have h := HW.out; unfold DRelation.sz at h; omega) w' hhi hs
  have HT0 := Lib.hid ht0
  clear ht0
  go_enter Try.func10, Try.ntmps10
  go_wp2_with fail
  refine (HT0.out _ (Nat.le_trans hhi (Below.size ((by repeat (first | (with_reducible exact HB0.out) | (with_reducible exact Below.refl _ _) | (refine Below.setCell ?_ (by simp <;> omega) _) | (refine Below.alloc ?_ (by simp <;> omega) _)) : Below w.heap.size w _)))) (HS1.out.later ((by repeat (first | (with_reducible exact HB0.out) | (with_reducible exact Below.refl _ _) | (refine Below.setCell ?_ (by simp <;> omega) _) | (refine Below.alloc ?_ (by simp <;> omega) _)) : Below w.heap.size w _)) hhi)).mono ?_
  rintro e w1 ⟨a1r, c1r, rfl, ho1, hb1⟩
  have hsz1 : w.heap.size + 2 < w1.heap.size := Nat.lt_of_lt_of_le (by have h := HSZ0.out; first | (with_reducible exact h) | (simp; done) | (simp; omega) | (simp [World.setCell]; omega)) hb1.size
  have hlo1 : w.heap.size + 3 ≤ w1.heap.size := Nat.le_trans (by first | (with_reducible exact Nat.le_refl _) | (simp; done) | (simp; omega) | (simp [World.setCell]; omega)) hb1.size
  have hbw1 : Below w.heap.size w w1 := Below.trans ((by repeat (first | (with_reducible exact HB0.out) | (with_reducible exact Below.refl _ _) | (refine Below.setCell ?_ (by simp <;> omega) _) | (refine Below.alloc ?_ (by simp <;> omega) _)) : Below w.heap.size w _)) (hb1.mono (Below.size ((by repeat (first | (with_reducible exact HB0.out) | (with_reducible exact Below.refl _ _) | (refine Below.setCell ?_ (by simp <;> omega) _) | (refine Below.alloc ?_ (by simp <;> omega) _)) : Below w.heap.size w _))))
  have HO1_1 := Lib.hid (ho1.sub (F' := fun y => w.heap.size + 3 ≤ y ∧ y < w1.heap.size) (fun y hy => ⟨Nat.le_trans (by first | (with_reducible exact Nat.le_refl _) | (simp; done) | (simp; omega) | (simp [World.setCell]; done) | (simp [World.setCell]; omega)) hy.1, hy.2⟩))
  clear ho1
  have x1_1_0 : w1.cell? ⟨w.heap.size + 1, 0, none⟩ = some (.int .i64 0) := (hb1.cell (p := ⟨w.heap.size + 1, 0, none⟩) (by first | omega | (simp; done) | (simp; omega) | (simp [World.setCell]; omega))).trans (by go_simp)
  have z1_1_0 : w1.frozen? ⟨w.heap.size + 1, 0, none⟩ = false := (hb1.frozen (p := ⟨w.heap.size + 1, 0, none⟩) (by first | omega | (simp; done) | (simp; omega) | (simp [World.setCell]; omega))).trans (by go_simp)
  have x1_1_1 : w1.cell? ⟨w.heap.size + 1, 1, none⟩ = some (.slice none 0 0) := (hb1.cell (p := ⟨w.heap.size + 1, 1, none⟩) (by first | omega | (simp; done) | (simp; omega) | (simp [World.setCell]; omega))).trans (by go_simp)
  have z1_1_1 : w1.frozen? ⟨w.heap.size + 1, 1, none⟩ = false := (hb1.frozen (p := ⟨w.heap.size + 1, 1, none⟩) (by first | omega | (simp; done) | (simp; omega) | (simp [World.setCell]; omega))).trans (by go_simp)
  have x1_2_0 : w1.cell? ⟨w.heap.size + 2, 0, none⟩ = some (.int .i64 x.fN) := (hb1.cell (p := ⟨w.heap.size + 2, 0, none⟩) (by first | omega | (simp; done) | (simp; omega) | (simp [World.setCell]; omega))).trans (by go_simp)
  have z1_2_0 : w1.frozen? ⟨w.heap.size + 2, 0, none⟩ = false := (hb1.frozen (p := ⟨w.heap.size + 2, 0, none⟩) (by first | omega | (simp; done) | (simp; omega) | (simp [World.setCell]; omega))).trans (by go_simp)
  have x1_2_1 : w1.cell? ⟨w.heap.size + 2, 1, none⟩ = some (.slice none 0 0) := (hb1.cell (p := ⟨w.heap.size + 2, 1, none⟩) (by first | omega | (simp; done) | (simp; omega) | (simp [World.setCell]; omega))).trans (by go_simp)
  have z1_2_1 : w1.frozen? ⟨w.heap.size + 2, 1, none⟩ = false := (hb1.frozen (p := ⟨w.heap.size + 2, 1, none⟩) (by first | omega | (simp; done) | (simp; omega) | (simp [World.setCell]; omega))).trans (by go_simp)
  have HG1 := Lib.hid (show w1.heap[w.heap.size + 1]? = some (.cells #[.int .i64 0, .slice none 0 0] 37) from (hb1.block _ (by first | omega | (simp; done) | (simp; omega) | (simp [World.setCell]; omega))).trans (by (repeat (refine blk_other (by simp) ?_)); exact blk_alloc (by simp) (blk_new (by simp))))
  have HB1 := Lib.hid hbw1
  have HSZ1 := Lib.hid hsz1
  have HLO1 := Lib.hid hlo1
  clear hb1 hbw1 hsz1 hlo1
  go_wp2
  refine bodyPost_ret (v := .agg #[.int .i64 x.fN, .slice a1r x.fRows.length c1r]) (results_cell_row Try.results10 _ _ (w.heap.size + 1) 37 #[.int .i64 x.fN, .slice a1r x.fRows.length c1r] (0, 0) _ rfl (by refine Eq.trans (blk_set (cs := #[.int .i64 x.fN, .slice none 0 0]) (t := 37) (fr := (0, 0)) ?_) rfl; refine Eq.trans (blk_set (cs := #[.int .i64 0, .slice none 0 0]) (t := 37) (fr := (0, 0)) ?_) rfl; repeat (first | (with_reducible exact HG1.out) | (refine blk_other (by simp) ?_))) Try.underlying37 rfl rfl) rfl ⟨a1r, c1r, rfl, ?_, (by repeat (first | (with_reducible exact HB1.out) | (with_reducible exact Below.refl _ _) | (refine Below.setCell ?_ (by simp <;> omega) _) | (refine Below.alloc ?_ (by simp <;> omega) _)) : Below w.heap.size w _)⟩
  have ho1 := HO1_1.out
  clear HO1_1
  have q1 := HLO1.out
  skip
  have hkk : ∀ w9 : World, Kept (fun y => w.heap.size + 3 ≤ y) w1 w9 → OwnR w9 (fun y => w.heap.size ≤ y ∧ y < w1.heap.size) 2 x.ct (fun j => [.int .i64 x.fN, .slice a1r x.fRows.length c1r].getD j .nilFunc) := fun w9 hk => by
    refine OwnR.append (F1 := fun _ => False) (F2 := fun y => w.heap.size + 3 ≤ y ∧ y < w1.heap.size) (m := 1) (n := 1) ?_ ?_ (by intro y h1 h2; first | exact h1.elim | exact h2.elim | (have h3 := h1.2; have h4 := h2.1; omega)) (by intro y h1; first | exact h1.elim | (have h3 := h1.1; have h4 := h1.2; exact ⟨by omega, by omega⟩)) (by intro y h1; first | exact h1.elim | (have h3 := h1.1; have h4 := h1.2; exact ⟨by omega, by omega⟩))
    · skip
      refine OwnR.lits (F := fun _ => False) fun j hj => ?_
      match j, hj with
      | 0, _ => rfl
    · skip
      exact OwnR.one (ho1.kept (hk.sub fun y hy => by have h := hy.1; omega))
  refine (hkk _ (by repeat (first | (with_reducible exact Kept.refl) | (refine Kept.put ?_ (by intro h1; dsimp only at h1; omega))))).sub (fun y hy => ⟨hy.1, Nat.lt_of_lt_of_le hy.2 (by simp)⟩)

theorem info_Relation : (Try.prog.info? 37).map (fun i => (i.zero, i.size, i.bytes)) = some (some (.agg #[.int .i64 0, .slice none 0 0]), 2, 32) := by kernel_rfl

set_option maxHeartbeats 1600000 in
set_option maxRecDepth 100000 in
theorem laws_eqRelation {lo hi lo2 hi2 : Nat} {a1 : Option Addr} {c1 : Nat} {a1q : Option Addr} {c1q : Nat} (x : DRelation) (hsz : x.sz ≤ 1048576) (w : World) (hhi : hi ≤ w.heap.size) (hhi2 : hi2 ≤ w.heap.size) (hs1 : Sl lo hi w 1 x.fRows.length (fun k => ictI (x.fRows.getD k default)) a1) (hs1q : Sl lo2 hi2 w 1 x.fRows.length (fun k => ictI (x.fRows.getD k default)) a1q) :
    Calls Try.prog 12 #[.agg #[.int .i64 x.fN, .slice a1 x.fRows.length c1], .agg #[.int .i64 x.fN, .slice a1q x.fRows.length c1q]] w fun e w' => e = .returned (.bool true) ∧ Below w.heap.size w w' := by
  have HS1 := Lib.hid hs1
  have HS1q := Lib.hid hs1q
  clear hs1 hs1q
  have HW := Lib.hid hsz
  clear hsz
  have HB0 := Lib.hid (((Below.refl w.heap.size w).alloc (Nat.le_refl _) (.cells #[.int .i64 x.fN, .slice a1 x.fRows.length c1] 37)).alloc (by simp <;> omega) (.cells #[.int .i64 x.fN, .slice a1q x.fRows.length c1q] 37))
  have ht0 := fun (w' : World) (hhi : hi ≤ w'.heap.size) (hhi2 : hi2 ≤ w'.heap.size) (hs : Sl lo hi w' 1 x.fRows.length (fun k => ictI (x.fRows.getD k default)) a1) (hs2 : Sl lo2 hi2 w' 1 x.fRows.length (fun k => ictI (x.fRows.getD k default)) a1q) => laws_eqIntS (cap := c1) (cap2 := c1q) x.fRows (by have h := HW.out; unfold DRelation.sz at h; omega) w' hhi hhi2 hs hs2
  have HT0 := Lib.hid ht0
  clear ht0
  go_enter Try.func12, Try.ntmps12
  go_wp2_with fail
  refine (HT0.out _ (Nat.le_trans hhi (HB0.out.size)) (Nat.le_trans hhi2 (HB0.out.size)) (HS1.out.later HB0.out hhi) (HS1q.out.later HB0.out hhi2)).mono ?_
  rintro e w1 ⟨rfl, hb1⟩
  have HB1 := Lib.hid (HB0.out.trans (hb1.mono HB0.out.size))
  clear hb1
  go_wp2
  go_ret
  exact ⟨rfl, HB1.out⟩
end Go.Proofs.Ytfdilfhmcfggfaa
