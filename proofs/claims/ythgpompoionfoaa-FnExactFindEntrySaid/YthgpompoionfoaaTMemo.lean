/-
  The type Memo of the laws: its data, and the contracts of the laws' own helpers on it.
-/
import Derived.Test.YthgpompoionfoaaTEntry
import Derived.Test.YthgpompoionfoaaTInstance
import Derived.WalkSpells
import Derived.WalkSmall
import Derived.WalkLawsBesides
import Derived.SliceStrings
import Derived.Deep.QuietTactic
import Derived.Deep.RegionWith
import Derived.BigQuiet
import Derived.Outline
import Derived.Laws.Rows
namespace Go.Proofs.Ythgpompoionfoaa
open Go.ChangeShapes Go.WideShapes Go.ChangeAt Go.RowKit Go.Deep

structure DMemo where
  fEntries : List (DEntry)
  fEvaluated : List (DInstance)
  deriving Inhabited

def DMemo.ct (x : DMemo) : Nat → Ct
  | 0 => .sl 9 x.fEntries.length (fun k => DEntry.ct (x.fEntries.getD k default))
  | 1 => .sl 2 x.fEvaluated.length (fun k => DInstance.ct (x.fEvaluated.getD k default))
  | _ => .lit .nilFunc

def DMemo.ok (x : DMemo) : Prop := (okL DEntry.ok) x.fEntries ∧ (okL DInstance.ok) x.fEvaluated

def DMemo.sz (x : DMemo) : Nat := (lsz DEntry.sz) x.fEntries + (lsz DInstance.sz) x.fEvaluated

theorem DMemo.open {lo hi b o : Nat} {w : World} {x : DMemo} (h : ∀ j, j < 2 → ∃ u, w.cell? ⟨b, o + j, none⟩ = some u ∧ Lies lo hi w (x.ct j) u) :
    ∃ a0 c0, ∃ a1 c1, w.cell? ⟨b, o, none⟩ = some (.slice a0 x.fEntries.length c0) ∧ w.cell? ⟨b, o + 1, none⟩ = some (.slice a1 x.fEvaluated.length c1) ∧ Sl lo hi w 9 x.fEntries.length (fun k => DEntry.ct (x.fEntries.getD k default)) a0 ∧ Sl lo hi w 2 x.fEvaluated.length (fun k => DInstance.ct (x.fEvaluated.getD k default)) a1 := by
  obtain ⟨u0, hc0, hl0⟩ := h 0 (by decide)
  obtain ⟨a0, c0, rfl, hs0⟩ := lies_sl hl0
  obtain ⟨u1, hc1, hl1⟩ := h 1 (by decide)
  obtain ⟨a1, c1, rfl, hs1⟩ := lies_sl hl1
  exact ⟨a0, c0, a1, c1, hc0, hc1, hs0, hs1⟩

theorem opens_memo {H : Type} {enc : TypeId × Value → H} {w : World} (fuel : Nat) : Opens enc Try.prog w 25 2 DMemo.ct DMemo.ok fuel := by
  intro cs x h
  have hl := opens_len Try.underlying25 h
  obtain ⟨y0, k0, q0⟩ := opens_field Try.underlying25 h 0 _ rfl (ft := 22) (o := 0) (n := 1) rfl rfl (fun m _ => (fun fuel => opens_slice Try.underlying22 (e := 65) (n := 9) (by kernel_rfl) (by decide) fuel (fun m _ => opens_entry m)) m) (by kernel_rfl)
  obtain ⟨y1, k1, q1⟩ := opens_field Try.underlying25 h 1 _ rfl (ft := 23) (o := 1) (n := 1) rfl rfl (fun m _ => (fun fuel => opens_slice Try.underlying23 (e := 27) (n := 2) (by kernel_rfl) (by decide) fuel (fun m _ => opens_instance m)) m) (by kernel_rfl)
  refine ⟨⟨y0, y1⟩, ⟨k0, k1⟩, hl.trans (by kernel_rfl), fun j hj => ?_⟩
  match j, hj with
  | 0, _ => exact q0 0 (by decide)
  | 1, _ => exact q1 0 (by decide)

open Go.WideElems Go.WideMaps in
set_option maxRecDepth 100000 in
theorem arg_memo {H : Type} {enc : TypeId × Value → H} {W : World} {base : Nat} {v : Value} {d : DataW H} {p : List MemPlace} (hv : Value.okWide Try.prog W .any base 25 v) (h : DataW.Trod enc Try.prog W 0 (fun _ => true) true 25 v d p) :
    ∃ (x : DMemo) (a0 : Option Addr) (c0 : Nat) (a1 : Option Addr) (c1 : Nat), v = .agg #[.slice a0 x.fEntries.length c0, .slice a1 x.fEvaluated.length c1] ∧ x.ok ∧ Sl 0 W.heap.size W 9 x.fEntries.length (fun k => DEntry.ct (x.fEntries.getD k default)) a0 ∧ Sl 0 W.heap.size W 2 x.fEvaluated.length (fun k => DInstance.ct (x.fEvaluated.getD k default)) a1 := by
  obtain ⟨cs, rfl, hsz⟩ := okWide_struct Try.underlying25 hv
  obtain ⟨fuel, hf⟩ := h
  obtain ⟨x, hx, hl, hj⟩ := opens_memo fuel _ _ hf
  obtain ⟨l⟩ := cs
  match l, hl, hj with
  | [e0, e1], _, hj =>
    obtain ⟨u0, hu0, hl0⟩ := hj 0 (by decide)
    obtain ⟨a0, c0, rfl, hs0⟩ := lies_sl hl0
    obtain rfl : e0 = _ := Option.some.inj hu0
    obtain ⟨u1, hu1, hl1⟩ := hj 1 (by decide)
    obtain ⟨a1, c1, rfl, hs1⟩ := lies_sl hl1
    obtain rfl : e1 = _ := Option.some.inj hu1
    exact ⟨x, a0, c0, a1, c1, rfl, hx, hs0, hs1⟩

set_option maxHeartbeats 1600000 in
set_option maxRecDepth 100000 in
theorem laws_szMemo {lo hi : Nat} {a0 : Option Addr} {c0 : Nat} {a1 : Option Addr} {c1 : Nat} (x : DMemo) (L : Int) (hL0 : 0 ≤ L) (hL1 : L ≤ 1048576) (hx : x.ok) (w : World) (hhi : hi ≤ w.heap.size) (hs0 : Sl lo hi w 9 x.fEntries.length (fun k => DEntry.ct (x.fEntries.getD k default)) a0) (hs1 : Sl lo hi w 2 x.fEvaluated.length (fun k => DInstance.ct (x.fEvaluated.getD k default)) a1) :
    Calls Try.prog 4 #[.agg #[.slice a0 x.fEntries.length c0, .slice a1 x.fEvaluated.length c1], .int .i64 L] w fun e w' => e = .returned (.int .i64 (szR L x.sz)) ∧ Below w.heap.size w w' := by
  have HS0 := Lib.hid hs0
  have HS1 := Lib.hid hs1
  clear hs0 hs1
  have HX := Lib.hid hx
  clear hx
  have HB0 := Lib.hid ((Below.refl w.heap.size w).alloc (Nat.le_refl _) (.cells #[.slice a0 x.fEntries.length c0, .slice a1 x.fEvaluated.length c1] 25))
  by_cases h0 : L < (((lsz DEntry.sz) x.fEntries : Nat) : Int)
  · skip
    have hz0 := fun (w' : World) (hhi : hi ≤ w'.heap.size) (hs0 : Sl lo hi w' 9 x.fEntries.length (fun k => DEntry.ct (x.fEntries.getD k default)) a0) => laws_szEntryS (cap := c0) x.fEntries L (by omega) (by omega) HX.out.1 w' hhi hs0
    rw [szR_gt (by omega)] at hz0
    have HZ0 := Lib.hid hz0
    clear hz0
    have fin := Lib.hid (szR_gt (n := x.sz) (L := L) (by unfold DMemo.sz; omega))
    go_enter Try.func4, Try.ntmps4
    go_wp2_with fail
    refine (HZ0.out _ (Nat.le_trans hhi HB0.out.size) (HS0.out.later HB0.out hhi)).mono ?_
    rintro e w1 ⟨rfl, hb1⟩
    have hsz1 : w.heap.size < w1.heap.size := Nat.lt_of_lt_of_le (by first | omega | (simp; done) | (simp; omega)) hb1.size
    have HB1 := Lib.hid (HB0.out.trans (hb1.mono HB0.out.size))
    clear hb1
    go_wp2
    go_ret
    exact ⟨ret_i (by rw [fin.out]), HB1.out⟩
  · skip
    by_cases h1 : (L - ((lsz DEntry.sz) x.fEntries : Nat)) < (((lsz DInstance.sz) x.fEvaluated : Nat) : Int)
    · skip
      have hz0 := fun (w' : World) (hhi : hi ≤ w'.heap.size) (hs0 : Sl lo hi w' 9 x.fEntries.length (fun k => DEntry.ct (x.fEntries.getD k default)) a0) => laws_szEntryS (cap := c0) x.fEntries L (by omega) (by omega) HX.out.1 w' hhi hs0
      rw [szR_le (by omega)] at hz0
      have HZ0 := Lib.hid hz0
      clear hz0
      have hz1 := fun (w' : World) (hhi : hi ≤ w'.heap.size) (hs1 : Sl lo hi w' 2 x.fEvaluated.length (fun k => DInstance.ct (x.fEvaluated.getD k default)) a1) => laws_szInstanceS (cap := c1) x.fEvaluated (L - ((lsz DEntry.sz) x.fEntries : Nat)) (by omega) (by omega) HX.out.2 w' hhi hs1
      rw [szR_gt (by omega)] at hz1
      have HZ1 := Lib.hid hz1
      clear hz1
      have fin := Lib.hid (szR_gt (n := x.sz) (L := L) (by unfold DMemo.sz; omega))
      go_enter Try.func4, Try.ntmps4
      go_wp2_with fail
      refine (HZ0.out _ (Nat.le_trans hhi HB0.out.size) (HS0.out.later HB0.out hhi)).mono ?_
      rintro e w1 ⟨rfl, hb1⟩
      have hsz1 : w.heap.size < w1.heap.size := Nat.lt_of_lt_of_le (by first | omega | (simp; done) | (simp; omega)) hb1.size
      have x1_0_1 : w1.cell? ⟨w.heap.size, 1, none⟩ = some (.slice a1 x.fEvaluated.length c1) := (hb1.cell (p := ⟨w.heap.size, 1, none⟩) (by first | omega | (simp; done) | (simp; omega) | (simp [World.setCell]; omega))).trans (by go_simp)
      have HB1 := Lib.hid (HB0.out.trans (hb1.mono HB0.out.size))
      clear hb1
      go_wp2_with fail
      refine (HZ1.out _ (Nat.le_trans hhi HB1.out.size) (HS1.out.later HB1.out hhi)).mono ?_
      rintro e w2 ⟨rfl, hb2⟩
      have hsz2 : w.heap.size < w2.heap.size := Nat.lt_of_lt_of_le (by first | omega | (simp; done) | (simp; omega)) hb2.size
      have HB2 := Lib.hid (HB1.out.trans (hb2.mono HB1.out.size))
      clear hb2
      go_wp2
      go_ret
      exact ⟨ret_i (by rw [fin.out]), HB2.out⟩
    · skip
      have hz0 := fun (w' : World) (hhi : hi ≤ w'.heap.size) (hs0 : Sl lo hi w' 9 x.fEntries.length (fun k => DEntry.ct (x.fEntries.getD k default)) a0) => laws_szEntryS (cap := c0) x.fEntries L (by omega) (by omega) HX.out.1 w' hhi hs0
      rw [szR_le (by omega)] at hz0
      have HZ0 := Lib.hid hz0
      clear hz0
      have hz1 := fun (w' : World) (hhi : hi ≤ w'.heap.size) (hs1 : Sl lo hi w' 2 x.fEvaluated.length (fun k => DInstance.ct (x.fEvaluated.getD k default)) a1) => laws_szInstanceS (cap := c1) x.fEvaluated (L - ((lsz DEntry.sz) x.fEntries : Nat)) (by omega) (by omega) HX.out.2 w' hhi hs1
      rw [szR_le (by omega)] at hz1
      have HZ1 := Lib.hid hz1
      clear hz1
      have fin := Lib.hid (szR_le (n := x.sz) (L := L) (by unfold DMemo.sz; omega))
      go_enter Try.func4, Try.ntmps4
      go_wp2_with fail
      refine (HZ0.out _ (Nat.le_trans hhi HB0.out.size) (HS0.out.later HB0.out hhi)).mono ?_
      rintro e w1 ⟨rfl, hb1⟩
      have hsz1 : w.heap.size < w1.heap.size := Nat.lt_of_lt_of_le (by first | omega | (simp; done) | (simp; omega)) hb1.size
      have x1_0_1 : w1.cell? ⟨w.heap.size, 1, none⟩ = some (.slice a1 x.fEvaluated.length c1) := (hb1.cell (p := ⟨w.heap.size, 1, none⟩) (by first | omega | (simp; done) | (simp; omega) | (simp [World.setCell]; omega))).trans (by go_simp)
      have HB1 := Lib.hid (HB0.out.trans (hb1.mono HB0.out.size))
      clear hb1
      go_wp2_with fail
      refine (HZ1.out _ (Nat.le_trans hhi HB1.out.size) (HS1.out.later HB1.out hhi)).mono ?_
      rintro e w2 ⟨rfl, hb2⟩
      have hsz2 : w.heap.size < w2.heap.size := Nat.lt_of_lt_of_le (by first | omega | (simp; done) | (simp; omega)) hb2.size
      have HB2 := Lib.hid (HB1.out.trans (hb2.mono HB1.out.size))
      clear hb2
      go_wp2
      go_ret
      exact ⟨ret_i (by rw [fin.out]; unfold DMemo.sz; omega), HB2.out⟩

set_option maxHeartbeats 1600000 in
set_option maxRecDepth 100000 in
theorem laws_toMemo {lo hi : Nat} {a0 : Option Addr} {c0 : Nat} {a1 : Option Addr} {c1 : Nat} (x : DMemo) (hsz : x.sz ≤ 1048576) (w : World) (hhi : hi ≤ w.heap.size) (hs0 : Sl lo hi w 9 x.fEntries.length (fun k => DEntry.ct (x.fEntries.getD k default)) a0) (hs1 : Sl lo hi w 2 x.fEvaluated.length (fun k => DInstance.ct (x.fEvaluated.getD k default)) a1) :
    Calls Try.prog 7 #[.agg #[.slice a0 x.fEntries.length c0, .slice a1 x.fEvaluated.length c1]] w fun e w' => ∃ a0r c0r a1r c1r, e = .returned (.agg #[.slice a0r x.fEntries.length c0r, .slice a1r x.fEvaluated.length c1r]) ∧ OwnR w' (fun y => w.heap.size ≤ y ∧ y < w'.heap.size) 2 x.ct (fun j => [.slice a0r x.fEntries.length c0r, .slice a1r x.fEvaluated.length c1r].getD j .nilFunc) ∧ Below w.heap.size w w' := by
  have HS0 := Lib.hid hs0
  have HS1 := Lib.hid hs1
  clear hs0 hs1
  have HW := Lib.hid hsz
  clear hsz
  have HB0 := Lib.hid (((((Below.refl w.heap.size w).alloc (Nat.le_refl _) (.cells #[.slice a0 x.fEntries.length c0, .slice a1 x.fEvaluated.length c1] 25)).alloc (by simp <;> omega) (.cells #[.slice none 0 0, .slice none 0 0] 40))).alloc (by simp <;> omega) (.cells #[.slice none 0 0, .slice none 0 0] 40))
  have HSZ0 := Lib.hid (show w.heap.size + 2 < (((w.alloc (.cells #[.slice a0 x.fEntries.length c0, .slice a1 x.fEvaluated.length c1] 25)).alloc (.cells #[.slice none 0 0, .slice none 0 0] 40)).alloc (.cells #[.slice none 0 0, .slice none 0 0] 40)).heap.size by simp)
  have ht0 := fun (w' : World) (hhi : hi ≤ w'.heap.size) (hs : Sl lo hi w' 9 x.fEntries.length (fun k => DEntry.ct (x.fEntries.getD k default)) a0) => laws_toEntryS (cap := c0) x.fEntries (by have h := HW.out; unfold DMemo.sz at h; omega) w' hhi hs
  have HT0 := Lib.hid ht0
  clear ht0
  have ht1 := fun (w' : World) (hhi : hi ≤ w'.heap.size) (hs : Sl lo hi w' 2 x.fEvaluated.length (fun k => DInstance.ct (x.fEvaluated.getD k default)) a1) => laws_toInstanceS (cap := c1) x.fEvaluated (by have h := HW.out; unfold DMemo.sz at h; omega) w' hhi hs
  have HT1 := Lib.hid ht1
  clear ht1
  go_enter Try.func7, Try.ntmps7
  go_wp2_with fail
  refine (HT0.out _ (Nat.le_trans hhi (Below.size ((by repeat (first | (with_reducible exact HB0.out) | (with_reducible exact Below.refl _ _) | (refine Below.setCell ?_ (by simp <;> omega) _) | (refine Below.alloc ?_ (by simp <;> omega) _)) : Below w.heap.size w _)))) (HS0.out.later ((by repeat (first | (with_reducible exact HB0.out) | (with_reducible exact Below.refl _ _) | (refine Below.setCell ?_ (by simp <;> omega) _) | (refine Below.alloc ?_ (by simp <;> omega) _)) : Below w.heap.size w _)) hhi)).mono ?_
  rintro e w1 ⟨a0r, c0r, rfl, ho1, hb1⟩
  have hsz1 : w.heap.size + 2 < w1.heap.size := Nat.lt_of_lt_of_le (by have h := HSZ0.out; first | (with_reducible exact h) | (simp; done) | (simp; omega) | (simp [World.setCell]; omega)) hb1.size
  have hlo1 : w.heap.size + 3 ≤ w1.heap.size := Nat.le_trans (by first | (with_reducible exact Nat.le_refl _) | (simp; done) | (simp; omega) | (simp [World.setCell]; omega)) hb1.size
  have hbw1 : Below w.heap.size w w1 := Below.trans ((by repeat (first | (with_reducible exact HB0.out) | (with_reducible exact Below.refl _ _) | (refine Below.setCell ?_ (by simp <;> omega) _) | (refine Below.alloc ?_ (by simp <;> omega) _)) : Below w.heap.size w _)) (hb1.mono (Below.size ((by repeat (first | (with_reducible exact HB0.out) | (with_reducible exact Below.refl _ _) | (refine Below.setCell ?_ (by simp <;> omega) _) | (refine Below.alloc ?_ (by simp <;> omega) _)) : Below w.heap.size w _))))
  have HO1_1 := Lib.hid (ho1.sub (F' := fun y => w.heap.size + 3 ≤ y ∧ y < w1.heap.size) (fun y hy => ⟨Nat.le_trans (by first | (with_reducible exact Nat.le_refl _) | (simp; done) | (simp; omega) | (simp [World.setCell]; done) | (simp [World.setCell]; omega)) hy.1, hy.2⟩))
  clear ho1
  have x1_0_1 : w1.cell? ⟨w.heap.size, 1, none⟩ = some (.slice a1 x.fEvaluated.length c1) := (hb1.cell (p := ⟨w.heap.size, 1, none⟩) (by first | omega | (simp; done) | (simp; omega) | (simp [World.setCell]; omega))).trans (by go_simp)
  have x1_1_0 : w1.cell? ⟨w.heap.size + 1, 0, none⟩ = some (.slice none 0 0) := (hb1.cell (p := ⟨w.heap.size + 1, 0, none⟩) (by first | omega | (simp; done) | (simp; omega) | (simp [World.setCell]; omega))).trans (by go_simp)
  have z1_1_0 : w1.frozen? ⟨w.heap.size + 1, 0, none⟩ = false := (hb1.frozen (p := ⟨w.heap.size + 1, 0, none⟩) (by first | omega | (simp; done) | (simp; omega) | (simp [World.setCell]; omega))).trans (by go_simp)
  have x1_1_1 : w1.cell? ⟨w.heap.size + 1, 1, none⟩ = some (.slice none 0 0) := (hb1.cell (p := ⟨w.heap.size + 1, 1, none⟩) (by first | omega | (simp; done) | (simp; omega) | (simp [World.setCell]; omega))).trans (by go_simp)
  have z1_1_1 : w1.frozen? ⟨w.heap.size + 1, 1, none⟩ = false := (hb1.frozen (p := ⟨w.heap.size + 1, 1, none⟩) (by first | omega | (simp; done) | (simp; omega) | (simp [World.setCell]; omega))).trans (by go_simp)
  have x1_2_0 : w1.cell? ⟨w.heap.size + 2, 0, none⟩ = some (.slice none 0 0) := (hb1.cell (p := ⟨w.heap.size + 2, 0, none⟩) (by first | omega | (simp; done) | (simp; omega) | (simp [World.setCell]; omega))).trans (by go_simp)
  have z1_2_0 : w1.frozen? ⟨w.heap.size + 2, 0, none⟩ = false := (hb1.frozen (p := ⟨w.heap.size + 2, 0, none⟩) (by first | omega | (simp; done) | (simp; omega) | (simp [World.setCell]; omega))).trans (by go_simp)
  have x1_2_1 : w1.cell? ⟨w.heap.size + 2, 1, none⟩ = some (.slice none 0 0) := (hb1.cell (p := ⟨w.heap.size + 2, 1, none⟩) (by first | omega | (simp; done) | (simp; omega) | (simp [World.setCell]; omega))).trans (by go_simp)
  have z1_2_1 : w1.frozen? ⟨w.heap.size + 2, 1, none⟩ = false := (hb1.frozen (p := ⟨w.heap.size + 2, 1, none⟩) (by first | omega | (simp; done) | (simp; omega) | (simp [World.setCell]; omega))).trans (by go_simp)
  have HG1 := Lib.hid (show w1.heap[w.heap.size + 1]? = some (.cells #[.slice none 0 0, .slice none 0 0] 40) from (hb1.block _ (by first | omega | (simp; done) | (simp; omega) | (simp [World.setCell]; omega))).trans (by (repeat (refine blk_other (by simp) ?_)); exact blk_alloc (by simp) (blk_new (by simp))))
  have HB1 := Lib.hid hbw1
  have HSZ1 := Lib.hid hsz1
  have HLO1 := Lib.hid hlo1
  clear hb1 hbw1 hsz1 hlo1
  go_wp2_with fail
  refine (HT1.out _ (Nat.le_trans hhi (Below.size ((by repeat (first | (with_reducible exact HB1.out) | (with_reducible exact Below.refl _ _) | (refine Below.setCell ?_ (by simp <;> omega) _) | (refine Below.alloc ?_ (by simp <;> omega) _)) : Below w.heap.size w _)))) (HS1.out.later ((by repeat (first | (with_reducible exact HB1.out) | (with_reducible exact Below.refl _ _) | (refine Below.setCell ?_ (by simp <;> omega) _) | (refine Below.alloc ?_ (by simp <;> omega) _)) : Below w.heap.size w _)) hhi)).mono ?_
  rintro e w2 ⟨a1r, c1r, rfl, ho2, hb2⟩
  have hsz2 : w.heap.size + 2 < w2.heap.size := Nat.lt_of_lt_of_le (by have h := HSZ1.out; first | (with_reducible exact h) | (simp; done) | (simp; omega) | (simp [World.setCell]; omega)) hb2.size
  have hlo2 : w1.heap.size ≤ w2.heap.size := Nat.le_trans (by first | (with_reducible exact Nat.le_refl _) | (simp; done) | (simp; omega) | (simp [World.setCell]; omega)) hb2.size
  have hbw2 : Below w.heap.size w w2 := Below.trans ((by repeat (first | (with_reducible exact HB1.out) | (with_reducible exact Below.refl _ _) | (refine Below.setCell ?_ (by simp <;> omega) _) | (refine Below.alloc ?_ (by simp <;> omega) _)) : Below w.heap.size w _)) (hb2.mono (Below.size ((by repeat (first | (with_reducible exact HB1.out) | (with_reducible exact Below.refl _ _) | (refine Below.setCell ?_ (by simp <;> omega) _) | (refine Below.alloc ?_ (by simp <;> omega) _)) : Below w.heap.size w _))))
  have HO1_2 := Lib.hid (HO1_1.out.kept (Kept.trans (by repeat (first | (with_reducible exact Kept.refl) | (refine Kept.put ?_ (by rintro ⟨h1, h2⟩; dsimp only at h1; have h3 := HSZ0.out; omega)))) (Kept.of_below_all hb2)))
  clear HO1_1
  have HO2_2 := Lib.hid (ho2.sub (F' := fun y => w1.heap.size ≤ y ∧ y < w2.heap.size) (fun y hy => ⟨Nat.le_trans (by first | (with_reducible exact Nat.le_refl _) | (simp; done) | (simp; omega) | (simp [World.setCell]; done) | (simp [World.setCell]; omega)) hy.1, hy.2⟩))
  clear ho2
  have hsp := HSZ1.out
  have x2_1_0 : w2.cell? ⟨w.heap.size + 1, 0, none⟩ = some (.slice none 0 0) := (hb2.cell (p := ⟨w.heap.size + 1, 0, none⟩) (by first | (have h9 := HSZ1.out; first | omega | (simp; omega)) | omega | (simp; done) | (simp; omega) | (simp [World.setCell]; omega))).trans (by go_simp)
  have z2_1_0 : w2.frozen? ⟨w.heap.size + 1, 0, none⟩ = false := (hb2.frozen (p := ⟨w.heap.size + 1, 0, none⟩) (by first | (have h9 := HSZ1.out; first | omega | (simp; omega)) | omega | (simp; done) | (simp; omega) | (simp [World.setCell]; omega))).trans (by go_simp)
  have x2_1_1 : w2.cell? ⟨w.heap.size + 1, 1, none⟩ = some (.slice none 0 0) := (hb2.cell (p := ⟨w.heap.size + 1, 1, none⟩) (by first | (have h9 := HSZ1.out; first | omega | (simp; omega)) | omega | (simp; done) | (simp; omega) | (simp [World.setCell]; omega))).trans (by go_simp)
  have z2_1_1 : w2.frozen? ⟨w.heap.size + 1, 1, none⟩ = false := (hb2.frozen (p := ⟨w.heap.size + 1, 1, none⟩) (by first | (have h9 := HSZ1.out; first | omega | (simp; omega)) | omega | (simp; done) | (simp; omega) | (simp [World.setCell]; omega))).trans (by go_simp)
  have x2_2_0 : w2.cell? ⟨w.heap.size + 2, 0, none⟩ = some (.slice a0r x.fEntries.length c0r) := (hb2.cell (p := ⟨w.heap.size + 2, 0, none⟩) (by first | (have h9 := HSZ1.out; first | omega | (simp; omega)) | omega | (simp; done) | (simp; omega) | (simp [World.setCell]; omega))).trans (by go_simp)
  have z2_2_0 : w2.frozen? ⟨w.heap.size + 2, 0, none⟩ = false := (hb2.frozen (p := ⟨w.heap.size + 2, 0, none⟩) (by first | (have h9 := HSZ1.out; first | omega | (simp; omega)) | omega | (simp; done) | (simp; omega) | (simp [World.setCell]; omega))).trans (by go_simp)
  have x2_2_1 : w2.cell? ⟨w.heap.size + 2, 1, none⟩ = some (.slice none 0 0) := (hb2.cell (p := ⟨w.heap.size + 2, 1, none⟩) (by first | (have h9 := HSZ1.out; first | omega | (simp; omega)) | omega | (simp; done) | (simp; omega) | (simp [World.setCell]; omega))).trans (by go_simp)
  have z2_2_1 : w2.frozen? ⟨w.heap.size + 2, 1, none⟩ = false := (hb2.frozen (p := ⟨w.heap.size + 2, 1, none⟩) (by first | (have h9 := HSZ1.out; first | omega | (simp; omega)) | omega | (simp; done) | (simp; omega) | (simp [World.setCell]; omega))).trans (by go_simp)
  have HG2 := Lib.hid (show w2.heap[w.heap.size + 1]? = some (.cells #[.slice none 0 0, .slice none 0 0] 40) from (hb2.block _ (by first | (have h9 := HSZ1.out; first | omega | (simp; omega)) | omega | (simp; done) | (simp; omega) | (simp [World.setCell]; omega))).trans (by repeat (first | (with_reducible exact HG1.out) | (refine blk_other (by simp) ?_))))
  have HB2 := Lib.hid hbw2
  have HSZ2 := Lib.hid hsz2
  have HLO2 := Lib.hid hlo2
  clear hb2 hbw2 hsz2 hlo2 hsp
  clear x1_0_1 x1_1_0 x1_1_1 x1_2_0 x1_2_1 z1_1_0 z1_1_1 z1_2_0 z1_2_1
  go_wp2
  refine bodyPost_ret (v := .agg #[.slice a0r x.fEntries.length c0r, .slice a1r x.fEvaluated.length c1r]) (results_cell_row Try.results7 _ _ (w.heap.size + 1) 40 #[.slice a0r x.fEntries.length c0r, .slice a1r x.fEvaluated.length c1r] (0, 0) _ rfl (by refine Eq.trans (blk_set (cs := #[.slice a0r x.fEntries.length c0r, .slice none 0 0]) (t := 40) (fr := (0, 0)) ?_) rfl; refine Eq.trans (blk_set (cs := #[.slice none 0 0, .slice none 0 0]) (t := 40) (fr := (0, 0)) ?_) rfl; repeat (first | (with_reducible exact HG2.out) | (refine blk_other (by simp) ?_))) Try.underlying40 rfl rfl) rfl ⟨a0r, c0r, a1r, c1r, rfl, ?_, (by repeat (first | (with_reducible exact HB2.out) | (with_reducible exact Below.refl _ _) | (refine Below.setCell ?_ (by simp <;> omega) _) | (refine Below.alloc ?_ (by simp <;> omega) _)) : Below w.heap.size w _)⟩
  have ho1 := HO1_2.out
  clear HO1_2
  have ho2 := HO2_2.out
  clear HO2_2
  have q1 := HLO1.out
  have q2 := HLO2.out
  skip
  skip
  have hkk : ∀ w9 : World, Kept (fun y => w.heap.size + 3 ≤ y) w2 w9 → OwnR w9 (fun y => w.heap.size ≤ y ∧ y < w2.heap.size) 2 x.ct (fun j => [.slice a0r x.fEntries.length c0r, .slice a1r x.fEvaluated.length c1r].getD j .nilFunc) := fun w9 hk => by
    refine OwnR.append (F1 := fun y => w.heap.size + 3 ≤ y ∧ y < w1.heap.size) (F2 := fun y => w1.heap.size ≤ y ∧ y < w2.heap.size) (m := 1) (n := 1) ?_ ?_ (by intro y h1 h2; first | exact h1.elim | exact h2.elim | (have h3 := h1.2; have h4 := h2.1; omega)) (by intro y h1; first | exact h1.elim | (have h3 := h1.1; have h4 := h1.2; exact ⟨by omega, by omega⟩)) (by intro y h1; first | exact h1.elim | (have h3 := h1.1; have h4 := h1.2; exact ⟨by omega, by omega⟩))
    · skip
      exact OwnR.one (ho1.kept (hk.sub fun y hy => by have h := hy.1; omega))
    · skip
      exact OwnR.one (ho2.kept (hk.sub fun y hy => by have h := hy.1; omega))
  refine (hkk _ (by repeat (first | (with_reducible exact Kept.refl) | (refine Kept.put ?_ (by intro h1; dsimp only at h1; omega))))).sub (fun y hy => ⟨hy.1, Nat.lt_of_lt_of_le hy.2 (by simp)⟩)

theorem info_Memo : (Try.prog.info? 40).map (fun i => (i.zero, i.size, i.bytes)) = some (some (.agg #[.slice none 0 0, .slice none 0 0]), 2, 48) := by kernel_rfl

set_option maxHeartbeats 1600000 in
set_option maxRecDepth 100000 in
theorem laws_eqMemo {lo hi lo2 hi2 : Nat} {a0 : Option Addr} {c0 : Nat} {a1 : Option Addr} {c1 : Nat} {a0q : Option Addr} {c0q : Nat} {a1q : Option Addr} {c1q : Nat} (x : DMemo) (hsz : x.sz ≤ 1048576) (w : World) (hhi : hi ≤ w.heap.size) (hhi2 : hi2 ≤ w.heap.size) (hs0 : Sl lo hi w 9 x.fEntries.length (fun k => DEntry.ct (x.fEntries.getD k default)) a0) (hs1 : Sl lo hi w 2 x.fEvaluated.length (fun k => DInstance.ct (x.fEvaluated.getD k default)) a1) (hs0q : Sl lo2 hi2 w 9 x.fEntries.length (fun k => DEntry.ct (x.fEntries.getD k default)) a0q) (hs1q : Sl lo2 hi2 w 2 x.fEvaluated.length (fun k => DInstance.ct (x.fEvaluated.getD k default)) a1q) :
    Calls Try.prog 11 #[.agg #[.slice a0 x.fEntries.length c0, .slice a1 x.fEvaluated.length c1], .agg #[.slice a0q x.fEntries.length c0q, .slice a1q x.fEvaluated.length c1q]] w fun e w' => e = .returned (.bool true) ∧ Below w.heap.size w w' := by
  have HS0 := Lib.hid hs0
  have HS0q := Lib.hid hs0q
  have HS1 := Lib.hid hs1
  have HS1q := Lib.hid hs1q
  clear hs0 hs0q hs1 hs1q
  have HW := Lib.hid hsz
  clear hsz
  have HB0 := Lib.hid (((Below.refl w.heap.size w).alloc (Nat.le_refl _) (.cells #[.slice a0 x.fEntries.length c0, .slice a1 x.fEvaluated.length c1] 40)).alloc (by simp <;> omega) (.cells #[.slice a0q x.fEntries.length c0q, .slice a1q x.fEvaluated.length c1q] 40))
  have ht0 := fun (w' : World) (hhi : hi ≤ w'.heap.size) (hhi2 : hi2 ≤ w'.heap.size) (hs : Sl lo hi w' 9 x.fEntries.length (fun k => DEntry.ct (x.fEntries.getD k default)) a0) (hs2 : Sl lo2 hi2 w' 9 x.fEntries.length (fun k => DEntry.ct (x.fEntries.getD k default)) a0q) => laws_eqEntryS (cap := c0) (cap2 := c0q) x.fEntries (by have h := HW.out; unfold DMemo.sz at h; omega) w' hhi hhi2 hs hs2
  have HT0 := Lib.hid ht0
  clear ht0
  have ht1 := fun (w' : World) (hhi : hi ≤ w'.heap.size) (hhi2 : hi2 ≤ w'.heap.size) (hs : Sl lo hi w' 2 x.fEvaluated.length (fun k => DInstance.ct (x.fEvaluated.getD k default)) a1) (hs2 : Sl lo2 hi2 w' 2 x.fEvaluated.length (fun k => DInstance.ct (x.fEvaluated.getD k default)) a1q) => laws_eqInstanceS (cap := c1) (cap2 := c1q) x.fEvaluated (by have h := HW.out; unfold DMemo.sz at h; omega) w' hhi hhi2 hs hs2
  have HT1 := Lib.hid ht1
  clear ht1
  go_enter Try.func11, Try.ntmps11
  go_wp2_with fail
  refine (HT0.out _ (Nat.le_trans hhi (HB0.out.size)) (Nat.le_trans hhi2 (HB0.out.size)) (HS0.out.later HB0.out hhi) (HS0q.out.later HB0.out hhi2)).mono ?_
  rintro e w1 ⟨rfl, hb1⟩
  have x1_0_1 : w1.cell? ⟨w.heap.size, 1, none⟩ = some (.slice a1 x.fEvaluated.length c1) := (hb1.cell (p := ⟨w.heap.size, 1, none⟩) (by first | omega | (simp; done) | (simp; omega) | (simp [World.setCell]; omega))).trans (by go_simp)
  have x1_1_1 : w1.cell? ⟨w.heap.size + 1, 1, none⟩ = some (.slice a1q x.fEvaluated.length c1q) := (hb1.cell (p := ⟨w.heap.size + 1, 1, none⟩) (by first | omega | (simp; done) | (simp; omega) | (simp [World.setCell]; omega))).trans (by go_simp)
  have hsz1 : w.heap.size + 1 < w1.heap.size := Nat.lt_of_lt_of_le (by first | omega | (simp; done) | (simp; omega) | (simp [World.setCell]; omega)) hb1.size
  have HB1 := Lib.hid (HB0.out.trans (hb1.mono HB0.out.size))
  clear hb1
  go_wp2_with fail
  refine (HT1.out _ (Nat.le_trans hhi (HB1.out.size)) (Nat.le_trans hhi2 (HB1.out.size)) (HS1.out.later HB1.out hhi) (HS1q.out.later HB1.out hhi2)).mono ?_
  rintro e w2 ⟨rfl, hb2⟩
  have HB2 := Lib.hid (HB1.out.trans (hb2.mono HB1.out.size))
  clear hb2
  clear x1_0_1 x1_1_1 hsz1
  go_wp2
  go_ret
  exact ⟨rfl, HB2.out⟩
end Go.Proofs.Ythgpompoionfoaa
