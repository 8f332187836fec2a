/-
  The type Store of the laws: its data, and the contracts of the laws' own helpers on it.
-/
import Derived.Test.YtjlcbbaicengbaaDoorTCell
import Derived.WalkSpells
import Derived.WalkSmall
import Derived.WalkLawsBesides
import Derived.SliceStrings
import Derived.Deep.QuietTactic
import Derived.Deep.RegionWith
import Derived.BigQuiet
import Derived.Outline
import Derived.Laws.Rows
namespace Go.Proofs.YtjlcbbaicengbaaDoor
open Go.ChangeShapes Go.WideShapes Go.ChangeAt Go.RowKit Go.Deep

structure DStore where
  fCells : List (DCell)
  deriving Inhabited

def DStore.ct (x : DStore) : Nat → Ct
  | 0 => .sl 3 x.fCells.length (fun k => DCell.ct (x.fCells.getD k default))
  | _ => .lit .nilFunc

def DStore.ok (x : DStore) : Prop := (okL DCell.ok) x.fCells

def DStore.sz (x : DStore) : Nat := (lsz DCell.sz) x.fCells

theorem DStore.open {lo hi b o : Nat} {w : World} {x : DStore} (h : ∀ j, j < 1 → ∃ u, w.cell? ⟨b, o + j, none⟩ = some u ∧ Lies lo hi w (x.ct j) u) :
    ∃ a0 c0, w.cell? ⟨b, o, none⟩ = some (.slice a0 x.fCells.length c0) ∧ Sl lo hi w 3 x.fCells.length (fun k => DCell.ct (x.fCells.getD k default)) a0 := by
  obtain ⟨u0, hc0, hl0⟩ := h 0 (by decide)
  obtain ⟨a0, c0, rfl, hs0⟩ := lies_sl hl0
  exact ⟨a0, c0, hc0, hs0⟩

theorem opens_store {H : Type} {enc : TypeId × Value → H} {w : World} (fuel : Nat) : Opens enc Tryd.prog w 24 1 DStore.ct DStore.ok fuel := by
  intro cs x h
  have hl := opens_len Tryd.underlying24 h
  obtain ⟨y0, k0, q0⟩ := opens_field Tryd.underlying24 h 0 _ rfl (ft := 22) (o := 0) (n := 1) rfl rfl (fun m _ => (fun fuel => opens_slice Tryd.underlying22 (e := 52) (n := 3) (by kernel_rfl) (by decide) fuel (fun m _ => opens_cell m)) m) (by kernel_rfl)
  refine ⟨⟨y0⟩, k0, hl.trans (by kernel_rfl), fun j hj => ?_⟩
  match j, hj with
  | 0, _ => exact q0 0 (by decide)

open Go.WideElems Go.WideMaps in
set_option maxRecDepth 100000 in
theorem arg_store {H : Type} {enc : TypeId × Value → H} {W : World} {base : Nat} {v : Value} {d : DataW H} {p : List MemPlace} (hv : Value.okWide Tryd.prog W .any base 24 v) (h : DataW.Trod enc Tryd.prog W 0 (fun _ => true) true 24 v d p) :
    ∃ (x : DStore) (a0 : Option Addr) (c0 : Nat), v = .agg #[.slice a0 x.fCells.length c0] ∧ x.ok ∧ Sl 0 W.heap.size W 3 x.fCells.length (fun k => DCell.ct (x.fCells.getD k default)) a0 := by
  obtain ⟨cs, rfl, hsz⟩ := okWide_struct Tryd.underlying24 hv
  obtain ⟨fuel, hf⟩ := h
  obtain ⟨x, hx, hl, hj⟩ := opens_store fuel _ _ hf
  obtain ⟨l⟩ := cs
  match l, hl, hj with
  | [e0], _, hj =>
    obtain ⟨u0, hu0, hl0⟩ := hj 0 (by decide)
    obtain ⟨a0, c0, rfl, hs0⟩ := lies_sl hl0
    obtain rfl : e0 = _ := Option.some.inj hu0
    exact ⟨x, a0, c0, rfl, hx, hs0⟩

set_option maxHeartbeats 1600000 in
set_option maxRecDepth 100000 in
theorem laws_szStore {lo hi : Nat} {a0 : Option Addr} {c0 : Nat} (x : DStore) (L : Int) (hL0 : 0 ≤ L) (hL1 : L ≤ 1048576) (hx : x.ok) (w : World) (hhi : hi ≤ w.heap.size) (hs0 : Sl lo hi w 3 x.fCells.length (fun k => DCell.ct (x.fCells.getD k default)) a0) :
    Calls Tryd.prog 5 #[.agg #[.slice a0 x.fCells.length c0], .int .i64 L] w fun e w' => e = .returned (.int .i64 (szR L x.sz)) ∧ Below w.heap.size w w' := by
  have HS0 := Lib.hid hs0
  clear hs0
  have HX := Lib.hid hx
  clear hx
  have HB0 := Lib.hid ((Below.refl w.heap.size w).alloc (Nat.le_refl _) (.cells #[.slice a0 x.fCells.length c0] 24))
  by_cases h0 : L < (((lsz DCell.sz) x.fCells : Nat) : Int)
  · skip
    have hz0 := fun (w' : World) (hhi : hi ≤ w'.heap.size) (hs0 : Sl lo hi w' 3 x.fCells.length (fun k => DCell.ct (x.fCells.getD k default)) a0) => laws_szCellS (cap := c0) x.fCells L (by omega) (by omega) HX.out w' hhi hs0
    rw [szR_gt (by omega)] at hz0
    have HZ0 := Lib.hid hz0
    clear hz0
    have fin := Lib.hid (szR_gt (n := x.sz) (L := L) (by unfold DStore.sz; omega))
    go_enter Tryd.func5, Tryd.ntmps5
    go_wp2_with fail
    refine (HZ0.out _ (Nat.le_trans hhi HB0.out.size) (HS0.out.later HB0.out hhi)).mono ?_
    rintro e w1 ⟨rfl, hb1⟩
    have hsz1 : w.heap.size < w1.heap.size := Nat.lt_of_lt_of_le (by first | omega | (simp; done) | (simp; omega)) hb1.size
    have HB1 := Lib.hid (HB0.out.trans (hb1.mono HB0.out.size))
    clear hb1
    go_wp2
    go_ret
    exact ⟨ret_i (by rw [fin.out]), HB1.out⟩
  · skip
    have hz0 := fun (w' : World) (hhi : hi ≤ w'.heap.size) (hs0 : Sl lo hi w' 3 x.fCells.length (fun k => DCell.ct (x.fCells.getD k default)) a0) => laws_szCellS (cap := c0) x.fCells L (by omega) (by omega) HX.out w' hhi hs0
    rw [szR_le (by omega)] at hz0
    have HZ0 := Lib.hid hz0
    clear hz0
    have fin := Lib.hid (szR_le (n := x.sz) (L := L) (by unfold DStore.sz; omega))
    go_enter Tryd.func5, Tryd.ntmps5
    go_wp2_with fail
    refine (HZ0.out _ (Nat.le_trans hhi HB0.out.size) (HS0.out.later HB0.out hhi)).mono ?_
    rintro e w1 ⟨rfl, hb1⟩
    have hsz1 : w.heap.size < w1.heap.size := Nat.lt_of_lt_of_le (by first | omega | (simp; done) | (simp; omega)) hb1.size
    have HB1 := Lib.hid (HB0.out.trans (hb1.mono HB0.out.size))
    clear hb1
    go_wp2
    go_ret
    exact ⟨ret_i (by rw [fin.out]; unfold DStore.sz; omega), HB1.out⟩

set_option maxHeartbeats 1600000 in
set_option maxRecDepth 100000 in
theorem laws_toStore {lo hi : Nat} {a0 : Option Addr} {c0 : Nat} (x : DStore) (hsz : x.sz ≤ 1048576) (w : World) (hhi : hi ≤ w.heap.size) (hs0 : Sl lo hi w 3 x.fCells.length (fun k => DCell.ct (x.fCells.getD k default)) a0) :
    Calls Tryd.prog 7 #[.agg #[.slice a0 x.fCells.length c0]] w fun e w' => ∃ a0r c0r, e = .returned (.agg #[.slice a0r x.fCells.length c0r]) ∧ OwnR w' (fun y => w.heap.size ≤ y ∧ y < w'.heap.size) 1 x.ct (fun j => [.slice a0r x.fCells.length c0r].getD j .nilFunc) ∧ Below w.heap.size w w' := by
  have HS0 := Lib.hid hs0
  clear hs0
  have HW := Lib.hid hsz
  clear hsz
  have HB0 := Lib.hid (((((Below.refl w.heap.size w).alloc (Nat.le_refl _) (.cells #[.slice a0 x.fCells.length c0] 24)).alloc (by simp <;> omega) (.cells #[.slice none 0 0] 29))).alloc (by simp <;> omega) (.cells #[.slice none 0 0] 29))
  have HSZ0 := Lib.hid (show w.heap.size + 2 < (((w.alloc (.cells #[.slice a0 x.fCells.length c0] 24)).alloc (.cells #[.slice none 0 0] 29)).alloc (.cells #[.slice none 0 0] 29)).heap.size by simp)
  have ht0 := fun (w' : World) (hhi : hi ≤ w'.heap.size) (hs : Sl lo hi w' 3 x.fCells.length (fun k => DCell.ct (x.fCells.getD k default)) a0) => laws_toCellS (cap := c0) x.fCells (by have h := HW.out; unfold DStore.sz at h; omega) w' hhi hs
  have HT0 := Lib.hid ht0
  clear ht0
  go_enter Tryd.func7, Tryd.ntmps7
  go_wp2_with fail
  refine (HT0.out _ (Nat.le_trans hhi (Below.size ((by repeat (first | (with_reducible exact HB0.out) | (with_reducible exact Below.refl _ _) | (refine Below.setCell ?_ (by simp <;> omega) _) | (refine Below.alloc ?_ (by simp <;> omega) _)) : Below w.heap.size w _)))) (HS0.out.later ((by repeat (first | (with_reducible exact HB0.out) | (with_reducible exact Below.refl _ _) | (refine Below.setCell ?_ (by simp <;> omega) _) | (refine Below.alloc ?_ (by simp <;> omega) _)) : Below w.heap.size w _)) hhi)).mono ?_
  rintro e w1 ⟨a0r, c0r, rfl, ho1, hb1⟩
  have hsz1 : w.heap.size + 2 < w1.heap.size := Nat.lt_of_lt_of_le (by have h := HSZ0.out; first | (with_reducible exact h) | (simp; done) | (simp; omega) | (simp [World.setCell]; omega)) hb1.size
  have hlo1 : w.heap.size + 3 ≤ w1.heap.size := Nat.le_trans (by first | (with_reducible exact Nat.le_refl _) | (simp; done) | (simp; omega) | (simp [World.setCell]; omega)) hb1.size
  have hbw1 : Below w.heap.size w w1 := Below.trans ((by repeat (first | (with_reducible exact HB0.out) | (with_reducible exact Below.refl _ _) | (refine Below.setCell ?_ (by simp <;> omega) _) | (refine Below.alloc ?_ (by simp <;> omega) _)) : Below w.heap.size w _)) (hb1.mono (Below.size ((by repeat (first | (with_reducible exact HB0.out) | (with_reducible exact Below.refl _ _) | (refine Below.setCell ?_ (by simp <;> omega) _) | (refine Below.alloc ?_ (by simp <;> omega) _)) : Below w.heap.size w _))))
  have HO1_1 := Lib.hid (ho1.sub (F' := fun y => w.heap.size + 3 ≤ y ∧ y < w1.heap.size) (fun y hy => ⟨Nat.le_trans (by first | (with_reducible exact Nat.le_refl _) | (simp; done) | (simp; omega) | (simp [World.setCell]; done) | (simp [World.setCell]; omega)) hy.1, hy.2⟩))
  clear ho1
  have x1_1_0 : w1.cell? ⟨w.heap.size + 1, 0, none⟩ = some (.slice none 0 0) := (hb1.cell (p := ⟨w.heap.size + 1, 0, none⟩) (by first | omega | (simp; done) | (simp; omega) | (simp [World.setCell]; omega))).trans (by go_simp)
  have z1_1_0 : w1.frozen? ⟨w.heap.size + 1, 0, none⟩ = false := (hb1.frozen (p := ⟨w.heap.size + 1, 0, none⟩) (by first | omega | (simp; done) | (simp; omega) | (simp [World.setCell]; omega))).trans (by go_simp)
  have x1_2_0 : w1.cell? ⟨w.heap.size + 2, 0, none⟩ = some (.slice none 0 0) := (hb1.cell (p := ⟨w.heap.size + 2, 0, none⟩) (by first | omega | (simp; done) | (simp; omega) | (simp [World.setCell]; omega))).trans (by go_simp)
  have z1_2_0 : w1.frozen? ⟨w.heap.size + 2, 0, none⟩ = false := (hb1.frozen (p := ⟨w.heap.size + 2, 0, none⟩) (by first | omega | (simp; done) | (simp; omega) | (simp [World.setCell]; omega))).trans (by go_simp)
  have HG1 := Lib.hid (show w1.heap[w.heap.size + 1]? = some (.cells #[.slice none 0 0] 29) from (hb1.block _ (by first | omega | (simp; done) | (simp; omega) | (simp [World.setCell]; omega))).trans (by (repeat (refine blk_other (by simp) ?_)); exact blk_alloc (by simp) (blk_new (by simp))))
  have HB1 := Lib.hid hbw1
  have HSZ1 := Lib.hid hsz1
  have HLO1 := Lib.hid hlo1
  clear hb1 hbw1 hsz1 hlo1
  go_wp2
  refine bodyPost_ret (v := .agg #[.slice a0r x.fCells.length c0r]) (results_cell_row Tryd.results7 _ _ (w.heap.size + 1) 29 #[.slice a0r x.fCells.length c0r] (0, 0) _ rfl (by refine Eq.trans (blk_set (cs := #[.slice none 0 0]) (t := 29) (fr := (0, 0)) ?_) rfl; repeat (first | (with_reducible exact HG1.out) | (refine blk_other (by simp) ?_))) Tryd.underlying29 rfl rfl) rfl ⟨a0r, c0r, rfl, ?_, (by repeat (first | (with_reducible exact HB1.out) | (with_reducible exact Below.refl _ _) | (refine Below.setCell ?_ (by simp <;> omega) _) | (refine Below.alloc ?_ (by simp <;> omega) _)) : Below w.heap.size w _)⟩
  have ho1 := HO1_1.out
  clear HO1_1
  have q1 := HLO1.out
  skip
  have hkk : ∀ w9 : World, Kept (fun y => w.heap.size + 3 ≤ y) w1 w9 → OwnR w9 (fun y => w.heap.size ≤ y ∧ y < w1.heap.size) 1 x.ct (fun j => [.slice a0r x.fCells.length c0r].getD j .nilFunc) := fun w9 hk => by
    refine OwnR.sub (F := fun y => w.heap.size + 3 ≤ y ∧ y < w1.heap.size) ?_ (fun y hy => ⟨by have h := hy.1; omega, hy.2⟩)
    exact OwnR.one (ho1.kept (hk.sub fun y hy => by have h := hy.1; omega))
  refine (hkk _ (by repeat (first | (with_reducible exact Kept.refl) | (refine Kept.put ?_ (by intro h1; dsimp only at h1; omega))))).sub (fun y hy => ⟨hy.1, Nat.lt_of_lt_of_le hy.2 (by simp)⟩)

theorem info_Store : (Tryd.prog.info? 29).map (fun i => (i.zero, i.size, i.bytes)) = some (some (.agg #[.slice none 0 0]), 1, 24) := by kernel_rfl

set_option maxHeartbeats 1600000 in
set_option maxRecDepth 100000 in
theorem laws_eqStore {lo hi lo2 hi2 : Nat} {a0 : Option Addr} {c0 : Nat} {a0q : Option Addr} {c0q : Nat} (x : DStore) (hsz : x.sz ≤ 1048576) (w : World) (hhi : hi ≤ w.heap.size) (hhi2 : hi2 ≤ w.heap.size) (hs0 : Sl lo hi w 3 x.fCells.length (fun k => DCell.ct (x.fCells.getD k default)) a0) (hs0q : Sl lo2 hi2 w 3 x.fCells.length (fun k => DCell.ct (x.fCells.getD k default)) a0q) :
    Calls Tryd.prog 9 #[.agg #[.slice a0 x.fCells.length c0], .agg #[.slice a0q x.fCells.length c0q]] w fun e w' => e = .returned (.bool true) ∧ Below w.heap.size w w' := by
  have HS0 := Lib.hid hs0
  have HS0q := Lib.hid hs0q
  clear hs0 hs0q
  have HW := Lib.hid hsz
  clear hsz
  have HB0 := Lib.hid (((Below.refl w.heap.size w).alloc (Nat.le_refl _) (.cells #[.slice a0 x.fCells.length c0] 29)).alloc (by simp <;> omega) (.cells #[.slice a0q x.fCells.length c0q] 29))
  have ht0 := fun (w' : World) (hhi : hi ≤ w'.heap.size) (hhi2 : hi2 ≤ w'.heap.size) (hs : Sl lo hi w' 3 x.fCells.length (fun k => DCell.ct (x.fCells.getD k default)) a0) (hs2 : Sl lo2 hi2 w' 3 x.fCells.length (fun k => DCell.ct (x.fCells.getD k default)) a0q) => laws_eqCellS (cap := c0) (cap2 := c0q) x.fCells (by have h := HW.out; unfold DStore.sz at h; omega) w' hhi hhi2 hs hs2
  have HT0 := Lib.hid ht0
  clear ht0
  go_enter Tryd.func9, Tryd.ntmps9
  go_wp2_with fail
  refine (HT0.out _ (Nat.le_trans hhi (HB0.out.size)) (Nat.le_trans hhi2 (HB0.out.size)) (HS0.out.later HB0.out hhi) (HS0q.out.later HB0.out hhi2)).mono ?_
  rintro e w1 ⟨rfl, hb1⟩
  have HB1 := Lib.hid (HB0.out.trans (hb1.mono HB0.out.size))
  clear hb1
  go_wp2
  go_ret
  exact ⟨rfl, HB1.out⟩
end Go.Proofs.YtjlcbbaicengbaaDoor
