/-
  Choosing from a list by the cursor of a draw (package spec: l1Pick, l1PickInt, l1Once, l1Whole): one of the list's elements, whichever.
-/
import Derived.Test.YtgpmmlbinmdfmaaGreatDoorDraw
namespace Go.Proofs.YtgpmmlbinmdfmaaGreatDoor
open Go.ChangeShapes Go.WideShapes Go.ChangeAt Go.RowKit

set_option maxHeartbeats 1000000 in
set_option maxRecDepth 100000 in
theorem pick_int {B C : Nat} {a : Option Addr} {len cap : Nat} (w : World) (hc : Cur B C a len cap w) (L : Nat) (xs : List Int) (hn : 0 < xs.length) (hm : xs.length ≤ 1000000) (hL : L ≠ C) (hlt : L < w.heap.size)
    (hx : ∀ j, j < xs.length → w.cell? ⟨L, j, none⟩ = some (Value.int .i64 (xs.getD j 0))) :
    Calls Tryz.prog 49 #[.pointer (some ⟨C, 0, none⟩), .slice (some ⟨L, 0, none⟩) xs.length xs.length] w fun e w' => ∃ j, j < xs.length ∧ e = .returned (Value.int .i64 (xs.getD j 0)) ∧ Cur B C a len cap w' ∧ Writes C w w' := by
  have HC := Lib.hid hc
  have HX := Lib.hid hx
  clear hc hx
  go_enter Tryz.func49, Tryz.ntmps49
  go_wp2_with fail
  refine (draw_below _ HC.out (xs.length : Int) (by omega)).mono ?_
  rintro e w1 ⟨x, rfl, hx0, hx1, hc1, hw1⟩
  obtain ⟨j, rfl⟩ : ∃ j : Nat, x = (j : Int) := ⟨x.toNat, by omega⟩
  have hj : j < xs.length := by omega
  have hcell : w1.cell? ⟨L, j, none⟩ = some (Value.int .i64 (xs.getD j 0)) := (hw1.cell (p := ⟨L, j, none⟩) hlt hL).trans (HX.out j hj)
  generalize hg : Value.int .i64 (xs.getD j 0) = v at hcell
  have HG := Lib.hid hg
  have HC1 := Lib.hid hc1
  have HW1 := Lib.hid hw1
  clear hg hc1 hw1
  go_wp2
  go_ret
  exact ⟨j, hj, congrArg Ending.returned HG.out.symm, HC1.out, HW1.out⟩

set_option maxHeartbeats 1000000 in
set_option maxRecDepth 100000 in
theorem pick_str {B C : Nat} {a : Option Addr} {len cap : Nat} (w : World) (hc : Cur B C a len cap w) (L : Nat) (xs : List ByteArray) (hn : 0 < xs.length) (hm : xs.length ≤ 1000000) (hL : L ≠ C) (hlt : L < w.heap.size)
    (hx : ∀ j, j < xs.length → w.cell? ⟨L, j, none⟩ = some (Value.string (xs.getD j ByteArray.empty))) :
    Calls Tryz.prog 48 #[.pointer (some ⟨C, 0, none⟩), .slice (some ⟨L, 0, none⟩) xs.length xs.length] w fun e w' => ∃ j, j < xs.length ∧ e = .returned (Value.string (xs.getD j ByteArray.empty)) ∧ Cur B C a len cap w' ∧ Writes C w w' := by
  have HC := Lib.hid hc
  have HX := Lib.hid hx
  clear hc hx
  go_enter Tryz.func48, Tryz.ntmps48
  go_wp2_with fail
  refine (draw_below _ HC.out (xs.length : Int) (by omega)).mono ?_
  rintro e w1 ⟨x, rfl, hx0, hx1, hc1, hw1⟩
  obtain ⟨j, rfl⟩ : ∃ j : Nat, x = (j : Int) := ⟨x.toNat, by omega⟩
  have hj : j < xs.length := by omega
  have hcell : w1.cell? ⟨L, j, none⟩ = some (Value.string (xs.getD j ByteArray.empty)) := (hw1.cell (p := ⟨L, j, none⟩) hlt hL).trans (HX.out j hj)
  generalize hg : Value.string (xs.getD j ByteArray.empty) = v at hcell
  have HG := Lib.hid hg
  have HC1 := Lib.hid hc1
  have HW1 := Lib.hid hw1
  clear hg hc1 hw1
  go_wp2
  go_ret
  exact ⟨j, hj, congrArg Ending.returned HG.out.symm, HC1.out, HW1.out⟩

set_option maxRecDepth 100000 in
theorem draw_once {B C : Nat} {a : Option Addr} {len cap : Nat} (w : World) (hc : Cur B C a len cap w) (n : Int) (h0 : 0 < n) :
    Calls Tryz.prog 34 #[.pointer (some ⟨C, 0, none⟩), .int .i64 n] w fun e w' => ∃ x : Bool, e = .returned (.bool x) ∧ Cur B C a len cap w' ∧ Writes C w w' := by
  have HC := Lib.hid hc
  clear hc
  go_enter Tryz.func34, Tryz.ntmps34
  go_wp2_with (go_at_call 25; refine (draw_below _ HC.out n h0).mono ?_; rintro e w1 ⟨x, rfl, hx0, hx1, hc1, hw1⟩)
  go_ret
  exact ⟨_, rfl, hc1, hw1⟩

theorem ints_new (w : World) (xs : List Int) (T : TypeId) (j : Nat) (hj : j < xs.length) : (w.alloc (.cells (xs.map (Value.int .i64)).toArray T)).cell? ⟨w.heap.size, j, none⟩ = some (.int .i64 (xs.getD j 0)) := by
  rw [World.cell?_alloc_new]; simp [List.getD, hj]
theorem strs_new (w : World) (xs : List ByteArray) (T : TypeId) (j : Nat) (hj : j < xs.length) : (w.alloc (.cells (xs.map Value.string).toArray T)).cell? ⟨w.heap.size, j, none⟩ = some (.string (xs.getD j ByteArray.empty)) := by
  rw [World.cell?_alloc_new]; simp [List.getD, hj]

theorem getD_mem {α : Type} {d : α} (xs : List α) (j : Nat) (hj : j < xs.length) : xs.getD j d ∈ xs := by
  rw [List.getD_eq_getElem?_getD, List.getElem?_eq_getElem hj]; exact List.getElem_mem hj

theorem pick_int_new {B C : Nat} {a : Option Addr} {len cap : Nat} (w : World) (hc : Cur B C a len cap w) (xs : List Int) (hn : 0 < xs.length) (hm : xs.length ≤ 1000000) (T : TypeId) :
    Calls Tryz.prog 49 #[.pointer (some ⟨C, 0, none⟩), .slice (some ⟨w.heap.size, 0, none⟩) xs.length xs.length] (w.alloc (.cells (xs.map (Value.int .i64)).toArray T)) fun e w' => ∃ j, j < xs.length ∧ e = .returned (Value.int .i64 (xs.getD j 0)) ∧ Cur B C a len cap w' ∧ Writes C w w' :=
  (pick_int _ (hc.later ((Below.refl _ w).alloc (Nat.le_refl _) _)) w.heap.size xs hn hm (fun h => Nat.lt_irrefl _ (h ▸ hc.lt)) (by simp) (fun j hj => ints_new w xs T j hj)).mono
    fun e w' ⟨j, hj, he, h1, h2⟩ => ⟨j, hj, he, h1, ((Writes.refl C w).alloc _).trans h2⟩

theorem pick_str_new {B C : Nat} {a : Option Addr} {len cap : Nat} (w : World) (hc : Cur B C a len cap w) (xs : List ByteArray) (hn : 0 < xs.length) (hm : xs.length ≤ 1000000) (T : TypeId) :
    Calls Tryz.prog 48 #[.pointer (some ⟨C, 0, none⟩), .slice (some ⟨w.heap.size, 0, none⟩) xs.length xs.length] (w.alloc (.cells (xs.map (Value.string)).toArray T)) fun e w' => ∃ j, j < xs.length ∧ e = .returned (Value.string (xs.getD j ByteArray.empty)) ∧ Cur B C a len cap w' ∧ Writes C w w' :=
  (pick_str _ (hc.later ((Below.refl _ w).alloc (Nat.le_refl _) _)) w.heap.size xs hn hm (fun h => Nat.lt_irrefl _ (h ▸ hc.lt)) (by simp) (fun j hj => strs_new w xs T j hj)).mono
    fun e w' ⟨j, hj, he, h1, h2⟩ => ⟨j, hj, he, h1, ((Writes.refl C w).alloc _).trans h2⟩

def wholes : List Int := [0, 1, -1, 9, 10, 999999, 1000000, 999999999999, 1000000000000, -999999999999, 9223372036854775807, -9223372036854775808]
theorem wholes_in : ∀ x ∈ wholes, -9223372036854775808 ≤ x ∧ x ≤ 9223372036854775807 := by decide
end Go.Proofs.YtgpmmlbinmdfmaaGreatDoor
