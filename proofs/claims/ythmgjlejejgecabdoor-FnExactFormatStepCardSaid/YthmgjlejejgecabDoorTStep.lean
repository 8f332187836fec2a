/-
  The type Step of the laws: its data, and the contracts of the laws' own helpers on it.
-/
import Derived.Test.YthmgjlejejgecabDoorTSz
import Derived.WalkSpells
import Derived.WalkSmall
import Derived.WalkLawsBesides
import Derived.SliceStrings
import Derived.Deep.QuietTactic
import Derived.Deep.RegionWith
import Derived.BigQuiet
import Derived.Outline
namespace Go.Proofs.YthmgjlejejgecabDoor
open Go.ChangeShapes Go.WideShapes Go.ChangeAt Go.RowKit Go.Deep

structure DStep where
  fKind : Int
  fPos : Int
  fVisit : Int
  fName : ByteArray
  deriving Inhabited

def DStep.ct (x : DStep) : Nat → Ct
  | 0 => .lit (.int .i64 x.fKind)
  | 1 => .lit (.int .i64 x.fPos)
  | 2 => .lit (.int .i64 x.fVisit)
  | 3 => .lit (.string x.fName)
  | _ => .lit .nilFunc

def DStep.ok (x : DStep) : Prop := okI x.fKind ∧ okI x.fPos ∧ okI x.fVisit ∧ okS x.fName

def DStep.sz (x : DStep) : Nat := x.fName.size

theorem DStep.open {lo hi b o : Nat} {w : World} {x : DStep} (h : ∀ j, j < 4 → ∃ u, w.cell? ⟨b, o + j, none⟩ = some u ∧ Lies lo hi w (x.ct j) u) :
    w.cell? ⟨b, o, none⟩ = some (.int .i64 x.fKind) ∧ w.cell? ⟨b, o + 1, none⟩ = some (.int .i64 x.fPos) ∧ w.cell? ⟨b, o + 2, none⟩ = some (.int .i64 x.fVisit) ∧ w.cell? ⟨b, o + 3, none⟩ = some (.string x.fName) := by
  obtain ⟨u0, hc0, hl0⟩ := h 0 (by decide)
  obtain rfl := lies_lit hl0
  obtain ⟨u1, hc1, hl1⟩ := h 1 (by decide)
  obtain rfl := lies_lit hl1
  obtain ⟨u2, hc2, hl2⟩ := h 2 (by decide)
  obtain rfl := lies_lit hl2
  obtain ⟨u3, hc3, hl3⟩ := h 3 (by decide)
  obtain rfl := lies_lit hl3
  exact ⟨hc0, hc1, hc2, hc3⟩

theorem opens_step {H : Type} {enc : TypeId × Value → H} {w : World} (fuel : Nat) : Opens enc Tryd.prog w 23 4 DStep.ct DStep.ok fuel := by
  intro cs x h
  have hl := opens_len Tryd.underlying23 h
  obtain ⟨y0, k0, q0⟩ := opens_field Tryd.underlying23 h 0 _ rfl (ft := 3) (o := 0) (n := 1) rfl rfl (fun m _ => opens_int Tryd.underlying3 m) (by kernel_rfl)
  obtain ⟨y1, k1, q1⟩ := opens_field Tryd.underlying23 h 1 _ rfl (ft := 3) (o := 1) (n := 1) rfl rfl (fun m _ => opens_int Tryd.underlying3 m) (by kernel_rfl)
  obtain ⟨y2, k2, q2⟩ := opens_field Tryd.underlying23 h 2 _ rfl (ft := 3) (o := 2) (n := 1) rfl rfl (fun m _ => opens_int Tryd.underlying3 m) (by kernel_rfl)
  obtain ⟨y3, k3, q3⟩ := opens_field Tryd.underlying23 h 3 _ rfl (ft := 9) (o := 3) (n := 1) rfl rfl (fun m _ => opens_string Tryd.underlying9 m) (by kernel_rfl)
  refine ⟨⟨y0, y1, y2, y3⟩, ⟨k0, k1, k2, k3⟩, hl.trans (by kernel_rfl), fun j hj => ?_⟩
  match j, hj with
  | 0, _ => exact q0 0 (by decide)
  | 1, _ => exact q1 0 (by decide)
  | 2, _ => exact q2 0 (by decide)
  | 3, _ => exact q3 0 (by decide)

open Go.WideElems Go.WideMaps in
set_option maxRecDepth 100000 in
theorem arg_step {H : Type} {enc : TypeId × Value → H} {W : World} {base : Nat} {v : Value} {d : DataW H} {p : List MemPlace} (hv : Value.okWide Tryd.prog W .any base 23 v) (h : DataW.Trod enc Tryd.prog W 0 (fun _ => true) true 23 v d p) :
    ∃ (x : DStep), v = .agg #[.int .i64 x.fKind, .int .i64 x.fPos, .int .i64 x.fVisit, .string x.fName] ∧ x.ok := by
  obtain ⟨cs, rfl, hsz⟩ := okWide_struct Tryd.underlying23 hv
  obtain ⟨fuel, hf⟩ := h
  obtain ⟨x, hx, hl, hj⟩ := opens_step fuel _ _ hf
  obtain ⟨l⟩ := cs
  match l, hl, hj with
  | [e0, e1, e2, e3], _, hj =>
    obtain ⟨u0, hu0, hl0⟩ := hj 0 (by decide)
    obtain rfl := lies_lit hl0
    obtain rfl : e0 = _ := Option.some.inj hu0
    obtain ⟨u1, hu1, hl1⟩ := hj 1 (by decide)
    obtain rfl := lies_lit hl1
    obtain rfl : e1 = _ := Option.some.inj hu1
    obtain ⟨u2, hu2, hl2⟩ := hj 2 (by decide)
    obtain rfl := lies_lit hl2
    obtain rfl : e2 = _ := Option.some.inj hu2
    obtain ⟨u3, hu3, hl3⟩ := hj 3 (by decide)
    obtain rfl := lies_lit hl3
    obtain rfl : e3 = _ := Option.some.inj hu3
    exact ⟨x, rfl, hx⟩

set_option maxHeartbeats 1600000 in
set_option maxRecDepth 100000 in
theorem laws_szStep (x : DStep) (L : Int) (hL0 : 0 ≤ L) (hL1 : L ≤ 1048576) (hx : x.ok) (w : World) :
    Calls Tryd.prog 7 #[.agg #[.int .i64 x.fKind, .int .i64 x.fPos, .int .i64 x.fVisit, .string x.fName], .int .i64 L] w fun e w' => e = .returned (.int .i64 (szR L x.sz)) ∧ Below w.heap.size w w' := by
  have HX := Lib.hid hx
  clear hx
  have okName : x.fName.size ≤ 9223372036854775807 := HX.out.2.2.2
  have HB0 := Lib.hid ((Below.refl w.heap.size w).alloc (Nat.le_refl _) (.cells #[.int .i64 x.fKind, .int .i64 x.fPos, .int .i64 x.fVisit, .string x.fName] 23))
  by_cases h0 : L < ((x.fName.size : Nat) : Int)
  · skip
    have fin := Lib.hid (szR_gt (n := x.sz) (L := L) (by unfold DStep.sz; omega))
    go_enter Tryd.func7, Tryd.ntmps7
    go_wp2
    go_ret
    exact ⟨ret_i (by rw [fin.out]), HB0.out⟩
  · skip
    have fin := Lib.hid (szR_le (n := x.sz) (L := L) (by unfold DStep.sz; omega))
    go_enter Tryd.func7, Tryd.ntmps7
    go_wp2
    go_ret
    exact ⟨ret_i (by rw [fin.out]; unfold DStep.sz; omega), HB0.out⟩

set_option maxHeartbeats 1600000 in
set_option maxRecDepth 100000 in
theorem laws_toStep (x : DStep) (w : World) :
    Calls Tryd.prog 9 #[.agg #[.int .i64 x.fKind, .int .i64 x.fPos, .int .i64 x.fVisit, .string x.fName]] w fun e w' => e = .returned (.agg #[.int .i64 x.fKind, .int .i64 x.fPos, .int .i64 x.fVisit, .string x.fName]) ∧ Below w.heap.size w w' := by
  go_enter Tryd.func9, Tryd.ntmps9
  go_wp2
  exact bodyPost_ret (v := .agg #[.int .i64 x.fKind, .int .i64 x.fPos, .int .i64 x.fVisit, .string x.fName]) (by simp [results, Tryd.results9, go_sem]) rfl ⟨rfl, by
    repeat (first | exact Below.refl _ _ | (refine Below.setCell ?_ (by simp <;> omega) _) | (refine Below.alloc ?_ (by simp <;> omega) _))⟩

theorem info_Step : (Tryd.prog.info? 26).map (fun i => (i.zero, i.size, i.bytes)) = some (some (.agg #[.int .i64 0, .int .i64 0, .int .i64 0, .string ⟨#[]⟩]), 4, 40) := by kernel_rfl
end Go.Proofs.YthmgjlejejgecabDoor
