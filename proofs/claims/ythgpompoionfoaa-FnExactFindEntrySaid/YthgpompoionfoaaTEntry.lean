/-
  The type Entry of the laws: its data, and the contracts of the laws' own helpers on it.
-/
import Derived.Test.YthgpompoionfoaaTInstance
import Derived.Test.YthgpompoionfoaaTInt
import Derived.Test.YthgpompoionfoaaTReading
import Derived.WalkSpells
import Derived.WalkSmall
import Derived.WalkLawsBesides
import Derived.SliceStrings
import Derived.Deep.QuietTactic
import Derived.Deep.RegionWith
import Derived.BigQuiet
import Derived.Outline
import Derived.Laws.Rows
namespace Go.Proofs.Ythgpompoionfoaa
open Go.ChangeShapes Go.WideShapes Go.ChangeAt Go.RowKit Go.Deep

structure DEntry where
  fAt : DInstance
  fValue : Int
  fOwner : Int
  fLiteral : Int
  fRule : ByteArray
  fIds : List (Int)
  fShape : List (Int)
  fReads : List (DReading)
  deriving Inhabited

def DEntry.ct (x : DEntry) : Nat → Ct
  | 0 => .lit (.int .i64 x.fAt.fNode)
  | 1 => .lit (.string x.fAt.fName)
  | 2 => .lit (.int .i64 x.fValue)
  | 3 => .lit (.int .i64 x.fOwner)
  | 4 => .lit (.int .i64 x.fLiteral)
  | 5 => .lit (.string x.fRule)
  | 6 => .sl 1 x.fIds.length (fun k => ictI (x.fIds.getD k default))
  | 7 => .sl 1 x.fShape.length (fun k => ictI (x.fShape.getD k default))
  | 8 => .sl 4 x.fReads.length (fun k => DReading.ct (x.fReads.getD k default))
  | _ => .lit .nilFunc

def DEntry.ok (x : DEntry) : Prop := DInstance.ok x.fAt ∧ okI x.fValue ∧ okI x.fOwner ∧ okI x.fLiteral ∧ okS x.fRule ∧ (okL okI) x.fIds ∧ (okL okI) x.fShape ∧ (okL DReading.ok) x.fReads

def DEntry.sz (x : DEntry) : Nat := DInstance.sz x.fAt + x.fRule.size + (lsz (fun _ => 0)) x.fIds + (lsz (fun _ => 0)) x.fShape + (lsz DReading.sz) x.fReads

theorem DEntry.open {lo hi b o : Nat} {w : World} {x : DEntry} (h : ∀ j, j < 9 → ∃ u, w.cell? ⟨b, o + j, none⟩ = some u ∧ Lies lo hi w (x.ct j) u) :
    ∃ a6 c6, ∃ a7 c7, ∃ a8 c8, w.cell? ⟨b, o, none⟩ = some (.int .i64 x.fAt.fNode) ∧ w.cell? ⟨b, o + 1, none⟩ = some (.string x.fAt.fName) ∧ w.cell? ⟨b, o + 2, none⟩ = some (.int .i64 x.fValue) ∧ w.cell? ⟨b, o + 3, none⟩ = some (.int .i64 x.fOwner) ∧ w.cell? ⟨b, o + 4, none⟩ = some (.int .i64 x.fLiteral) ∧ w.cell? ⟨b, o + 5, none⟩ = some (.string x.fRule) ∧ w.cell? ⟨b, o + 6, none⟩ = some (.slice a6 x.fIds.length c6) ∧ w.cell? ⟨b, o + 7, none⟩ = some (.slice a7 x.fShape.length c7) ∧ w.cell? ⟨b, o + 8, none⟩ = some (.slice a8 x.fReads.length c8) ∧ Sl lo hi w 1 x.fIds.length (fun k => ictI (x.fIds.getD k default)) a6 ∧ Sl lo hi w 1 x.fShape.length (fun k => ictI (x.fShape.getD k default)) a7 ∧ Sl lo hi w 4 x.fReads.length (fun k => DReading.ct (x.fReads.getD k default)) a8 := by
  obtain ⟨u0, hc0, hl0⟩ := h 0 (by decide)
  obtain rfl := lies_lit hl0
  obtain ⟨u1, hc1, hl1⟩ := h 1 (by decide)
  obtain rfl := lies_lit hl1
  obtain ⟨u2, hc2, hl2⟩ := h 2 (by decide)
  obtain rfl := lies_lit hl2
  obtain ⟨u3, hc3, hl3⟩ := h 3 (by decide)
  obtain rfl := lies_lit hl3
  obtain ⟨u4, hc4, hl4⟩ := h 4 (by decide)
  obtain rfl := lies_lit hl4
  obtain ⟨u5, hc5, hl5⟩ := h 5 (by decide)
  obtain rfl := lies_lit hl5
  obtain ⟨u6, hc6, hl6⟩ := h 6 (by decide)
  obtain ⟨a6, c6, rfl, hs6⟩ := lies_sl hl6
  obtain ⟨u7, hc7, hl7⟩ := h 7 (by decide)
  obtain ⟨a7, c7, rfl, hs7⟩ := lies_sl hl7
  obtain ⟨u8, hc8, hl8⟩ := h 8 (by decide)
  obtain ⟨a8, c8, rfl, hs8⟩ := lies_sl hl8
  exact ⟨a6, c6, a7, c7, a8, c8, hc0, hc1, hc2, hc3, hc4, hc5, hc6, hc7, hc8, hs6, hs7, hs8⟩

theorem opens_entry {H : Type} {enc : TypeId × Value → H} {w : World} (fuel : Nat) : Opens enc Try.prog w 65 9 DEntry.ct DEntry.ok fuel := by
  intro cs x h
  have hl := opens_len Try.underlying65 h
  obtain ⟨y0, k0, q0⟩ := opens_field Try.underlying65 h 0 _ rfl (ft := 27) (o := 0) (n := 2) rfl rfl (fun m _ => opens_instance m) (by kernel_rfl)
  obtain ⟨y1, k1, q1⟩ := opens_field Try.underlying65 h 1 _ rfl (ft := 3) (o := 2) (n := 1) rfl rfl (fun m _ => opens_int Try.underlying3 m) (by kernel_rfl)
  obtain ⟨y2, k2, q2⟩ := opens_field Try.underlying65 h 2 _ rfl (ft := 3) (o := 3) (n := 1) rfl rfl (fun m _ => opens_int Try.underlying3 m) (by kernel_rfl)
  obtain ⟨y3, k3, q3⟩ := opens_field Try.underlying65 h 3 _ rfl (ft := 3) (o := 4) (n := 1) rfl rfl (fun m _ => opens_int Try.underlying3 m) (by kernel_rfl)
  obtain ⟨y4, k4, q4⟩ := opens_field Try.underlying65 h 4 _ rfl (ft := 9) (o := 5) (n := 1) rfl rfl (fun m _ => opens_string Try.underlying9 m) (by kernel_rfl)
  obtain ⟨y5, k5, q5⟩ := opens_field Try.underlying65 h 5 _ rfl (ft := 31) (o := 6) (n := 1) rfl rfl (fun m _ => (fun fuel => opens_slice Try.underlying31 (e := 3) (n := 1) (by kernel_rfl) (by decide) fuel (fun m _ => (opens_int Try.underlying3) m)) m) (by kernel_rfl)
  obtain ⟨y6, k6, q6⟩ := opens_field Try.underlying65 h 6 _ rfl (ft := 31) (o := 7) (n := 1) rfl rfl (fun m _ => (fun fuel => opens_slice Try.underlying31 (e := 3) (n := 1) (by kernel_rfl) (by decide) fuel (fun m _ => (opens_int Try.underlying3) m)) m) (by kernel_rfl)
  obtain ⟨y7, k7, q7⟩ := opens_field Try.underlying65 h 7 _ rfl (ft := 63) (o := 8) (n := 1) rfl rfl (fun m _ => (fun fuel => opens_slice Try.underlying63 (e := 78) (n := 4) (by kernel_rfl) (by decide) fuel (fun m _ => opens_reading m)) m) (by kernel_rfl)
  refine ⟨⟨y0, y1, y2, y3, y4, y5, y6, y7⟩, ⟨k0, k1, k2, k3, k4, k5, k6, k7⟩, hl.trans (by kernel_rfl), fun j hj => ?_⟩
  match j, hj with
  | 0, _ => exact q0 0 (by decide)
  | 1, _ => exact q0 1 (by decide)
  | 2, _ => exact q1 0 (by decide)
  | 3, _ => exact q2 0 (by decide)
  | 4, _ => exact q3 0 (by decide)
  | 5, _ => exact q4 0 (by decide)
  | 6, _ => exact q5 0 (by decide)
  | 7, _ => exact q6 0 (by decide)
  | 8, _ => exact q7 0 (by decide)

open Go.WideElems Go.WideMaps in
set_option maxRecDepth 100000 in
theorem arg_entry {H : Type} {enc : TypeId × Value → H} {W : World} {base : Nat} {v : Value} {d : DataW H} {p : List MemPlace} (hv : Value.okWide Try.prog W .any base 65 v) (h : DataW.Trod enc Try.prog W 0 (fun _ => true) true 65 v d p) :
    ∃ (x : DEntry) (a6 : Option Addr) (c6 : Nat) (a7 : Option Addr) (c7 : Nat) (a8 : Option Addr) (c8 : Nat), v = .agg #[.int .i64 x.fAt.fNode, .string x.fAt.fName, .int .i64 x.fValue, .int .i64 x.fOwner, .int .i64 x.fLiteral, .string x.fRule, .slice a6 x.fIds.length c6, .slice a7 x.fShape.length c7, .slice a8 x.fReads.length c8] ∧ x.ok ∧ Sl 0 W.heap.size W 1 x.fIds.length (fun k => ictI (x.fIds.getD k default)) a6 ∧ Sl 0 W.heap.size W 1 x.fShape.length (fun k => ictI (x.fShape.getD k default)) a7 ∧ Sl 0 W.heap.size W 4 x.fReads.length (fun k => DReading.ct (x.fReads.getD k default)) a8 := by
  obtain ⟨cs, rfl, hsz⟩ := okWide_struct Try.underlying65 hv
  obtain ⟨fuel, hf⟩ := h
  obtain ⟨x, hx, hl, hj⟩ := opens_entry fuel _ _ hf
  obtain ⟨l⟩ := cs
  match l, hl, hj with
  | [e0, e1, e2, e3, e4, e5, e6, e7, e8], _, hj =>
    obtain ⟨u0, hu0, hl0⟩ := hj 0 (by decide)
    obtain rfl := lies_lit hl0
    obtain rfl : e0 = _ := Option.some.inj hu0
    obtain ⟨u1, hu1, hl1⟩ := hj 1 (by decide)
    obtain rfl := lies_lit hl1
    obtain rfl : e1 = _ := Option.some.inj hu1
    obtain ⟨u2, hu2, hl2⟩ := hj 2 (by decide)
    obtain rfl := lies_lit hl2
    obtain rfl : e2 = _ := Option.some.inj hu2
    obtain ⟨u3, hu3, hl3⟩ := hj 3 (by decide)
    obtain rfl := lies_lit hl3
    obtain rfl : e3 = _ := Option.some.inj hu3
    obtain ⟨u4, hu4, hl4⟩ := hj 4 (by decide)
    obtain rfl := lies_lit hl4
    obtain rfl : e4 = _ := Option.some.inj hu4
    obtain ⟨u5, hu5, hl5⟩ := hj 5 (by decide)
    obtain rfl := lies_lit hl5
    obtain rfl : e5 = _ := Option.some.inj hu5
    obtain ⟨u6, hu6, hl6⟩ := hj 6 (by decide)
    obtain ⟨a6, c6, rfl, hs6⟩ := lies_sl hl6
    obtain rfl : e6 = _ := Option.some.inj hu6
    obtain ⟨u7, hu7, hl7⟩ := hj 7 (by decide)
    obtain ⟨a7, c7, rfl, hs7⟩ := lies_sl hl7
    obtain rfl : e7 = _ := Option.some.inj hu7
    obtain ⟨u8, hu8, hl8⟩ := hj 8 (by decide)
    obtain ⟨a8, c8, rfl, hs8⟩ := lies_sl hl8
    obtain rfl : e8 = _ := Option.some.inj hu8
    exact ⟨x, a6, c6, a7, c7, a8, c8, rfl, hx, hs6, hs7, hs8⟩

open Go.WideElems Go.WideMaps in
theorem arg_entryS {H : Type} {enc : TypeId × Value → H} {W : World} {v : Value} {d : DataW H} {p : List MemPlace} {a0 : Option Addr} {len cap : Nat} (hv : v = .slice a0 len cap) (h : DataW.Trod enc Try.prog W 0 (fun _ => true) true 22 v d p) :
    ∃ (l : List DEntry) (a : Option Addr) (cap : Nat), v = .slice a l.length cap ∧ okL DEntry.ok l ∧ Sl 0 W.heap.size W 9 l.length (fun k => DEntry.ct (l.getD k default)) a := by
  subst hv
  obtain ⟨fuel, hf⟩ := h
  obtain ⟨x, hx, hl, hj⟩ := opens_slice Try.underlying22 (e := 65) (n := 9) (by kernel_rfl) (by decide) fuel (fun m _ => opens_entry m) _ _ hf
  obtain ⟨u0, hu0, hl0⟩ := hj 0 (by decide)
  obtain ⟨a, c, rfl, hs⟩ := lies_sl hl0
  exact ⟨x, a, c, Option.some.inj hu0, hx, hs⟩

set_option maxHeartbeats 1600000 in
set_option maxRecDepth 100000 in
theorem laws_szEntry {lo hi : Nat} {a6 : Option Addr} {c6 : Nat} {a7 : Option Addr} {c7 : Nat} {a8 : Option Addr} {c8 : Nat} (x : DEntry) (L : Int) (hL0 : 0 ≤ L) (hL1 : L ≤ 1048576) (hx : x.ok) (w : World) (hhi : hi ≤ w.heap.size) (hs6 : Sl lo hi w 1 x.fIds.length (fun k => ictI (x.fIds.getD k default)) a6) (hs7 : Sl lo hi w 1 x.fShape.length (fun k => ictI (x.fShape.getD k default)) a7) (hs8 : Sl lo hi w 4 x.fReads.length (fun k => DReading.ct (x.fReads.getD k default)) a8) :
    Calls Try.prog 33 #[.agg #[.int .i64 x.fAt.fNode, .string x.fAt.fName, .int .i64 x.fValue, .int .i64 x.fOwner, .int .i64 x.fLiteral, .string x.fRule, .slice a6 x.fIds.length c6, .slice a7 x.fShape.length c7, .slice a8 x.fReads.length c8], .int .i64 L] w fun e w' => e = .returned (.int .i64 (szR L x.sz)) ∧ Below w.heap.size w w' := by
  have HS6 := Lib.hid hs6
  have HS7 := Lib.hid hs7
  have HS8 := Lib.hid hs8
  clear hs6 hs7 hs8
  have HX := Lib.hid hx
  clear hx
  have okRule : x.fRule.size ≤ 9223372036854775807 := HX.out.2.2.2.2.1
  have HB0 := Lib.hid ((Below.refl w.heap.size w).alloc (Nat.le_refl _) (.cells #[.int .i64 x.fAt.fNode, .string x.fAt.fName, .int .i64 x.fValue, .int .i64 x.fOwner, .int .i64 x.fLiteral, .string x.fRule, .slice a6 x.fIds.length c6, .slice a7 x.fShape.length c7, .slice a8 x.fReads.length c8] 65))
  by_cases h0 : L < ((DInstance.sz x.fAt : Nat) : Int)
  · skip
    have hz0 := fun (w' : World) => laws_szInstance x.fAt L (by omega) (by omega) HX.out.1 w'
    rw [szR_gt (by omega)] at hz0
    have HZ0 := Lib.hid hz0
    clear hz0
    have fin := Lib.hid (szR_gt (n := x.sz) (L := L) (by unfold DEntry.sz; omega))
    go_enter Try.func33, Try.ntmps33
    go_wp2_with fail
    refine (HZ0.out _).mono ?_
    rintro e w1 ⟨rfl, hb1⟩
    have hsz1 : w.heap.size < w1.heap.size := Nat.lt_of_lt_of_le (by first | omega | (simp; done) | (simp; omega)) hb1.size
    have HB1 := Lib.hid (HB0.out.trans (hb1.mono HB0.out.size))
    clear hb1
    go_wp2
    go_ret
    exact ⟨ret_i (by rw [fin.out]), HB1.out⟩
  · skip
    by_cases h1 : (L - (DInstance.sz x.fAt : Nat)) < ((x.fRule.size : Nat) : Int)
    · skip
      have hz0 := fun (w' : World) => laws_szInstance x.fAt L (by omega) (by omega) HX.out.1 w'
      rw [szR_le (by omega)] at hz0
      have HZ0 := Lib.hid hz0
      clear hz0
      have fin := Lib.hid (szR_gt (n := x.sz) (L := L) (by unfold DEntry.sz; omega))
      go_enter Try.func33, Try.ntmps33
      go_wp2_with fail
      refine (HZ0.out _).mono ?_
      rintro e w1 ⟨rfl, hb1⟩
      have hsz1 : w.heap.size < w1.heap.size := Nat.lt_of_lt_of_le (by first | omega | (simp; done) | (simp; omega)) hb1.size
      have x1_0_5 : w1.cell? ⟨w.heap.size, 5, none⟩ = some (.string x.fRule) := (hb1.cell (p := ⟨w.heap.size, 5, none⟩) (by first | omega | (simp; done) | (simp; omega) | (simp [World.setCell]; omega))).trans (by go_simp)
      have HB1 := Lib.hid (HB0.out.trans (hb1.mono HB0.out.size))
      clear hb1
      go_wp2
      go_ret
      exact ⟨ret_i (by rw [fin.out]), HB1.out⟩
    · skip
      by_cases h2 : ((L - (DInstance.sz x.fAt : Nat)) - (x.fRule.size : Nat)) < (((lsz (fun _ => 0)) x.fIds : Nat) : Int)
      · skip
        have hz0 := fun (w' : World) => laws_szInstance x.fAt L (by omega) (by omega) HX.out.1 w'
        rw [szR_le (by omega)] at hz0
        have HZ0 := Lib.hid hz0
        clear hz0
        have hz1 := fun (w' : World) (hhi : hi ≤ w'.heap.size) (hs6 : Sl lo hi w' 1 x.fIds.length (fun k => ictI (x.fIds.getD k default)) a6) => laws_szIntS (cap := c6) x.fIds ((L - (DInstance.sz x.fAt : Nat)) - (x.fRule.size : Nat)) (by omega) (by omega) HX.out.2.2.2.2.2.1 w' hhi hs6
        rw [szR_gt (by omega)] at hz1
        have HZ1 := Lib.hid hz1
        clear hz1
        have fin := Lib.hid (szR_gt (n := x.sz) (L := L) (by unfold DEntry.sz; omega))
        go_enter Try.func33, Try.ntmps33
        go_wp2_with fail
        refine (HZ0.out _).mono ?_
        rintro e w1 ⟨rfl, hb1⟩
        have hsz1 : w.heap.size < w1.heap.size := Nat.lt_of_lt_of_le (by first | omega | (simp; done) | (simp; omega)) hb1.size
        have x1_0_5 : w1.cell? ⟨w.heap.size, 5, none⟩ = some (.string x.fRule) := (hb1.cell (p := ⟨w.heap.size, 5, none⟩) (by first | omega | (simp; done) | (simp; omega) | (simp [World.setCell]; omega))).trans (by go_simp)
        have x1_0_6 : w1.cell? ⟨w.heap.size, 6, none⟩ = some (.slice a6 x.fIds.length c6) := (hb1.cell (p := ⟨w.heap.size, 6, none⟩) (by first | omega | (simp; done) | (simp; omega) | (simp [World.setCell]; omega))).trans (by go_simp)
        have HB1 := Lib.hid (HB0.out.trans (hb1.mono HB0.out.size))
        clear hb1
        go_wp2_with fail
        refine (HZ1.out _ (Nat.le_trans hhi HB1.out.size) (HS6.out.later HB1.out hhi)).mono ?_
        rintro e w2 ⟨rfl, hb2⟩
        have hsz2 : w.heap.size < w2.heap.size := Nat.lt_of_lt_of_le (by first | omega | (simp; done) | (simp; omega)) hb2.size
        have HB2 := Lib.hid (HB1.out.trans (hb2.mono HB1.out.size))
        clear hb2
        go_wp2
        go_ret
        exact ⟨ret_i (by rw [fin.out]), HB2.out⟩
      · skip
        by_cases h3 : (((L - (DInstance.sz x.fAt : Nat)) - (x.fRule.size : Nat)) - ((lsz (fun _ => 0)) x.fIds : Nat)) < (((lsz (fun _ => 0)) x.fShape : Nat) : Int)
        · skip
          have hz0 := fun (w' : World) => laws_szInstance x.fAt L (by omega) (by omega) HX.out.1 w'
          rw [szR_le (by omega)] at hz0
          have HZ0 := Lib.hid hz0
          clear hz0
          have hz1 := fun (w' : World) (hhi : hi ≤ w'.heap.size) (hs6 : Sl lo hi w' 1 x.fIds.length (fun k => ictI (x.fIds.getD k default)) a6) => laws_szIntS (cap := c6) x.fIds ((L - (DInstance.sz x.fAt : Nat)) - (x.fRule.size : Nat)) (by omega) (by omega) HX.out.2.2.2.2.2.1 w' hhi hs6
          rw [szR_le (by omega)] at hz1
          have HZ1 := Lib.hid hz1
          clear hz1
          have hz2 := fun (w' : World) (hhi : hi ≤ w'.heap.size) (hs7 : Sl lo hi w' 1 x.fShape.length (fun k => ictI (x.fShape.getD k default)) a7) => laws_szIntS (cap := c7) x.fShape (((L - (DInstance.sz x.fAt : Nat)) - (x.fRule.size : Nat)) - ((lsz (fun _ => 0)) x.fIds : Nat)) (by omega) (by omega) HX.out.2.2.2.2.2.2.1 w' hhi hs7
          rw [szR_gt (by omega)] at hz2
          have HZ2 := Lib.hid hz2
          clear hz2
          have fin := Lib.hid (szR_gt (n := x.sz) (L := L) (by unfold DEntry.sz; omega))
          go_enter Try.func33, Try.ntmps33
          go_wp2_with fail
          refine (HZ0.out _).mono ?_
          rintro e w1 ⟨rfl, hb1⟩
          have hsz1 : w.heap.size < w1.heap.size := Nat.lt_of_lt_of_le (by first | omega | (simp; done) | (simp; omega)) hb1.size
          have x1_0_5 : w1.cell? ⟨w.heap.size, 5, none⟩ = some (.string x.fRule) := (hb1.cell (p := ⟨w.heap.size, 5, none⟩) (by first | omega | (simp; done) | (simp; omega) | (simp [World.setCell]; omega))).trans (by go_simp)
          have x1_0_6 : w1.cell? ⟨w.heap.size, 6, none⟩ = some (.slice a6 x.fIds.length c6) := (hb1.cell (p := ⟨w.heap.size, 6, none⟩) (by first | omega | (simp; done) | (simp; omega) | (simp [World.setCell]; omega))).trans (by go_simp)
          have x1_0_7 : w1.cell? ⟨w.heap.size, 7, none⟩ = some (.slice a7 x.fShape.length c7) := (hb1.cell (p := ⟨w.heap.size, 7, none⟩) (by first | omega | (simp; done) | (simp; omega) | (simp [World.setCell]; omega))).trans (by go_simp)
          have HB1 := Lib.hid (HB0.out.trans (hb1.mono HB0.out.size))
          clear hb1
          go_wp2_with fail
          refine (HZ1.out _ (Nat.le_trans hhi HB1.out.size) (HS6.out.later HB1.out hhi)).mono ?_
          rintro e w2 ⟨rfl, hb2⟩
          have hsz2 : w.heap.size < w2.heap.size := Nat.lt_of_lt_of_le (by first | omega | (simp; done) | (simp; omega)) hb2.size
          have x2_0_7 : w2.cell? ⟨w.heap.size, 7, none⟩ = some (.slice a7 x.fShape.length c7) := (hb2.cell (p := ⟨w.heap.size, 7, none⟩) (by first | omega | (simp; done) | (simp; omega) | (simp [World.setCell]; omega))).trans (by go_simp)
          have HB2 := Lib.hid (HB1.out.trans (hb2.mono HB1.out.size))
          clear hb2
          go_wp2_with fail
          refine (HZ2.out _ (Nat.le_trans hhi HB2.out.size) (HS7.out.later HB2.out hhi)).mono ?_
          rintro e w3 ⟨rfl, hb3⟩
          have hsz3 : w.heap.size < w3.heap.size := Nat.lt_of_lt_of_le (by first | omega | (simp; done) | (simp; omega)) hb3.size
          have HB3 := Lib.hid (HB2.out.trans (hb3.mono HB2.out.size))
          clear hb3
          go_wp2
          go_ret
          exact ⟨ret_i (by rw [fin.out]), HB3.out⟩
        · skip
          by_cases h4 : ((((L - (DInstance.sz x.fAt : Nat)) - (x.fRule.size : Nat)) - ((lsz (fun _ => 0)) x.fIds : Nat)) - ((lsz (fun _ => 0)) x.fShape : Nat)) < (((lsz DReading.sz) x.fReads : Nat) : Int)
          · skip
            have hz0 := fun (w' : World) => laws_szInstance x.fAt L (by omega) (by omega) HX.out.1 w'
            rw [szR_le (by omega)] at hz0
            have HZ0 := Lib.hid hz0
            clear hz0
            have hz1 := fun (w' : World) (hhi : hi ≤ w'.heap.size) (hs6 : Sl lo hi w' 1 x.fIds.length (fun k => ictI (x.fIds.getD k default)) a6) => laws_szIntS (cap := c6) x.fIds ((L - (DInstance.sz x.fAt : Nat)) - (x.fRule.size : Nat)) (by omega) (by omega) HX.out.2.2.2.2.2.1 w' hhi hs6
            rw [szR_le (by omega)] at hz1
            have HZ1 := Lib.hid hz1
            clear hz1
            have hz2 := fun (w' : World) (hhi : hi ≤ w'.heap.size) (hs7 : Sl lo hi w' 1 x.fShape.length (fun k => ictI (x.fShape.getD k default)) a7) => laws_szIntS (cap := c7) x.fShape (((L - (DInstance.sz x.fAt : Nat)) - (x.fRule.size : Nat)) - ((lsz (fun _ => 0)) x.fIds : Nat)) (by omega) (by omega) HX.out.2.2.2.2.2.2.1 w' hhi hs7
            rw [szR_le (by omega)] at hz2
            have HZ2 := Lib.hid hz2
            clear hz2
            have hz3 := fun (w' : World) (hhi : hi ≤ w'.heap.size) (hs8 : Sl lo hi w' 4 x.fReads.length (fun k => DReading.ct (x.fReads.getD k default)) a8) => laws_szReadingS (cap := c8) x.fReads ((((L - (DInstance.sz x.fAt : Nat)) - (x.fRule.size : Nat)) - ((lsz (fun _ => 0)) x.fIds : Nat)) - ((lsz (fun _ => 0)) x.fShape : Nat)) (by omega) (by omega) HX.out.2.2.2.2.2.2.2 w' hhi hs8
            rw [szR_gt (by omega)] at hz3
            have HZ3 := Lib.hid hz3
            clear hz3
            have fin := Lib.hid (szR_gt (n := x.sz) (L := L) (by unfold DEntry.sz; omega))
            go_enter Try.func33, Try.ntmps33
            go_wp2_with fail
            refine (HZ0.out _).mono ?_
            rintro e w1 ⟨rfl, hb1⟩
            have hsz1 : w.heap.size < w1.heap.size := Nat.lt_of_lt_of_le (by first | omega | (simp; done) | (simp; omega)) hb1.size
            have x1_0_5 : w1.cell? ⟨w.heap.size, 5, none⟩ = some (.string x.fRule) := (hb1.cell (p := ⟨w.heap.size, 5, none⟩) (by first | omega | (simp; done) | (simp; omega) | (simp [World.setCell]; omega))).trans (by go_simp)
            have x1_0_6 : w1.cell? ⟨w.heap.size, 6, none⟩ = some (.slice a6 x.fIds.length c6) := (hb1.cell (p := ⟨w.heap.size, 6, none⟩) (by first | omega | (simp; done) | (simp; omega) | (simp [World.setCell]; omega))).trans (by go_simp)
            have x1_0_7 : w1.cell? ⟨w.heap.size, 7, none⟩ = some (.slice a7 x.fShape.length c7) := (hb1.cell (p := ⟨w.heap.size, 7, none⟩) (by first | omega | (simp; done) | (simp; omega) | (simp [World.setCell]; omega))).trans (by go_simp)
            have x1_0_8 : w1.cell? ⟨w.heap.size, 8, none⟩ = some (.slice a8 x.fReads.length c8) := (hb1.cell (p := ⟨w.heap.size, 8, none⟩) (by first | omega | (simp; done) | (simp; omega) | (simp [World.setCell]; omega))).trans (by go_simp)
            have HB1 := Lib.hid (HB0.out.trans (hb1.mono HB0.out.size))
            clear hb1
            go_wp2_with fail
            refine (HZ1.out _ (Nat.le_trans hhi HB1.out.size) (HS6.out.later HB1.out hhi)).mono ?_
            rintro e w2 ⟨rfl, hb2⟩
            have hsz2 : w.heap.size < w2.heap.size := Nat.lt_of_lt_of_le (by first | omega | (simp; done) | (simp; omega)) hb2.size
            have x2_0_7 : w2.cell? ⟨w.heap.size, 7, none⟩ = some (.slice a7 x.fShape.length c7) := (hb2.cell (p := ⟨w.heap.size, 7, none⟩) (by first | omega | (simp; done) | (simp; omega) | (simp [World.setCell]; omega))).trans (by go_simp)
            have x2_0_8 : w2.cell? ⟨w.heap.size, 8, none⟩ = some (.slice a8 x.fReads.length c8) := (hb2.cell (p := ⟨w.heap.size, 8, none⟩) (by first | omega | (simp; done) | (simp; omega) | (simp [World.setCell]; omega))).trans (by go_simp)
            have HB2 := Lib.hid (HB1.out.trans (hb2.mono HB1.out.size))
            clear hb2
            go_wp2_with fail
            refine (HZ2.out _ (Nat.le_trans hhi HB2.out.size) (HS7.out.later HB2.out hhi)).mono ?_
            rintro e w3 ⟨rfl, hb3⟩
            have hsz3 : w.heap.size < w3.heap.size := Nat.lt_of_lt_of_le (by first | omega | (simp; done) | (simp; omega)) hb3.size
            have x3_0_8 : w3.cell? ⟨w.heap.size, 8, none⟩ = some (.slice a8 x.fReads.length c8) := (hb3.cell (p := ⟨w.heap.size, 8, none⟩) (by first | omega | (simp; done) | (simp; omega) | (simp [World.setCell]; omega))).trans (by go_simp)
            have HB3 := Lib.hid (HB2.out.trans (hb3.mono HB2.out.size))
            clear hb3
            go_wp2_with fail
            refine (HZ3.out _ (Nat.le_trans hhi HB3.out.size) (HS8.out.later HB3.out hhi)).mono ?_
            rintro e w4 ⟨rfl, hb4⟩
            have hsz4 : w.heap.size < w4.heap.size := Nat.lt_of_lt_of_le (by first | omega | (simp; done) | (simp; omega)) hb4.size
            have HB4 := Lib.hid (HB3.out.trans (hb4.mono HB3.out.size))
            clear hb4
            go_wp2
            go_ret
            exact ⟨ret_i (by rw [fin.out]), HB4.out⟩
          · skip
            have hz0 := fun (w' : World) => laws_szInstance x.fAt L (by omega) (by omega) HX.out.1 w'
            rw [szR_le (by omega)] at hz0
            have HZ0 := Lib.hid hz0
            clear hz0
            have hz1 := fun (w' : World) (hhi : hi ≤ w'.heap.size) (hs6 : Sl lo hi w' 1 x.fIds.length (fun k => ictI (x.fIds.getD k default)) a6) => laws_szIntS (cap := c6) x.fIds ((L - (DInstance.sz x.fAt : Nat)) - (x.fRule.size : Nat)) (by omega) (by omega) HX.out.2.2.2.2.2.1 w' hhi hs6
            rw [szR_le (by omega)] at hz1
            have HZ1 := Lib.hid hz1
            clear hz1
            have hz2 := fun (w' : World) (hhi : hi ≤ w'.heap.size) (hs7 : Sl lo hi w' 1 x.fShape.length (fun k => ictI (x.fShape.getD k default)) a7) => laws_szIntS (cap := c7) x.fShape (((L - (DInstance.sz x.fAt : Nat)) - (x.fRule.size : Nat)) - ((lsz (fun _ => 0)) x.fIds : Nat)) (by omega) (by omega) HX.out.2.2.2.2.2.2.1 w' hhi hs7
            rw [szR_le (by omega)] at hz2
            have HZ2 := Lib.hid hz2
            clear hz2
            have hz3 := fun (w' : World) (hhi : hi ≤ w'.heap.size) (hs8 : Sl lo hi w' 4 x.fReads.length (fun k => DReading.ct (x.fReads.getD k default)) a8) => laws_szReadingS (cap := c8) x.fReads ((((L - (DInstance.sz x.fAt : Nat)) - (x.fRule.size : Nat)) - ((lsz (fun _ => 0)) x.fIds : Nat)) - ((lsz (fun _ => 0)) x.fShape : Nat)) (by omega) (by omega) HX.out.2.2.2.2.2.2.2 w' hhi hs8
            rw [szR_le (by omega)] at hz3
            have HZ3 := Lib.hid hz3
            clear hz3
            have fin := Lib.hid (szR_le (n := x.sz) (L := L) (by unfold DEntry.sz; omega))
            go_enter Try.func33, Try.ntmps33
            go_wp2_with fail
            refine (HZ0.out _).mono ?_
            rintro e w1 ⟨rfl, hb1⟩
            have hsz1 : w.heap.size < w1.heap.size := Nat.lt_of_lt_of_le (by first | omega | (simp; done) | (simp; omega)) hb1.size
            have x1_0_5 : w1.cell? ⟨w.heap.size, 5, none⟩ = some (.string x.fRule) := (hb1.cell (p := ⟨w.heap.size, 5, none⟩) (by first | omega | (simp; done) | (simp; omega) | (simp [World.setCell]; omega))).trans (by go_simp)
            have x1_0_6 : w1.cell? ⟨w.heap.size, 6, none⟩ = some (.slice a6 x.fIds.length c6) := (hb1.cell (p := ⟨w.heap.size, 6, none⟩) (by first | omega | (simp; done) | (simp; omega) | (simp [World.setCell]; omega))).trans (by go_simp)
            have x1_0_7 : w1.cell? ⟨w.heap.size, 7, none⟩ = some (.slice a7 x.fShape.length c7) := (hb1.cell (p := ⟨w.heap.size, 7, none⟩) (by first | omega | (simp; done) | (simp; omega) | (simp [World.setCell]; omega))).trans (by go_simp)
            have x1_0_8 : w1.cell? ⟨w.heap.size, 8, none⟩ = some (.slice a8 x.fReads.length c8) := (hb1.cell (p := ⟨w.heap.size, 8, none⟩) (by first | omega | (simp; done) | (simp; omega) | (simp [World.setCell]; omega))).trans (by go_simp)
            have HB1 := Lib.hid (HB0.out.trans (hb1.mono HB0.out.size))
            clear hb1
            go_wp2_with fail
            refine (HZ1.out _ (Nat.le_trans hhi HB1.out.size) (HS6.out.later HB1.out hhi)).mono ?_
            rintro e w2 ⟨rfl, hb2⟩
            have hsz2 : w.heap.size < w2.heap.size := Nat.lt_of_lt_of_le (by first | omega | (simp; done) | (simp; omega)) hb2.size
            have x2_0_7 : w2.cell? ⟨w.heap.size, 7, none⟩ = some (.slice a7 x.fShape.length c7) := (hb2.cell (p := ⟨w.heap.size, 7, none⟩) (by first | omega | (simp; done) | (simp; omega) | (simp [World.setCell]; omega))).trans (by go_simp)
            have x2_0_8 : w2.cell? ⟨w.heap.size, 8, none⟩ = some (.slice a8 x.fReads.length c8) := (hb2.cell (p := ⟨w.heap.size, 8, none⟩) (by first | omega | (simp; done) | (simp; omega) | (simp [World.setCell]; omega))).trans (by go_simp)
            have HB2 := Lib.hid (HB1.out.trans (hb2.mono HB1.out.size))
            clear hb2
            go_wp2_with fail
            refine (HZ2.out _ (Nat.le_trans hhi HB2.out.size) (HS7.out.later HB2.out hhi)).mono ?_
            rintro e w3 ⟨rfl, hb3⟩
            have hsz3 : w.heap.size < w3.heap.size := Nat.lt_of_lt_of_le (by first | omega | (simp; done) | (simp; omega)) hb3.size
            have x3_0_8 : w3.cell? ⟨w.heap.size, 8, none⟩ = some (.slice a8 x.fReads.length c8) := (hb3.cell (p := ⟨w.heap.size, 8, none⟩) (by first | omega | (simp; done) | (simp; omega) | (simp [World.setCell]; omega))).trans (by go_simp)
            have HB3 := Lib.hid (HB2.out.trans (hb3.mono HB2.out.size))
            clear hb3
            go_wp2_with fail
            refine (HZ3.out _ (Nat.le_trans hhi HB3.out.size) (HS8.out.later HB3.out hhi)).mono ?_
            rintro e w4 ⟨rfl, hb4⟩
            have hsz4 : w.heap.size < w4.heap.size := Nat.lt_of_lt_of_le (by first | omega | (simp; done) | (simp; omega)) hb4.size
            have HB4 := Lib.hid (HB3.out.trans (hb4.mono HB3.out.size))
            clear hb4
            go_wp2
            go_ret
            exact ⟨ret_i (by rw [fin.out]; unfold DEntry.sz; omega), HB4.out⟩

set_option maxHeartbeats 1600000 in
set_option maxRecDepth 100000 in
theorem laws_szEntryS {lo hi : Nat} {a : Option Addr} {cap : Nat} (l : List DEntry) (L : Int) (hL0 : 0 ≤ L) (hL1 : L ≤ 1048576) (hok : okL DEntry.ok l) (w : World) (hhi : hi ≤ w.heap.size) (hs : Sl lo hi w 9 l.length (fun k => DEntry.ct (l.getD k default)) a) :
    Calls Try.prog 15 #[.slice a l.length cap, .int .i64 L] w fun e w' => e = .returned (.int .i64 (szR L (lsz DEntry.sz l))) ∧ Below w.heap.size w w' := by
  have HS := Lib.hid hs
  have HK := Lib.hid hok
  have hn : l.length ≤ 9223372036854775807 := hok.1
  clear hs hok
  by_cases hlong : L < ((l.length : Nat) : Int)
  · have fin := Lib.hid (szR_gt (n := lsz DEntry.sz l) (L := L) (by unfold lsz; omega))
    go_enter Try.func15, Try.ntmps15
    go_wp2
    go_ret
    exact ⟨ret_i fin.out.symm, Below.refl _ _⟩
  · go_enter Try.func15, Try.ntmps15
    go_wp2
    go_loopw [1, 5] (fun q i wr => ∃ k : Nat, k ≤ l.length ∧ i = .int .i64 (k : Int) ∧ q = .int .i64 (L - l.length - psz DEntry.sz l k) ∧ (l.length : Int) + psz DEntry.sz l k ≤ L ∧ Below w.heap.size w wr) (fun _ i _ => l.length - (intOf i).toNat)
    case atStart => exact ⟨0, Nat.zero_le _, rfl, by rw [psz_zero]; go_num, by rw [psz_zero]; omega, Below.refl _ _⟩
    case round =>
      obtain ⟨k, hk, rfl, rfl, hle, hb⟩ := hrel
      have HB := Lib.hid hb
      by_cases hlt : k < l.length
      · have hsu := Lib.hid (psz_succ DEntry.sz l k hlt)
        have hle2 := Lib.hid (psz_le DEntry.sz l (k + 1))
        have hokk := HK.out.at hlt
        have hhr : hi ≤ wr.heap.size := Nat.le_trans hhi hb.size
        obtain ⟨b, off, rfl, hlo, hhi', hc⟩ := (HS.out.later (hb.mono hhi) (Nat.le_refl _)).at k hlt
        clear hb
        obtain ⟨a6, c6, a7, c7, a8, c8, hc0_, hc1_, hc2_, hc3_, hc4_, hc5_, hc6_, hc7_, hc8_, hs6, hs7, hs8⟩ := DEntry.open hc
        clear hc
        generalize l.getD k default = x at *
        generalize psz DEntry.sz l k = S at *
        have hZ := laws_szEntry (c6 := c6) (c7 := c7) (c8 := c8) x (L - l.length - S) (by omega) (by omega) hokk wr hhr hs6 hs7 hs8
        by_cases hf : ((x.sz : Nat) : Int) ≤ L - l.length - S
        · rw [szR_le hf] at hZ
          have HZ := Lib.hid hZ
          clear hZ hokk hs6 hs7 hs8
          go_wp2_with fail
          refine HZ.out.mono ?_
          rintro e w1 ⟨rfl, hb1⟩
          have HB1 := Lib.hid hb1
          clear hb1
          go_wp2
          go_roundw
          case rel => exact ⟨k + 1, by omega, by go_num, by rw [hsu.out]; go_num, by rw [hsu.out]; omega, HB.out.trans (HB1.out.mono HB.out.size)⟩
          case measure => simp [intOf]; omega
        · have fin := Lib.hid (szR_gt (n := lsz DEntry.sz l) (L := L) (by have h1 := hsu.out; have h2 := hle2.out; omega))
          rw [szR_gt (by omega)] at hZ
          have HZ := Lib.hid hZ
          clear hZ hokk hs6 hs7 hs8
          go_wp2_with fail
          refine HZ.out.mono ?_
          rintro e w1 ⟨rfl, hb1⟩
          have HB1 := Lib.hid hb1
          clear hb1
          go_wp2
          go_ret
          exact ⟨ret_i fin.out.symm, HB.out.trans (HB1.out.mono HB.out.size)⟩
      · obtain rfl : k = l.length := by omega
        have fin := Lib.hid (szR_le (n := lsz DEntry.sz l) (L := L) (by unfold lsz; rw [psz_all] at hle; omega))
        have fin2 := Lib.hid (psz_all DEntry.sz l)
        go_wp2
        go_ret
        exact ⟨ret_i (by rw [fin.out, fin2.out]; unfold lsz; omega), HB.out⟩

set_option maxHeartbeats 6400000 in
set_option maxRecDepth 100000 in
theorem laws_toEntry {lo hi : Nat} {a6 : Option Addr} {c6 : Nat} {a7 : Option Addr} {c7 : Nat} {a8 : Option Addr} {c8 : Nat} (x : DEntry) (hsz : x.sz ≤ 1048576) (w : World) (hhi : hi ≤ w.heap.size) (hs6 : Sl lo hi w 1 x.fIds.length (fun k => ictI (x.fIds.getD k default)) a6) (hs7 : Sl lo hi w 1 x.fShape.length (fun k => ictI (x.fShape.getD k default)) a7) (hs8 : Sl lo hi w 4 x.fReads.length (fun k => DReading.ct (x.fReads.getD k default)) a8) :
    Calls Try.prog 34 #[.agg #[.int .i64 x.fAt.fNode, .string x.fAt.fName, .int .i64 x.fValue, .int .i64 x.fOwner, .int .i64 x.fLiteral, .string x.fRule, .slice a6 x.fIds.length c6, .slice a7 x.fShape.length c7, .slice a8 x.fReads.length c8]] w fun e w' => ∃ a6r c6r a7r c7r a8r c8r, e = .returned (.agg #[.int .i64 x.fAt.fNode, .string x.fAt.fName, .int .i64 x.fValue, .int .i64 x.fOwner, .int .i64 x.fLiteral, .string x.fRule, .slice a6r x.fIds.length c6r, .slice a7r x.fShape.length c7r, .slice a8r x.fReads.length c8r]) ∧ OwnR w' (fun y => w.heap.size ≤ y ∧ y < w'.heap.size) 9 x.ct (fun j => [.int .i64 x.fAt.fNode, .string x.fAt.fName, .int .i64 x.fValue, .int .i64 x.fOwner, .int .i64 x.fLiteral, .string x.fRule, .slice a6r x.fIds.length c6r, .slice a7r x.fShape.length c7r, .slice a8r x.fReads.length c8r].getD j .nilFunc) ∧ Below w.heap.size w w' := by
  have HS6 := Lib.hid hs6
  have HS7 := Lib.hid hs7
  have HS8 := Lib.hid hs8
  clear hs6 hs7 hs8
  have HW := Lib.hid hsz
  clear hsz
  have HB0 := Lib.hid (((((Below.refl w.heap.size w).alloc (Nat.le_refl _) (.cells #[.int .i64 x.fAt.fNode, .string x.fAt.fName, .int .i64 x.fValue, .int .i64 x.fOwner, .int .i64 x.fLiteral, .string x.fRule, .slice a6 x.fIds.length c6, .slice a7 x.fShape.length c7, .slice a8 x.fReads.length c8] 65)).alloc (by simp <;> omega) (.cells #[.int .i64 0, .string ⟨#[]⟩, .int .i64 0, .int .i64 0, .int .i64 0, .string ⟨#[]⟩, .slice none 0 0, .slice none 0 0, .slice none 0 0] 34))).alloc (by simp <;> omega) (.cells #[.int .i64 0, .string ⟨#[]⟩, .int .i64 0, .int .i64 0, .int .i64 0, .string ⟨#[]⟩, .slice none 0 0, .slice none 0 0, .slice none 0 0] 34))
  have HSZ0 := Lib.hid (show w.heap.size + 2 < (((w.alloc (.cells #[.int .i64 x.fAt.fNode, .string x.fAt.fName, .int .i64 x.fValue, .int .i64 x.fOwner, .int .i64 x.fLiteral, .string x.fRule, .slice a6 x.fIds.length c6, .slice a7 x.fShape.length c7, .slice a8 x.fReads.length c8] 65)).alloc (.cells #[.int .i64 0, .string ⟨#[]⟩, .int .i64 0, .int .i64 0, .int .i64 0, .string ⟨#[]⟩, .slice none 0 0, .slice none 0 0, .slice none 0 0] 34)).alloc (.cells #[.int .i64 0, .string ⟨#[]⟩, .int .i64 0, .int .i64 0, .int .i64 0, .string ⟨#[]⟩, .slice none 0 0, .slice none 0 0, .slice none 0 0] 34)).heap.size by simp)
  have ht0 := fun (w' : World) => laws_toInstance x.fAt w'
  have HT0 := Lib.hid ht0
  clear ht0
  have ht1 := fun (w' : World) (hhi : hi ≤ w'.heap.size) (hs : Sl lo hi w' 1 x.fIds.length (fun k => ictI (x.fIds.getD k default)) a6) => laws_toIntS (cap := c6) x.fIds (by have h := HW.out; unfold DEntry.sz at h; omega) w' hhi hs
  have HT1 := Lib.hid ht1
  clear ht1
  have ht2 := fun (w' : World) (hhi : hi ≤ w'.heap.size) (hs : Sl lo hi w' 1 x.fShape.length (fun k => ictI (x.fShape.getD k default)) a7) => laws_toIntS (cap := c7) x.fShape (by have h := HW.out; unfold DEntry.sz at h; omega) w' hhi hs
  have HT2 := Lib.hid ht2
  clear ht2
  have ht3 := fun (w' : World) (hhi : hi ≤ w'.heap.size) (hs : Sl lo hi w' 4 x.fReads.length (fun k => DReading.ct (x.fReads.getD k default)) a8) => laws_toReadingS (cap := c8) x.fReads (by have h := HW.out; unfold DEntry.sz at h; omega) w' hhi hs
  have HT3 := Lib.hid ht3
  clear ht3
  go_enter Try.func34, Try.ntmps34
  go_wp2_with fail
  refine (HT0.out _).mono ?_
  rintro e w1 ⟨rfl, hb1⟩
  have hsz1 : w.heap.size + 2 < w1.heap.size := Nat.lt_of_lt_of_le (by have h := HSZ0.out; first | (with_reducible exact h) | (simp; done) | (simp; omega) | (simp [World.setCell]; omega)) hb1.size
  have hlo1 : w.heap.size + 3 ≤ w1.heap.size := Nat.le_trans (by first | (with_reducible exact Nat.le_refl _) | (simp; done) | (simp; omega) | (simp [World.setCell]; omega)) hb1.size
  have hbw1 : Below w.heap.size w w1 := Below.trans ((by repeat (first | (with_reducible exact HB0.out) | (with_reducible exact Below.refl _ _) | (refine Below.setCell ?_ (by simp <;> omega) _) | (refine Below.alloc ?_ (by simp <;> omega) _)) : Below w.heap.size w _)) (hb1.mono (Below.size ((by repeat (first | (with_reducible exact HB0.out) | (with_reducible exact Below.refl _ _) | (refine Below.setCell ?_ (by simp <;> omega) _) | (refine Below.alloc ?_ (by simp <;> omega) _)) : Below w.heap.size w _))))
  have HP1 := Lib.hid (show w1.heap[w.heap.size]? = some (.cells #[.int .i64 x.fAt.fNode, .string x.fAt.fName, .int .i64 x.fValue, .int .i64 x.fOwner, .int .i64 x.fLiteral, .string x.fRule, .slice a6 x.fIds.length c6, .slice a7 x.fShape.length c7, .slice a8 x.fReads.length c8] 65) from (hb1.block _ (by have h9 := HSZ0.out; first | (simp; done) | (simp; omega) | (simp at h9 ⊢; omega))).trans (by (repeat (refine blk_other (by simp <;> omega) ?_)); exact blk_alloc (by simp <;> omega) (blk_alloc (by simp) (blk_new (by simp)))))
  have HG1 := Lib.hid (show w1.heap[w.heap.size + 1]? = some (.cells #[.int .i64 0, .string ⟨#[]⟩, .int .i64 0, .int .i64 0, .int .i64 0, .string ⟨#[]⟩, .slice none 0 0, .slice none 0 0, .slice none 0 0] 34) from (hb1.block _ (by have h9 := HSZ0.out; first | (simp; done) | (simp; omega) | (simp at h9 ⊢; omega))).trans (by (repeat (refine blk_other (by simp <;> omega) ?_)); exact blk_alloc (by simp) (blk_new (by simp))))
  have HK1 := Lib.hid (show w1.heap[w.heap.size + 2]? = some (.cells #[.int .i64 0, .string ⟨#[]⟩, .int .i64 0, .int .i64 0, .int .i64 0, .string ⟨#[]⟩, .slice none 0 0, .slice none 0 0, .slice none 0 0] 34) from (hb1.block _ (by have h9 := HSZ0.out; first | (simp; done) | (simp; omega) | (simp at h9 ⊢; omega))).trans (by exact blk_new (by simp)))
  have x1_0_2 : w1.cell? ⟨w.heap.size, 2, none⟩ = some (.int .i64 x.fValue) := (cell_of_row _ _ _ _ _ _ HP1.out).trans rfl
  have x1_0_3 : w1.cell? ⟨w.heap.size, 3, none⟩ = some (.int .i64 x.fOwner) := (cell_of_row _ _ _ _ _ _ HP1.out).trans rfl
  have x1_0_4 : w1.cell? ⟨w.heap.size, 4, none⟩ = some (.int .i64 x.fLiteral) := (cell_of_row _ _ _ _ _ _ HP1.out).trans rfl
  have x1_0_5 : w1.cell? ⟨w.heap.size, 5, none⟩ = some (.string x.fRule) := (cell_of_row _ _ _ _ _ _ HP1.out).trans rfl
  have x1_0_6 : w1.cell? ⟨w.heap.size, 6, none⟩ = some (.slice a6 x.fIds.length c6) := (cell_of_row _ _ _ _ _ _ HP1.out).trans rfl
  have x1_0_7 : w1.cell? ⟨w.heap.size, 7, none⟩ = some (.slice a7 x.fShape.length c7) := (cell_of_row _ _ _ _ _ _ HP1.out).trans rfl
  have x1_0_8 : w1.cell? ⟨w.heap.size, 8, none⟩ = some (.slice a8 x.fReads.length c8) := (cell_of_row _ _ _ _ _ _ HP1.out).trans rfl
  have x1_2_0 : w1.cell? ⟨w.heap.size + 2, 0, none⟩ = some (.int .i64 0) := (cell_of_row _ _ _ _ _ _ HK1.out).trans rfl
  have z1_2_0 : w1.frozen? ⟨w.heap.size + 2, 0, none⟩ = false := frozen_of_row _ _ _ _ _ HK1.out
  have x1_2_1 : w1.cell? ⟨w.heap.size + 2, 1, none⟩ = some (.string ⟨#[]⟩) := (cell_of_row _ _ _ _ _ _ HK1.out).trans rfl
  have z1_2_1 : w1.frozen? ⟨w.heap.size + 2, 1, none⟩ = false := frozen_of_row _ _ _ _ _ HK1.out
  have x1_2_2 : w1.cell? ⟨w.heap.size + 2, 2, none⟩ = some (.int .i64 0) := (cell_of_row _ _ _ _ _ _ HK1.out).trans rfl
  have z1_2_2 : w1.frozen? ⟨w.heap.size + 2, 2, none⟩ = false := frozen_of_row _ _ _ _ _ HK1.out
  have x1_2_3 : w1.cell? ⟨w.heap.size + 2, 3, none⟩ = some (.int .i64 0) := (cell_of_row _ _ _ _ _ _ HK1.out).trans rfl
  have z1_2_3 : w1.frozen? ⟨w.heap.size + 2, 3, none⟩ = false := frozen_of_row _ _ _ _ _ HK1.out
  have x1_2_4 : w1.cell? ⟨w.heap.size + 2, 4, none⟩ = some (.int .i64 0) := (cell_of_row _ _ _ _ _ _ HK1.out).trans rfl
  have z1_2_4 : w1.frozen? ⟨w.heap.size + 2, 4, none⟩ = false := frozen_of_row _ _ _ _ _ HK1.out
  have x1_2_5 : w1.cell? ⟨w.heap.size + 2, 5, none⟩ = some (.string ⟨#[]⟩) := (cell_of_row _ _ _ _ _ _ HK1.out).trans rfl
  have z1_2_5 : w1.frozen? ⟨w.heap.size + 2, 5, none⟩ = false := frozen_of_row _ _ _ _ _ HK1.out
  have x1_2_6 : w1.cell? ⟨w.heap.size + 2, 6, none⟩ = some (.slice none 0 0) := (cell_of_row _ _ _ _ _ _ HK1.out).trans rfl
  have z1_2_6 : w1.frozen? ⟨w.heap.size + 2, 6, none⟩ = false := frozen_of_row _ _ _ _ _ HK1.out
  have x1_2_7 : w1.cell? ⟨w.heap.size + 2, 7, none⟩ = some (.slice none 0 0) := (cell_of_row _ _ _ _ _ _ HK1.out).trans rfl
  have z1_2_7 : w1.frozen? ⟨w.heap.size + 2, 7, none⟩ = false := frozen_of_row _ _ _ _ _ HK1.out
  have x1_2_8 : w1.cell? ⟨w.heap.size + 2, 8, none⟩ = some (.slice none 0 0) := (cell_of_row _ _ _ _ _ _ HK1.out).trans rfl
  have z1_2_8 : w1.frozen? ⟨w.heap.size + 2, 8, none⟩ = false := frozen_of_row _ _ _ _ _ HK1.out
  have HB1 := Lib.hid hbw1
  have HSZ1 := Lib.hid hsz1
  have HLO1 := Lib.hid hlo1
  clear hb1 hbw1 hsz1 hlo1
  go_wp2_with fail
  refine (HT1.out _ (Nat.le_trans hhi (Below.size ((by repeat (first | (with_reducible exact HB1.out) | (with_reducible exact Below.refl _ _) | (refine Below.setCell ?_ (by simp <;> omega) _) | (refine Below.alloc ?_ (by simp <;> omega) _)) : Below w.heap.size w _)))) (HS6.out.later ((by repeat (first | (with_reducible exact HB1.out) | (with_reducible exact Below.refl _ _) | (refine Below.setCell ?_ (by simp <;> omega) _) | (refine Below.alloc ?_ (by simp <;> omega) _)) : Below w.heap.size w _)) hhi)).mono ?_
  rintro e w2 ⟨a6r, c6r, rfl, ho2, hb2⟩
  have hsz2 : w.heap.size + 2 < w2.heap.size := Nat.lt_of_lt_of_le (by have h := HSZ1.out; first | (with_reducible exact h) | (simp; done) | (simp; omega) | (simp [World.setCell]; omega)) hb2.size
  have hlo2 : w1.heap.size ≤ w2.heap.size := Nat.le_trans (by first | (with_reducible exact Nat.le_refl _) | (simp; done) | (simp; omega) | (simp [World.setCell]; omega)) hb2.size
  have hbw2 : Below w.heap.size w w2 := Below.trans ((by repeat (first | (with_reducible exact HB1.out) | (with_reducible exact Below.refl _ _) | (refine Below.setCell ?_ (by simp <;> omega) _) | (refine Below.alloc ?_ (by simp <;> omega) _)) : Below w.heap.size w _)) (hb2.mono (Below.size ((by repeat (first | (with_reducible exact HB1.out) | (with_reducible exact Below.refl _ _) | (refine Below.setCell ?_ (by simp <;> omega) _) | (refine Below.alloc ?_ (by simp <;> omega) _)) : Below w.heap.size w _))))
  have HO2_2 := Lib.hid (ho2.sub (F' := fun y => w1.heap.size ≤ y ∧ y < w2.heap.size) (fun y hy => ⟨Nat.le_trans (by first | (with_reducible exact Nat.le_refl _) | (simp; done) | (simp; omega) | (simp [World.setCell]; done) | (simp [World.setCell]; omega)) hy.1, hy.2⟩))
  clear ho2
  have HP2 := Lib.hid (show w2.heap[w.heap.size]? = some (.cells #[.int .i64 x.fAt.fNode, .string x.fAt.fName, .int .i64 x.fValue, .int .i64 x.fOwner, .int .i64 x.fLiteral, .string x.fRule, .slice a6 x.fIds.length c6, .slice a7 x.fShape.length c7, .slice a8 x.fReads.length c8] 65) from (hb2.block _ (by have h9 := HSZ1.out; first | (simp; done) | (simp; omega) | (simp at h9 ⊢; omega))).trans (by repeat (first | (with_reducible exact HP1.out) | (refine blk_other (by simp <;> omega) ?_))))
  have HG2 := Lib.hid (show w2.heap[w.heap.size + 1]? = some (.cells #[.int .i64 0, .string ⟨#[]⟩, .int .i64 0, .int .i64 0, .int .i64 0, .string ⟨#[]⟩, .slice none 0 0, .slice none 0 0, .slice none 0 0] 34) from (hb2.block _ (by have h9 := HSZ1.out; first | (simp; done) | (simp; omega) | (simp at h9 ⊢; omega))).trans (by repeat (first | (with_reducible exact HG1.out) | (refine blk_other (by simp <;> omega) ?_))))
  have HK2 := Lib.hid (show w2.heap[w.heap.size + 2]? = some (.cells #[.int .i64 x.fAt.fNode, .string x.fAt.fName, .int .i64 x.fValue, .int .i64 x.fOwner, .int .i64 x.fLiteral, .string x.fRule, .slice none 0 0, .slice none 0 0, .slice none 0 0] 34) from (hb2.block _ (by have h9 := HSZ1.out; first | (simp; done) | (simp; omega) | (simp at h9 ⊢; omega))).trans (by refine Eq.trans (blk_set (cs := #[.int .i64 x.fAt.fNode, .string x.fAt.fName, .int .i64 x.fValue, .int .i64 x.fOwner, .int .i64 x.fLiteral, .string ⟨#[]⟩, .slice none 0 0, .slice none 0 0, .slice none 0 0]) (t := 34) (fr := (0, 0)) ?_) rfl; refine Eq.trans (blk_set (cs := #[.int .i64 x.fAt.fNode, .string x.fAt.fName, .int .i64 x.fValue, .int .i64 x.fOwner, .int .i64 0, .string ⟨#[]⟩, .slice none 0 0, .slice none 0 0, .slice none 0 0]) (t := 34) (fr := (0, 0)) ?_) rfl; refine Eq.trans (blk_set (cs := #[.int .i64 x.fAt.fNode, .string x.fAt.fName, .int .i64 x.fValue, .int .i64 0, .int .i64 0, .string ⟨#[]⟩, .slice none 0 0, .slice none 0 0, .slice none 0 0]) (t := 34) (fr := (0, 0)) ?_) rfl; refine Eq.trans (blk_set (cs := #[.int .i64 x.fAt.fNode, .string x.fAt.fName, .int .i64 0, .int .i64 0, .int .i64 0, .string ⟨#[]⟩, .slice none 0 0, .slice none 0 0, .slice none 0 0]) (t := 34) (fr := (0, 0)) ?_) rfl; refine Eq.trans (blk_set (cs := #[.int .i64 x.fAt.fNode, .string ⟨#[]⟩, .int .i64 0, .int .i64 0, .int .i64 0, .string ⟨#[]⟩, .slice none 0 0, .slice none 0 0, .slice none 0 0]) (t := 34) (fr := (0, 0)) ?_) rfl; refine Eq.trans (blk_set (cs := #[.int .i64 0, .string ⟨#[]⟩, .int .i64 0, .int .i64 0, .int .i64 0, .string ⟨#[]⟩, .slice none 0 0, .slice none 0 0, .slice none 0 0]) (t := 34) (fr := (0, 0)) ?_) rfl; exact HK1.out))
  clear HP1 HG1 HK1
  have x2_0_7 : w2.cell? ⟨w.heap.size, 7, none⟩ = some (.slice a7 x.fShape.length c7) := (cell_of_row _ _ _ _ _ _ HP2.out).trans rfl
  have x2_0_8 : w2.cell? ⟨w.heap.size, 8, none⟩ = some (.slice a8 x.fReads.length c8) := (cell_of_row _ _ _ _ _ _ HP2.out).trans rfl
  have x2_2_0 : w2.cell? ⟨w.heap.size + 2, 0, none⟩ = some (.int .i64 x.fAt.fNode) := (cell_of_row _ _ _ _ _ _ HK2.out).trans rfl
  have z2_2_0 : w2.frozen? ⟨w.heap.size + 2, 0, none⟩ = false := frozen_of_row _ _ _ _ _ HK2.out
  have x2_2_1 : w2.cell? ⟨w.heap.size + 2, 1, none⟩ = some (.string x.fAt.fName) := (cell_of_row _ _ _ _ _ _ HK2.out).trans rfl
  have z2_2_1 : w2.frozen? ⟨w.heap.size + 2, 1, none⟩ = false := frozen_of_row _ _ _ _ _ HK2.out
  have x2_2_2 : w2.cell? ⟨w.heap.size + 2, 2, none⟩ = some (.int .i64 x.fValue) := (cell_of_row _ _ _ _ _ _ HK2.out).trans rfl
  have z2_2_2 : w2.frozen? ⟨w.heap.size + 2, 2, none⟩ = false := frozen_of_row _ _ _ _ _ HK2.out
  have x2_2_3 : w2.cell? ⟨w.heap.size + 2, 3, none⟩ = some (.int .i64 x.fOwner) := (cell_of_row _ _ _ _ _ _ HK2.out).trans rfl
  have z2_2_3 : w2.frozen? ⟨w.heap.size + 2, 3, none⟩ = false := frozen_of_row _ _ _ _ _ HK2.out
  have x2_2_4 : w2.cell? ⟨w.heap.size + 2, 4, none⟩ = some (.int .i64 x.fLiteral) := (cell_of_row _ _ _ _ _ _ HK2.out).trans rfl
  have z2_2_4 : w2.frozen? ⟨w.heap.size + 2, 4, none⟩ = false := frozen_of_row _ _ _ _ _ HK2.out
  have x2_2_5 : w2.cell? ⟨w.heap.size + 2, 5, none⟩ = some (.string x.fRule) := (cell_of_row _ _ _ _ _ _ HK2.out).trans rfl
  have z2_2_5 : w2.frozen? ⟨w.heap.size + 2, 5, none⟩ = false := frozen_of_row _ _ _ _ _ HK2.out
  have x2_2_6 : w2.cell? ⟨w.heap.size + 2, 6, none⟩ = some (.slice none 0 0) := (cell_of_row _ _ _ _ _ _ HK2.out).trans rfl
  have z2_2_6 : w2.frozen? ⟨w.heap.size + 2, 6, none⟩ = false := frozen_of_row _ _ _ _ _ HK2.out
  have x2_2_7 : w2.cell? ⟨w.heap.size + 2, 7, none⟩ = some (.slice none 0 0) := (cell_of_row _ _ _ _ _ _ HK2.out).trans rfl
  have z2_2_7 : w2.frozen? ⟨w.heap.size + 2, 7, none⟩ = false := frozen_of_row _ _ _ _ _ HK2.out
  have x2_2_8 : w2.cell? ⟨w.heap.size + 2, 8, none⟩ = some (.slice none 0 0) := (cell_of_row _ _ _ _ _ _ HK2.out).trans rfl
  have z2_2_8 : w2.frozen? ⟨w.heap.size + 2, 8, none⟩ = false := frozen_of_row _ _ _ _ _ HK2.out
  have HB2 := Lib.hid hbw2
  have HSZ2 := Lib.hid hsz2
  have HLO2 := Lib.hid hlo2
  clear hb2 hbw2 hsz2 hlo2
  clear x1_0_2 x1_0_3 x1_0_4 x1_0_5 x1_0_6 x1_0_7 x1_0_8 x1_2_0 x1_2_1 x1_2_2 x1_2_3 x1_2_4 x1_2_5 x1_2_6 x1_2_7 x1_2_8 z1_2_0 z1_2_1 z1_2_2 z1_2_3 z1_2_4 z1_2_5 z1_2_6 z1_2_7 z1_2_8
  go_wp2_with fail
  refine (HT2.out _ (Nat.le_trans hhi (Below.size ((by repeat (first | (with_reducible exact HB2.out) | (with_reducible exact Below.refl _ _) | (refine Below.setCell ?_ (by simp <;> omega) _) | (refine Below.alloc ?_ (by simp <;> omega) _)) : Below w.heap.size w _)))) (HS7.out.later ((by repeat (first | (with_reducible exact HB2.out) | (with_reducible exact Below.refl _ _) | (refine Below.setCell ?_ (by simp <;> omega) _) | (refine Below.alloc ?_ (by simp <;> omega) _)) : Below w.heap.size w _)) hhi)).mono ?_
  rintro e w3 ⟨a7r, c7r, rfl, ho3, hb3⟩
  have hsz3 : w.heap.size + 2 < w3.heap.size := Nat.lt_of_lt_of_le (by have h := HSZ2.out; first | (with_reducible exact h) | (simp; done) | (simp; omega) | (simp [World.setCell]; omega)) hb3.size
  have hlo3 : w2.heap.size ≤ w3.heap.size := Nat.le_trans (by first | (with_reducible exact Nat.le_refl _) | (simp; done) | (simp; omega) | (simp [World.setCell]; omega)) hb3.size
  have hbw3 : Below w.heap.size w w3 := Below.trans ((by repeat (first | (with_reducible exact HB2.out) | (with_reducible exact Below.refl _ _) | (refine Below.setCell ?_ (by simp <;> omega) _) | (refine Below.alloc ?_ (by simp <;> omega) _)) : Below w.heap.size w _)) (hb3.mono (Below.size ((by repeat (first | (with_reducible exact HB2.out) | (with_reducible exact Below.refl _ _) | (refine Below.setCell ?_ (by simp <;> omega) _) | (refine Below.alloc ?_ (by simp <;> omega) _)) : Below w.heap.size w _))))
  have HO2_3 := Lib.hid (HO2_2.out.kept (Kept.trans (by repeat (first | (with_reducible exact Kept.refl) | (refine Kept.put ?_ (by rintro ⟨h1, h2⟩; dsimp only at h1; have h3 := HSZ1.out; omega)))) (Kept.of_below_all hb3)))
  clear HO2_2
  have HO3_3 := Lib.hid (ho3.sub (F' := fun y => w2.heap.size ≤ y ∧ y < w3.heap.size) (fun y hy => ⟨Nat.le_trans (by first | (with_reducible exact Nat.le_refl _) | (simp; done) | (simp; omega) | (simp [World.setCell]; done) | (simp [World.setCell]; omega)) hy.1, hy.2⟩))
  clear ho3
  have HP3 := Lib.hid (show w3.heap[w.heap.size]? = some (.cells #[.int .i64 x.fAt.fNode, .string x.fAt.fName, .int .i64 x.fValue, .int .i64 x.fOwner, .int .i64 x.fLiteral, .string x.fRule, .slice a6 x.fIds.length c6, .slice a7 x.fShape.length c7, .slice a8 x.fReads.length c8] 65) from (hb3.block _ (by have h9 := HSZ2.out; first | (simp; done) | (simp; omega) | (simp at h9 ⊢; omega))).trans (by repeat (first | (with_reducible exact HP2.out) | (refine blk_other (by simp <;> omega) ?_))))
  have HG3 := Lib.hid (show w3.heap[w.heap.size + 1]? = some (.cells #[.int .i64 0, .string ⟨#[]⟩, .int .i64 0, .int .i64 0, .int .i64 0, .string ⟨#[]⟩, .slice none 0 0, .slice none 0 0, .slice none 0 0] 34) from (hb3.block _ (by have h9 := HSZ2.out; first | (simp; done) | (simp; omega) | (simp at h9 ⊢; omega))).trans (by repeat (first | (with_reducible exact HG2.out) | (refine blk_other (by simp <;> omega) ?_))))
  have HK3 := Lib.hid (show w3.heap[w.heap.size + 2]? = some (.cells #[.int .i64 x.fAt.fNode, .string x.fAt.fName, .int .i64 x.fValue, .int .i64 x.fOwner, .int .i64 x.fLiteral, .string x.fRule, .slice a6r x.fIds.length c6r, .slice none 0 0, .slice none 0 0] 34) from (hb3.block _ (by have h9 := HSZ2.out; first | (simp; done) | (simp; omega) | (simp at h9 ⊢; omega))).trans (by refine Eq.trans (blk_set (cs := #[.int .i64 x.fAt.fNode, .string x.fAt.fName, .int .i64 x.fValue, .int .i64 x.fOwner, .int .i64 x.fLiteral, .string x.fRule, .slice none 0 0, .slice none 0 0, .slice none 0 0]) (t := 34) (fr := (0, 0)) ?_) rfl; exact HK2.out))
  clear HP2 HG2 HK2
  have x3_0_8 : w3.cell? ⟨w.heap.size, 8, none⟩ = some (.slice a8 x.fReads.length c8) := (cell_of_row _ _ _ _ _ _ HP3.out).trans rfl
  have x3_2_0 : w3.cell? ⟨w.heap.size + 2, 0, none⟩ = some (.int .i64 x.fAt.fNode) := (cell_of_row _ _ _ _ _ _ HK3.out).trans rfl
  have z3_2_0 : w3.frozen? ⟨w.heap.size + 2, 0, none⟩ = false := frozen_of_row _ _ _ _ _ HK3.out
  have x3_2_1 : w3.cell? ⟨w.heap.size + 2, 1, none⟩ = some (.string x.fAt.fName) := (cell_of_row _ _ _ _ _ _ HK3.out).trans rfl
  have z3_2_1 : w3.frozen? ⟨w.heap.size + 2, 1, none⟩ = false := frozen_of_row _ _ _ _ _ HK3.out
  have x3_2_2 : w3.cell? ⟨w.heap.size + 2, 2, none⟩ = some (.int .i64 x.fValue) := (cell_of_row _ _ _ _ _ _ HK3.out).trans rfl
  have z3_2_2 : w3.frozen? ⟨w.heap.size + 2, 2, none⟩ = false := frozen_of_row _ _ _ _ _ HK3.out
  have x3_2_3 : w3.cell? ⟨w.heap.size + 2, 3, none⟩ = some (.int .i64 x.fOwner) := (cell_of_row _ _ _ _ _ _ HK3.out).trans rfl
  have z3_2_3 : w3.frozen? ⟨w.heap.size + 2, 3, none⟩ = false := frozen_of_row _ _ _ _ _ HK3.out
  have x3_2_4 : w3.cell? ⟨w.heap.size + 2, 4, none⟩ = some (.int .i64 x.fLiteral) := (cell_of_row _ _ _ _ _ _ HK3.out).trans rfl
  have z3_2_4 : w3.frozen? ⟨w.heap.size + 2, 4, none⟩ = false := frozen_of_row _ _ _ _ _ HK3.out
  have x3_2_5 : w3.cell? ⟨w.heap.size + 2, 5, none⟩ = some (.string x.fRule) := (cell_of_row _ _ _ _ _ _ HK3.out).trans rfl
  have z3_2_5 : w3.frozen? ⟨w.heap.size + 2, 5, none⟩ = false := frozen_of_row _ _ _ _ _ HK3.out
  have x3_2_6 : w3.cell? ⟨w.heap.size + 2, 6, none⟩ = some (.slice a6r x.fIds.length c6r) := (cell_of_row _ _ _ _ _ _ HK3.out).trans rfl
  have z3_2_6 : w3.frozen? ⟨w.heap.size + 2, 6, none⟩ = false := frozen_of_row _ _ _ _ _ HK3.out
  have x3_2_7 : w3.cell? ⟨w.heap.size + 2, 7, none⟩ = some (.slice none 0 0) := (cell_of_row _ _ _ _ _ _ HK3.out).trans rfl
  have z3_2_7 : w3.frozen? ⟨w.heap.size + 2, 7, none⟩ = false := frozen_of_row _ _ _ _ _ HK3.out
  have x3_2_8 : w3.cell? ⟨w.heap.size + 2, 8, none⟩ = some (.slice none 0 0) := (cell_of_row _ _ _ _ _ _ HK3.out).trans rfl
  have z3_2_8 : w3.frozen? ⟨w.heap.size + 2, 8, none⟩ = false := frozen_of_row _ _ _ _ _ HK3.out
  have HB3 := Lib.hid hbw3
  have HSZ3 := Lib.hid hsz3
  have HLO3 := Lib.hid hlo3
  clear hb3 hbw3 hsz3 hlo3
  clear x2_0_7 x2_0_8 x2_2_0 x2_2_1 x2_2_2 x2_2_3 x2_2_4 x2_2_5 x2_2_6 x2_2_7 x2_2_8 z2_2_0 z2_2_1 z2_2_2 z2_2_3 z2_2_4 z2_2_5 z2_2_6 z2_2_7 z2_2_8
  go_wp2_with fail
  refine (HT3.out _ (Nat.le_trans hhi (Below.size ((by repeat (first | (with_reducible exact HB3.out) | (with_reducible exact Below.refl _ _) | (refine Below.setCell ?_ (by simp <;> omega) _) | (refine Below.alloc ?_ (by simp <;> omega) _)) : Below w.heap.size w _)))) (HS8.out.later ((by repeat (first | (with_reducible exact HB3.out) | (with_reducible exact Below.refl _ _) | (refine Below.setCell ?_ (by simp <;> omega) _) | (refine Below.alloc ?_ (by simp <;> omega) _)) : Below w.heap.size w _)) hhi)).mono ?_
  rintro e w4 ⟨a8r, c8r, rfl, ho4, hb4⟩
  have hsz4 : w.heap.size + 2 < w4.heap.size := Nat.lt_of_lt_of_le (by have h := HSZ3.out; first | (with_reducible exact h) | (simp; done) | (simp; omega) | (simp [World.setCell]; omega)) hb4.size
  have hlo4 : w3.heap.size ≤ w4.heap.size := Nat.le_trans (by first | (with_reducible exact Nat.le_refl _) | (simp; done) | (simp; omega) | (simp [World.setCell]; omega)) hb4.size
  have hbw4 : Below w.heap.size w w4 := Below.trans ((by repeat (first | (with_reducible exact HB3.out) | (with_reducible exact Below.refl _ _) | (refine Below.setCell ?_ (by simp <;> omega) _) | (refine Below.alloc ?_ (by simp <;> omega) _)) : Below w.heap.size w _)) (hb4.mono (Below.size ((by repeat (first | (with_reducible exact HB3.out) | (with_reducible exact Below.refl _ _) | (refine Below.setCell ?_ (by simp <;> omega) _) | (refine Below.alloc ?_ (by simp <;> omega) _)) : Below w.heap.size w _))))
  have HO2_4 := Lib.hid (HO2_3.out.kept (Kept.trans (by repeat (first | (with_reducible exact Kept.refl) | (refine Kept.put ?_ (by rintro ⟨h1, h2⟩; dsimp only at h1; have h3 := HSZ1.out; omega)))) (Kept.of_below_all hb4)))
  clear HO2_3
  have HO3_4 := Lib.hid (HO3_3.out.kept (Kept.trans (by repeat (first | (with_reducible exact Kept.refl) | (refine Kept.put ?_ (by rintro ⟨h1, h2⟩; dsimp only at h1; have h3 := HSZ2.out; omega)))) (Kept.of_below_all hb4)))
  clear HO3_3
  have HO4_4 := Lib.hid (ho4.sub (F' := fun y => w3.heap.size ≤ y ∧ y < w4.heap.size) (fun y hy => ⟨Nat.le_trans (by first | (with_reducible exact Nat.le_refl _) | (simp; done) | (simp; omega) | (simp [World.setCell]; done) | (simp [World.setCell]; omega)) hy.1, hy.2⟩))
  clear ho4
  have HP4 := Lib.hid (show w4.heap[w.heap.size]? = some (.cells #[.int .i64 x.fAt.fNode, .string x.fAt.fName, .int .i64 x.fValue, .int .i64 x.fOwner, .int .i64 x.fLiteral, .string x.fRule, .slice a6 x.fIds.length c6, .slice a7 x.fShape.length c7, .slice a8 x.fReads.length c8] 65) from (hb4.block _ (by have h9 := HSZ3.out; first | (simp; done) | (simp; omega) | (simp at h9 ⊢; omega))).trans (by repeat (first | (with_reducible exact HP3.out) | (refine blk_other (by simp <;> omega) ?_))))
  have HG4 := Lib.hid (show w4.heap[w.heap.size + 1]? = some (.cells #[.int .i64 0, .string ⟨#[]⟩, .int .i64 0, .int .i64 0, .int .i64 0, .string ⟨#[]⟩, .slice none 0 0, .slice none 0 0, .slice none 0 0] 34) from (hb4.block _ (by have h9 := HSZ3.out; first | (simp; done) | (simp; omega) | (simp at h9 ⊢; omega))).trans (by repeat (first | (with_reducible exact HG3.out) | (refine blk_other (by simp <;> omega) ?_))))
  have HK4 := Lib.hid (show w4.heap[w.heap.size + 2]? = some (.cells #[.int .i64 x.fAt.fNode, .string x.fAt.fName, .int .i64 x.fValue, .int .i64 x.fOwner, .int .i64 x.fLiteral, .string x.fRule, .slice a6r x.fIds.length c6r, .slice a7r x.fShape.length c7r, .slice none 0 0] 34) from (hb4.block _ (by have h9 := HSZ3.out; first | (simp; done) | (simp; omega) | (simp at h9 ⊢; omega))).trans (by refine Eq.trans (blk_set (cs := #[.int .i64 x.fAt.fNode, .string x.fAt.fName, .int .i64 x.fValue, .int .i64 x.fOwner, .int .i64 x.fLiteral, .string x.fRule, .slice a6r x.fIds.length c6r, .slice none 0 0, .slice none 0 0]) (t := 34) (fr := (0, 0)) ?_) rfl; exact HK3.out))
  clear HP3 HG3 HK3
  have x4_2_0 : w4.cell? ⟨w.heap.size + 2, 0, none⟩ = some (.int .i64 x.fAt.fNode) := (cell_of_row _ _ _ _ _ _ HK4.out).trans rfl
  have z4_2_0 : w4.frozen? ⟨w.heap.size + 2, 0, none⟩ = false := frozen_of_row _ _ _ _ _ HK4.out
  have x4_2_1 : w4.cell? ⟨w.heap.size + 2, 1, none⟩ = some (.string x.fAt.fName) := (cell_of_row _ _ _ _ _ _ HK4.out).trans rfl
  have z4_2_1 : w4.frozen? ⟨w.heap.size + 2, 1, none⟩ = false := frozen_of_row _ _ _ _ _ HK4.out
  have x4_2_2 : w4.cell? ⟨w.heap.size + 2, 2, none⟩ = some (.int .i64 x.fValue) := (cell_of_row _ _ _ _ _ _ HK4.out).trans rfl
  have z4_2_2 : w4.frozen? ⟨w.heap.size + 2, 2, none⟩ = false := frozen_of_row _ _ _ _ _ HK4.out
  have x4_2_3 : w4.cell? ⟨w.heap.size + 2, 3, none⟩ = some (.int .i64 x.fOwner) := (cell_of_row _ _ _ _ _ _ HK4.out).trans rfl
  have z4_2_3 : w4.frozen? ⟨w.heap.size + 2, 3, none⟩ = false := frozen_of_row _ _ _ _ _ HK4.out
  have x4_2_4 : w4.cell? ⟨w.heap.size + 2, 4, none⟩ = some (.int .i64 x.fLiteral) := (cell_of_row _ _ _ _ _ _ HK4.out).trans rfl
  have z4_2_4 : w4.frozen? ⟨w.heap.size + 2, 4, none⟩ = false := frozen_of_row _ _ _ _ _ HK4.out
  have x4_2_5 : w4.cell? ⟨w.heap.size + 2, 5, none⟩ = some (.string x.fRule) := (cell_of_row _ _ _ _ _ _ HK4.out).trans rfl
  have z4_2_5 : w4.frozen? ⟨w.heap.size + 2, 5, none⟩ = false := frozen_of_row _ _ _ _ _ HK4.out
  have x4_2_6 : w4.cell? ⟨w.heap.size + 2, 6, none⟩ = some (.slice a6r x.fIds.length c6r) := (cell_of_row _ _ _ _ _ _ HK4.out).trans rfl
  have z4_2_6 : w4.frozen? ⟨w.heap.size + 2, 6, none⟩ = false := frozen_of_row _ _ _ _ _ HK4.out
  have x4_2_7 : w4.cell? ⟨w.heap.size + 2, 7, none⟩ = some (.slice a7r x.fShape.length c7r) := (cell_of_row _ _ _ _ _ _ HK4.out).trans rfl
  have z4_2_7 : w4.frozen? ⟨w.heap.size + 2, 7, none⟩ = false := frozen_of_row _ _ _ _ _ HK4.out
  have x4_2_8 : w4.cell? ⟨w.heap.size + 2, 8, none⟩ = some (.slice none 0 0) := (cell_of_row _ _ _ _ _ _ HK4.out).trans rfl
  have z4_2_8 : w4.frozen? ⟨w.heap.size + 2, 8, none⟩ = false := frozen_of_row _ _ _ _ _ HK4.out
  have x4_1_0 : w4.cell? ⟨w.heap.size + 1, 0, none⟩ = some (.int .i64 0) := (cell_of_row _ _ _ _ _ _ HG4.out).trans rfl
  have z4_1_0 : w4.frozen? ⟨w.heap.size + 1, 0, none⟩ = false := frozen_of_row _ _ _ _ _ HG4.out
  have x4_1_1 : w4.cell? ⟨w.heap.size + 1, 1, none⟩ = some (.string ⟨#[]⟩) := (cell_of_row _ _ _ _ _ _ HG4.out).trans rfl
  have z4_1_1 : w4.frozen? ⟨w.heap.size + 1, 1, none⟩ = false := frozen_of_row _ _ _ _ _ HG4.out
  have x4_1_2 : w4.cell? ⟨w.heap.size + 1, 2, none⟩ = some (.int .i64 0) := (cell_of_row _ _ _ _ _ _ HG4.out).trans rfl
  have z4_1_2 : w4.frozen? ⟨w.heap.size + 1, 2, none⟩ = false := frozen_of_row _ _ _ _ _ HG4.out
  have x4_1_3 : w4.cell? ⟨w.heap.size + 1, 3, none⟩ = some (.int .i64 0) := (cell_of_row _ _ _ _ _ _ HG4.out).trans rfl
  have z4_1_3 : w4.frozen? ⟨w.heap.size + 1, 3, none⟩ = false := frozen_of_row _ _ _ _ _ HG4.out
  have x4_1_4 : w4.cell? ⟨w.heap.size + 1, 4, none⟩ = some (.int .i64 0) := (cell_of_row _ _ _ _ _ _ HG4.out).trans rfl
  have z4_1_4 : w4.frozen? ⟨w.heap.size + 1, 4, none⟩ = false := frozen_of_row _ _ _ _ _ HG4.out
  have x4_1_5 : w4.cell? ⟨w.heap.size + 1, 5, none⟩ = some (.string ⟨#[]⟩) := (cell_of_row _ _ _ _ _ _ HG4.out).trans rfl
  have z4_1_5 : w4.frozen? ⟨w.heap.size + 1, 5, none⟩ = false := frozen_of_row _ _ _ _ _ HG4.out
  have x4_1_6 : w4.cell? ⟨w.heap.size + 1, 6, none⟩ = some (.slice none 0 0) := (cell_of_row _ _ _ _ _ _ HG4.out).trans rfl
  have z4_1_6 : w4.frozen? ⟨w.heap.size + 1, 6, none⟩ = false := frozen_of_row _ _ _ _ _ HG4.out
  have x4_1_7 : w4.cell? ⟨w.heap.size + 1, 7, none⟩ = some (.slice none 0 0) := (cell_of_row _ _ _ _ _ _ HG4.out).trans rfl
  have z4_1_7 : w4.frozen? ⟨w.heap.size + 1, 7, none⟩ = false := frozen_of_row _ _ _ _ _ HG4.out
  have x4_1_8 : w4.cell? ⟨w.heap.size + 1, 8, none⟩ = some (.slice none 0 0) := (cell_of_row _ _ _ _ _ _ HG4.out).trans rfl
  have z4_1_8 : w4.frozen? ⟨w.heap.size + 1, 8, none⟩ = false := frozen_of_row _ _ _ _ _ HG4.out
  have HB4 := Lib.hid hbw4
  have HSZ4 := Lib.hid hsz4
  have HLO4 := Lib.hid hlo4
  clear hb4 hbw4 hsz4 hlo4
  clear x3_0_8 x3_2_0 x3_2_1 x3_2_2 x3_2_3 x3_2_4 x3_2_5 x3_2_6 x3_2_7 x3_2_8 z3_2_0 z3_2_1 z3_2_2 z3_2_3 z3_2_4 z3_2_5 z3_2_6 z3_2_7 z3_2_8
  go_wp2
  refine bodyPost_ret (v := .agg #[.int .i64 x.fAt.fNode, .string x.fAt.fName, .int .i64 x.fValue, .int .i64 x.fOwner, .int .i64 x.fLiteral, .string x.fRule, .slice a6r x.fIds.length c6r, .slice a7r x.fShape.length c7r, .slice a8r x.fReads.length c8r]) (results_cell_row Try.results34 _ _ (w.heap.size + 1) 34 #[.int .i64 x.fAt.fNode, .string x.fAt.fName, .int .i64 x.fValue, .int .i64 x.fOwner, .int .i64 x.fLiteral, .string x.fRule, .slice a6r x.fIds.length c6r, .slice a7r x.fShape.length c7r, .slice a8r x.fReads.length c8r] (0, 0) _ rfl (by refine Eq.trans (blk_set (cs := #[.int .i64 x.fAt.fNode, .string x.fAt.fName, .int .i64 x.fValue, .int .i64 x.fOwner, .int .i64 x.fLiteral, .string x.fRule, .slice a6r x.fIds.length c6r, .slice a7r x.fShape.length c7r, .slice none 0 0]) (t := 34) (fr := (0, 0)) ?_) rfl; refine Eq.trans (blk_set (cs := #[.int .i64 x.fAt.fNode, .string x.fAt.fName, .int .i64 x.fValue, .int .i64 x.fOwner, .int .i64 x.fLiteral, .string x.fRule, .slice a6r x.fIds.length c6r, .slice none 0 0, .slice none 0 0]) (t := 34) (fr := (0, 0)) ?_) rfl; refine Eq.trans (blk_set (cs := #[.int .i64 x.fAt.fNode, .string x.fAt.fName, .int .i64 x.fValue, .int .i64 x.fOwner, .int .i64 x.fLiteral, .string x.fRule, .slice none 0 0, .slice none 0 0, .slice none 0 0]) (t := 34) (fr := (0, 0)) ?_) rfl; refine Eq.trans (blk_set (cs := #[.int .i64 x.fAt.fNode, .string x.fAt.fName, .int .i64 x.fValue, .int .i64 x.fOwner, .int .i64 x.fLiteral, .string ⟨#[]⟩, .slice none 0 0, .slice none 0 0, .slice none 0 0]) (t := 34) (fr := (0, 0)) ?_) rfl; refine Eq.trans (blk_set (cs := #[.int .i64 x.fAt.fNode, .string x.fAt.fName, .int .i64 x.fValue, .int .i64 x.fOwner, .int .i64 0, .string ⟨#[]⟩, .slice none 0 0, .slice none 0 0, .slice none 0 0]) (t := 34) (fr := (0, 0)) ?_) rfl; refine Eq.trans (blk_set (cs := #[.int .i64 x.fAt.fNode, .string x.fAt.fName, .int .i64 x.fValue, .int .i64 0, .int .i64 0, .string ⟨#[]⟩, .slice none 0 0, .slice none 0 0, .slice none 0 0]) (t := 34) (fr := (0, 0)) ?_) rfl; refine Eq.trans (blk_set (cs := #[.int .i64 x.fAt.fNode, .string x.fAt.fName, .int .i64 0, .int .i64 0, .int .i64 0, .string ⟨#[]⟩, .slice none 0 0, .slice none 0 0, .slice none 0 0]) (t := 34) (fr := (0, 0)) ?_) rfl; refine Eq.trans (blk_set (cs := #[.int .i64 x.fAt.fNode, .string ⟨#[]⟩, .int .i64 0, .int .i64 0, .int .i64 0, .string ⟨#[]⟩, .slice none 0 0, .slice none 0 0, .slice none 0 0]) (t := 34) (fr := (0, 0)) ?_) rfl; refine Eq.trans (blk_set (cs := #[.int .i64 0, .string ⟨#[]⟩, .int .i64 0, .int .i64 0, .int .i64 0, .string ⟨#[]⟩, .slice none 0 0, .slice none 0 0, .slice none 0 0]) (t := 34) (fr := (0, 0)) ?_) rfl; repeat (first | (with_reducible exact HG4.out) | (refine blk_other (by simp) ?_))) Try.underlying34 rfl rfl) rfl ⟨a6r, c6r, a7r, c7r, a8r, c8r, rfl, ?_, (by repeat (first | (with_reducible exact HB4.out) | (with_reducible exact Below.refl _ _) | (refine Below.setCell ?_ (by simp <;> omega) _) | (refine Below.alloc ?_ (by simp <;> omega) _)) : Below w.heap.size w _)⟩
  have ho2 := HO2_4.out
  clear HO2_4
  have ho3 := HO3_4.out
  clear HO3_4
  have ho4 := HO4_4.out
  clear HO4_4
  have q1 := HLO1.out
  have q2 := HLO2.out
  have q3 := HLO3.out
  have q4 := HLO4.out
  skip
  skip
  skip
  have hkk : ∀ w9 : World, Kept (fun y => w.heap.size + 3 ≤ y) w4 w9 → OwnR w9 (fun y => w.heap.size ≤ y ∧ y < w4.heap.size) 9 x.ct (fun j => [.int .i64 x.fAt.fNode, .string x.fAt.fName, .int .i64 x.fValue, .int .i64 x.fOwner, .int .i64 x.fLiteral, .string x.fRule, .slice a6r x.fIds.length c6r, .slice a7r x.fShape.length c7r, .slice a8r x.fReads.length c8r].getD j .nilFunc) := fun w9 hk => by
    refine OwnR.append (F1 := fun _ => False) (F2 := fun y => w1.heap.size ≤ y ∧ y < w4.heap.size) (m := 6) (n := 3) ?_ ?_ (by intro y h1 h2; first | exact h1.elim | exact h2.elim | (have h3 := h1.2; have h4 := h2.1; omega)) (by intro y h1; first | exact h1.elim | (have h3 := h1.1; have h4 := h1.2; exact ⟨by omega, by omega⟩)) (by intro y h1; first | exact h1.elim | (have h3 := h1.1; have h4 := h1.2; exact ⟨by omega, by omega⟩))
    · skip
      refine OwnR.lits (F := fun _ => False) fun j hj => ?_
      match j, hj with
      | 0, _ => rfl
      | 1, _ => rfl
      | 2, _ => rfl
      | 3, _ => rfl
      | 4, _ => rfl
      | 5, _ => rfl
    · skip
      refine OwnR.append (F1 := fun y => w1.heap.size ≤ y ∧ y < w2.heap.size) (F2 := fun y => w2.heap.size ≤ y ∧ y < w4.heap.size) (m := 1) (n := 2) ?_ ?_ (by intro y h1 h2; first | exact h1.elim | exact h2.elim | (have h3 := h1.2; have h4 := h2.1; omega)) (by intro y h1; first | exact h1.elim | (have h3 := h1.1; have h4 := h1.2; exact ⟨by omega, by omega⟩)) (by intro y h1; first | exact h1.elim | (have h3 := h1.1; have h4 := h1.2; exact ⟨by omega, by omega⟩))
      · skip
        exact OwnR.one (ho2.kept (hk.sub fun y hy => by have h := hy.1; omega))
      · skip
        refine OwnR.append (F1 := fun y => w2.heap.size ≤ y ∧ y < w3.heap.size) (F2 := fun y => w3.heap.size ≤ y ∧ y < w4.heap.size) (m := 1) (n := 1) ?_ ?_ (by intro y h1 h2; first | exact h1.elim | exact h2.elim | (have h3 := h1.2; have h4 := h2.1; omega)) (by intro y h1; first | exact h1.elim | (have h3 := h1.1; have h4 := h1.2; exact ⟨by omega, by omega⟩)) (by intro y h1; first | exact h1.elim | (have h3 := h1.1; have h4 := h1.2; exact ⟨by omega, by omega⟩))
        · skip
          exact OwnR.one (ho3.kept (hk.sub fun y hy => by have h := hy.1; omega))
        · skip
          exact OwnR.one (ho4.kept (hk.sub fun y hy => by have h := hy.1; omega))
  refine (hkk _ (by repeat (first | (with_reducible exact Kept.refl) | (refine Kept.put ?_ (by intro h1; dsimp only at h1; omega))))).sub (fun y hy => ⟨hy.1, Nat.lt_of_lt_of_le hy.2 (by simp)⟩)

theorem info_Entry : (Try.prog.info? 34).map (fun i => (i.zero, i.size, i.bytes)) = some (some (.agg #[.int .i64 0, .string ⟨#[]⟩, .int .i64 0, .int .i64 0, .int .i64 0, .string ⟨#[]⟩, .slice none 0 0, .slice none 0 0, .slice none 0 0]), 9, 136) := by kernel_rfl

set_option maxHeartbeats 1600000 in
set_option maxRecDepth 100000 in
theorem laws_toEntryS {lo hi : Nat} {a : Option Addr} {cap : Nat} (l : List DEntry) (hsz : lsz DEntry.sz l ≤ 1048576) (w : World) (hhi : hi ≤ w.heap.size) (hs : Sl lo hi w 9 l.length (fun k => DEntry.ct (l.getD k default)) a) :
    Calls Try.prog 18 #[.slice a l.length cap] w fun e w' => ∃ a' cap', e = .returned (.slice a' l.length cap') ∧ Own w' (fun x => w.heap.size ≤ x ∧ x < w'.heap.size) (.sl 9 l.length (fun k => DEntry.ct (l.getD k default))) (.slice a' l.length cap') ∧ Below w.heap.size w w' := by
  have HS := Lib.hid hs
  clear hs
  have HW := Lib.hid hsz
  have hn : l.length ≤ 1048576 := by unfold lsz at hsz; omega
  clear hsz
  obtain ⟨i0, hi', hz0, hz1, hz2⟩ := info_parts info_Entry
  go_enter Try.func18, Try.ntmps18
  go_wp2_with (at_make; refine wpList_make_full _ rfl (.tmp 6) (.tmp 6) 37 rfl w.heap.size 34 i0 (.agg #[.int .i64 0, .string ⟨#[]⟩, .int .i64 0, .int .i64 0, .int .i64 0, .string ⟨#[]⟩, .slice none 0 0, .slice none 0 0, .slice none 0 0]) 9 Try.underlying37 hi' hz0 hz1 .i64 .i64 (l.length : Int) (l.length : Int) l.length rfl rfl rfl rfl (by rw [hz2]; omega) (by unfold maxLen; omega) (Nat.le_refl _) ?_; intro w1 hown hgrow)
  have hb1 : Below w.heap.size w w1 := (Below.refl _ w).grown hgrow (Nat.le_refl _) (fun k hk => by cases hk)
  clear hgrow
  have hblk := (ownsRow_block hown).1
  go_loopw [4] (fun i wr => ∃ (k : Nat) (xs : List Value), k ≤ l.length ∧ i = .int .i64 (k : Int) ∧ wr.ownsRow w.heap.size 34 9 (.slice (some ⟨w.heap.size, 0, none⟩) l.length l.length) l.length xs ∧ Filled w.heap.size wr 9 k (fun k => DEntry.ct (l.getD k default)) xs ∧ Below w.heap.size w wr) (fun i _ => l.length - (intOf i).toNat)
  case atStart => exact ⟨0, _, Nat.zero_le _, rfl, hown, Filled.zero hblk, hb1⟩
  case round =>
    clear hown hb1 hblk
    obtain ⟨k, xs, hk, rfl, hown, hfill, hb⟩ := hrel
    have hblk := ownsRow_block hown
    have HO := Lib.hid hown
    have HF := Lib.hid hfill
    have HB := Lib.hid hb
    clear hown hfill
    by_cases hlt : k < l.length
    · have hhr : hi ≤ wr.heap.size := Nat.le_trans hhi hb.size
      obtain ⟨b, off, rfl, hlo, hhi', hc⟩ := (HS.out.later (hb.mono hhi) (Nat.le_refl _)).at k hlt
      obtain ⟨a6, c6, a7, c7, a8, c8, hc0_, hc1_, hc2_, hc3_, hc4_, hc5_, hc6_, hc7_, hc8_, hs6, hs7, hs8⟩ := DEntry.open hc
      have hkn : k * 9 + 9 ≤ l.length * 9 := by omega
      have d0 := hblk.2.2.1 (k * 9) (by omega)
      have z0 := hblk.2.2.2 (k * 9)
      have d1 := hblk.2.2.1 (k * 9 + 1) (by omega)
      have z1 := hblk.2.2.2 (k * 9 + 1)
      have d2 := hblk.2.2.1 (k * 9 + 2) (by omega)
      have z2 := hblk.2.2.2 (k * 9 + 2)
      have d3 := hblk.2.2.1 (k * 9 + 3) (by omega)
      have z3 := hblk.2.2.2 (k * 9 + 3)
      have d4 := hblk.2.2.1 (k * 9 + 4) (by omega)
      have z4 := hblk.2.2.2 (k * 9 + 4)
      have d5 := hblk.2.2.1 (k * 9 + 5) (by omega)
      have z5 := hblk.2.2.2 (k * 9 + 5)
      have d6 := hblk.2.2.1 (k * 9 + 6) (by omega)
      have z6 := hblk.2.2.2 (k * 9 + 6)
      have d7 := hblk.2.2.1 (k * 9 + 7) (by omega)
      have z7 := hblk.2.2.2 (k * 9 + 7)
      have d8 := hblk.2.2.1 (k * 9 + 8) (by omega)
      have z8 := hblk.2.2.2 (k * 9 + 8)
      have hsz := hblk.1
      clear hblk hb hc
      have hxs := szle_at (f := DEntry.sz) l k hlt
      generalize hx : l.getD k default = x at *
      have HX := Lib.hid hx
      clear hx
      generalize xs.getD (k * 9) Value.nilFunc = v0 at d0
      generalize xs.getD (k * 9 + 1) Value.nilFunc = v1 at d1
      generalize xs.getD (k * 9 + 2) Value.nilFunc = v2 at d2
      generalize xs.getD (k * 9 + 3) Value.nilFunc = v3 at d3
      generalize xs.getD (k * 9 + 4) Value.nilFunc = v4 at d4
      generalize xs.getD (k * 9 + 5) Value.nilFunc = v5 at d5
      generalize xs.getD (k * 9 + 6) Value.nilFunc = v6 at d6
      generalize xs.getD (k * 9 + 7) Value.nilFunc = v7 at d7
      generalize xs.getD (k * 9 + 8) Value.nilFunc = v8 at d8
      have HT := Lib.hid (laws_toEntry (c6 := c6) (c7 := c7) (c8 := c8) x (by have h1 := HW.out; omega) wr hhr hs6 hs7 hs8)
      clear hxs hs6 hs7 hs8
      go_wp2_with fail
      refine HT.out.mono ?_
      rintro e w1 ⟨a6r, c6r, a7r, c7r, a8r, c8r, rfl, ho1, hb1⟩
      have HOR := Lib.hid ho1
      clear ho1
      have e0 := (hb1.cell (p := ⟨w.heap.size, k * 9, none⟩) hsz).trans d0
      have y0 := (hb1.frozen (p := ⟨w.heap.size, k * 9, none⟩) hsz).trans z0
      have e1 := (hb1.cell (p := ⟨w.heap.size, k * 9 + 1, none⟩) hsz).trans d1
      have y1 := (hb1.frozen (p := ⟨w.heap.size, k * 9 + 1, none⟩) hsz).trans z1
      have e2 := (hb1.cell (p := ⟨w.heap.size, k * 9 + 2, none⟩) hsz).trans d2
      have y2 := (hb1.frozen (p := ⟨w.heap.size, k * 9 + 2, none⟩) hsz).trans z2
      have e3 := (hb1.cell (p := ⟨w.heap.size, k * 9 + 3, none⟩) hsz).trans d3
      have y3 := (hb1.frozen (p := ⟨w.heap.size, k * 9 + 3, none⟩) hsz).trans z3
      have e4 := (hb1.cell (p := ⟨w.heap.size, k * 9 + 4, none⟩) hsz).trans d4
      have y4 := (hb1.frozen (p := ⟨w.heap.size, k * 9 + 4, none⟩) hsz).trans z4
      have e5 := (hb1.cell (p := ⟨w.heap.size, k * 9 + 5, none⟩) hsz).trans d5
      have y5 := (hb1.frozen (p := ⟨w.heap.size, k * 9 + 5, none⟩) hsz).trans z5
      have e6 := (hb1.cell (p := ⟨w.heap.size, k * 9 + 6, none⟩) hsz).trans d6
      have y6 := (hb1.frozen (p := ⟨w.heap.size, k * 9 + 6, none⟩) hsz).trans z6
      have e7 := (hb1.cell (p := ⟨w.heap.size, k * 9 + 7, none⟩) hsz).trans d7
      have y7 := (hb1.frozen (p := ⟨w.heap.size, k * 9 + 7, none⟩) hsz).trans z7
      have e8 := (hb1.cell (p := ⟨w.heap.size, k * 9 + 8, none⟩) hsz).trans d8
      have y8 := (hb1.frozen (p := ⟨w.heap.size, k * 9 + 8, none⟩) hsz).trans z8
      have HB1 := Lib.hid hb1
      clear hb1 d0 z0 d1 z1 d2 z2 d3 z3 d4 z4 d5 z5 d6 z6 d7 z7 d8 z8
      go_wp2
      go_roundw
      case rel =>
        have hst := HF.out.stored HB1.out hsz (ownsRow_below HO.out HB1.out) hlt [.int .i64 x.fAt.fNode, .string x.fAt.fName, .int .i64 x.fValue, .int .i64 x.fOwner, .int .i64 x.fLiteral, .string x.fRule, .slice a6r x.fIds.length c6r, .slice a7r x.fShape.length c7r, .slice a8r x.fReads.length c8r] rfl ((by rw [HX.out]; exact HOR.out))
        exact ⟨k + 1, _, by omega, by go_num, hst.1, hst.2, setCells_below (Nat.le_refl _) [_, _, _, _, _, _, _, _, _] _ (HB.out.trans (HB1.out.mono HB.out.size))⟩
      case measure => simp [intOf]; omega
    · obtain rfl : k = l.length := by omega
      go_wp2
      go_ret
      exact ⟨_, _, rfl, HF.out.own hblk.1 hblk.2.2.1 hblk.2.2.2, hb⟩

set_option maxHeartbeats 1600000 in
set_option maxRecDepth 100000 in
theorem laws_eqEntry {lo hi lo2 hi2 : Nat} {a6 : Option Addr} {c6 : Nat} {a7 : Option Addr} {c7 : Nat} {a8 : Option Addr} {c8 : Nat} {a6q : Option Addr} {c6q : Nat} {a7q : Option Addr} {c7q : Nat} {a8q : Option Addr} {c8q : Nat} (x : DEntry) (hsz : x.sz ≤ 1048576) (w : World) (hhi : hi ≤ w.heap.size) (hhi2 : hi2 ≤ w.heap.size) (hs6 : Sl lo hi w 1 x.fIds.length (fun k => ictI (x.fIds.getD k default)) a6) (hs7 : Sl lo hi w 1 x.fShape.length (fun k => ictI (x.fShape.getD k default)) a7) (hs8 : Sl lo hi w 4 x.fReads.length (fun k => DReading.ct (x.fReads.getD k default)) a8) (hs6q : Sl lo2 hi2 w 1 x.fIds.length (fun k => ictI (x.fIds.getD k default)) a6q) (hs7q : Sl lo2 hi2 w 1 x.fShape.length (fun k => ictI (x.fShape.getD k default)) a7q) (hs8q : Sl lo2 hi2 w 4 x.fReads.length (fun k => DReading.ct (x.fReads.getD k default)) a8q) :
    Calls Try.prog 10 #[.agg #[.int .i64 x.fAt.fNode, .string x.fAt.fName, .int .i64 x.fValue, .int .i64 x.fOwner, .int .i64 x.fLiteral, .string x.fRule, .slice a6 x.fIds.length c6, .slice a7 x.fShape.length c7, .slice a8 x.fReads.length c8], .agg #[.int .i64 x.fAt.fNode, .string x.fAt.fName, .int .i64 x.fValue, .int .i64 x.fOwner, .int .i64 x.fLiteral, .string x.fRule, .slice a6q x.fIds.length c6q, .slice a7q x.fShape.length c7q, .slice a8q x.fReads.length c8q]] w fun e w' => e = .returned (.bool true) ∧ Below w.heap.size w w' := by
  have HS6 := Lib.hid hs6
  have HS6q := Lib.hid hs6q
  have HS7 := Lib.hid hs7
  have HS7q := Lib.hid hs7q
  have HS8 := Lib.hid hs8
  have HS8q := Lib.hid hs8q
  clear hs6 hs6q hs7 hs7q hs8 hs8q
  have HW := Lib.hid hsz
  clear hsz
  have HB0 := Lib.hid (((Below.refl w.heap.size w).alloc (Nat.le_refl _) (.cells #[.int .i64 x.fAt.fNode, .string x.fAt.fName, .int .i64 x.fValue, .int .i64 x.fOwner, .int .i64 x.fLiteral, .string x.fRule, .slice a6 x.fIds.length c6, .slice a7 x.fShape.length c7, .slice a8 x.fReads.length c8] 34)).alloc (by simp <;> omega) (.cells #[.int .i64 x.fAt.fNode, .string x.fAt.fName, .int .i64 x.fValue, .int .i64 x.fOwner, .int .i64 x.fLiteral, .string x.fRule, .slice a6q x.fIds.length c6q, .slice a7q x.fShape.length c7q, .slice a8q x.fReads.length c8q] 34))
  have ht0 := fun (w' : World) => laws_eqInstance x.fAt w'
  have HT0 := Lib.hid ht0
  clear ht0
  have ht1 := fun (w' : World) (hhi : hi ≤ w'.heap.size) (hhi2 : hi2 ≤ w'.heap.size) (hs : Sl lo hi w' 1 x.fIds.length (fun k => ictI (x.fIds.getD k default)) a6) (hs2 : Sl lo2 hi2 w' 1 x.fIds.length (fun k => ictI (x.fIds.getD k default)) a6q) => laws_eqIntS (cap := c6) (cap2 := c6q) x.fIds (by have h := HW.out; unfold DEntry.sz at h; omega) w' hhi hhi2 hs hs2
  have HT1 := Lib.hid ht1
  clear ht1
  have ht2 := fun (w' : World) (hhi : hi ≤ w'.heap.size) (hhi2 : hi2 ≤ w'.heap.size) (hs : Sl lo hi w' 1 x.fShape.length (fun k => ictI (x.fShape.getD k default)) a7) (hs2 : Sl lo2 hi2 w' 1 x.fShape.length (fun k => ictI (x.fShape.getD k default)) a7q) => laws_eqIntS (cap := c7) (cap2 := c7q) x.fShape (by have h := HW.out; unfold DEntry.sz at h; omega) w' hhi hhi2 hs hs2
  have HT2 := Lib.hid ht2
  clear ht2
  have ht3 := fun (w' : World) (hhi : hi ≤ w'.heap.size) (hhi2 : hi2 ≤ w'.heap.size) (hs : Sl lo hi w' 4 x.fReads.length (fun k => DReading.ct (x.fReads.getD k default)) a8) (hs2 : Sl lo2 hi2 w' 4 x.fReads.length (fun k => DReading.ct (x.fReads.getD k default)) a8q) => laws_eqReadingS (cap := c8) (cap2 := c8q) x.fReads (by have h := HW.out; unfold DEntry.sz at h; omega) w' hhi hhi2 hs hs2
  have HT3 := Lib.hid ht3
  clear ht3
  go_enter Try.func10, Try.ntmps10
  go_wp2_with fail
  refine (HT0.out _).mono ?_
  rintro e w1 ⟨rfl, hb1⟩
  have x1_0_2 : w1.cell? ⟨w.heap.size, 2, none⟩ = some (.int .i64 x.fValue) := (hb1.cell (p := ⟨w.heap.size, 2, none⟩) (by first | omega | (simp; done) | (simp; omega) | (simp [World.setCell]; omega))).trans (by go_simp)
  have x1_0_3 : w1.cell? ⟨w.heap.size, 3, none⟩ = some (.int .i64 x.fOwner) := (hb1.cell (p := ⟨w.heap.size, 3, none⟩) (by first | omega | (simp; done) | (simp; omega) | (simp [World.setCell]; omega))).trans (by go_simp)
  have x1_0_4 : w1.cell? ⟨w.heap.size, 4, none⟩ = some (.int .i64 x.fLiteral) := (hb1.cell (p := ⟨w.heap.size, 4, none⟩) (by first | omega | (simp; done) | (simp; omega) | (simp [World.setCell]; omega))).trans (by go_simp)
  have x1_0_5 : w1.cell? ⟨w.heap.size, 5, none⟩ = some (.string x.fRule) := (hb1.cell (p := ⟨w.heap.size, 5, none⟩) (by first | omega | (simp; done) | (simp; omega) | (simp [World.setCell]; omega))).trans (by go_simp)
  have x1_0_6 : w1.cell? ⟨w.heap.size, 6, none⟩ = some (.slice a6 x.fIds.length c6) := (hb1.cell (p := ⟨w.heap.size, 6, none⟩) (by first | omega | (simp; done) | (simp; omega) | (simp [World.setCell]; omega))).trans (by go_simp)
  have x1_0_7 : w1.cell? ⟨w.heap.size, 7, none⟩ = some (.slice a7 x.fShape.length c7) := (hb1.cell (p := ⟨w.heap.size, 7, none⟩) (by first | omega | (simp; done) | (simp; omega) | (simp [World.setCell]; omega))).trans (by go_simp)
  have x1_0_8 : w1.cell? ⟨w.heap.size, 8, none⟩ = some (.slice a8 x.fReads.length c8) := (hb1.cell (p := ⟨w.heap.size, 8, none⟩) (by first | omega | (simp; done) | (simp; omega) | (simp [World.setCell]; omega))).trans (by go_simp)
  have x1_1_2 : w1.cell? ⟨w.heap.size + 1, 2, none⟩ = some (.int .i64 x.fValue) := (hb1.cell (p := ⟨w.heap.size + 1, 2, none⟩) (by first | omega | (simp; done) | (simp; omega) | (simp [World.setCell]; omega))).trans (by go_simp)
  have x1_1_3 : w1.cell? ⟨w.heap.size + 1, 3, none⟩ = some (.int .i64 x.fOwner) := (hb1.cell (p := ⟨w.heap.size + 1, 3, none⟩) (by first | omega | (simp; done) | (simp; omega) | (simp [World.setCell]; omega))).trans (by go_simp)
  have x1_1_4 : w1.cell? ⟨w.heap.size + 1, 4, none⟩ = some (.int .i64 x.fLiteral) := (hb1.cell (p := ⟨w.heap.size + 1, 4, none⟩) (by first | omega | (simp; done) | (simp; omega) | (simp [World.setCell]; omega))).trans (by go_simp)
  have x1_1_5 : w1.cell? ⟨w.heap.size + 1, 5, none⟩ = some (.string x.fRule) := (hb1.cell (p := ⟨w.heap.size + 1, 5, none⟩) (by first | omega | (simp; done) | (simp; omega) | (simp [World.setCell]; omega))).trans (by go_simp)
  have x1_1_6 : w1.cell? ⟨w.heap.size + 1, 6, none⟩ = some (.slice a6q x.fIds.length c6q) := (hb1.cell (p := ⟨w.heap.size + 1, 6, none⟩) (by first | omega | (simp; done) | (simp; omega) | (simp [World.setCell]; omega))).trans (by go_simp)
  have x1_1_7 : w1.cell? ⟨w.heap.size + 1, 7, none⟩ = some (.slice a7q x.fShape.length c7q) := (hb1.cell (p := ⟨w.heap.size + 1, 7, none⟩) (by first | omega | (simp; done) | (simp; omega) | (simp [World.setCell]; omega))).trans (by go_simp)
  have x1_1_8 : w1.cell? ⟨w.heap.size + 1, 8, none⟩ = some (.slice a8q x.fReads.length c8q) := (hb1.cell (p := ⟨w.heap.size + 1, 8, none⟩) (by first | omega | (simp; done) | (simp; omega) | (simp [World.setCell]; omega))).trans (by go_simp)
  have hsz1 : w.heap.size + 1 < w1.heap.size := Nat.lt_of_lt_of_le (by first | omega | (simp; done) | (simp; omega) | (simp [World.setCell]; omega)) hb1.size
  have HB1 := Lib.hid (HB0.out.trans (hb1.mono HB0.out.size))
  clear hb1
  go_wp2_with fail
  refine (HT1.out _ (Nat.le_trans hhi (HB1.out.size)) (Nat.le_trans hhi2 (HB1.out.size)) (HS6.out.later HB1.out hhi) (HS6q.out.later HB1.out hhi2)).mono ?_
  rintro e w2 ⟨rfl, hb2⟩
  have x2_0_7 : w2.cell? ⟨w.heap.size, 7, none⟩ = some (.slice a7 x.fShape.length c7) := (hb2.cell (p := ⟨w.heap.size, 7, none⟩) (by first | omega | (simp; done) | (simp; omega) | (simp [World.setCell]; omega))).trans (by go_simp)
  have x2_0_8 : w2.cell? ⟨w.heap.size, 8, none⟩ = some (.slice a8 x.fReads.length c8) := (hb2.cell (p := ⟨w.heap.size, 8, none⟩) (by first | omega | (simp; done) | (simp; omega) | (simp [World.setCell]; omega))).trans (by go_simp)
  have x2_1_7 : w2.cell? ⟨w.heap.size + 1, 7, none⟩ = some (.slice a7q x.fShape.length c7q) := (hb2.cell (p := ⟨w.heap.size + 1, 7, none⟩) (by first | omega | (simp; done) | (simp; omega) | (simp [World.setCell]; omega))).trans (by go_simp)
  have x2_1_8 : w2.cell? ⟨w.heap.size + 1, 8, none⟩ = some (.slice a8q x.fReads.length c8q) := (hb2.cell (p := ⟨w.heap.size + 1, 8, none⟩) (by first | omega | (simp; done) | (simp; omega) | (simp [World.setCell]; omega))).trans (by go_simp)
  have hsz2 : w.heap.size + 1 < w2.heap.size := Nat.lt_of_lt_of_le (by first | omega | (simp; done) | (simp; omega) | (simp [World.setCell]; omega)) hb2.size
  have HB2 := Lib.hid (HB1.out.trans (hb2.mono HB1.out.size))
  clear hb2
  clear x1_0_2 x1_0_3 x1_0_4 x1_0_5 x1_0_6 x1_0_7 x1_0_8 x1_1_2 x1_1_3 x1_1_4 x1_1_5 x1_1_6 x1_1_7 x1_1_8 hsz1
  go_wp2_with fail
  refine (HT2.out _ (Nat.le_trans hhi (HB2.out.size)) (Nat.le_trans hhi2 (HB2.out.size)) (HS7.out.later HB2.out hhi) (HS7q.out.later HB2.out hhi2)).mono ?_
  rintro e w3 ⟨rfl, hb3⟩
  have x3_0_8 : w3.cell? ⟨w.heap.size, 8, none⟩ = some (.slice a8 x.fReads.length c8) := (hb3.cell (p := ⟨w.heap.size, 8, none⟩) (by first | omega | (simp; done) | (simp; omega) | (simp [World.setCell]; omega))).trans (by go_simp)
  have x3_1_8 : w3.cell? ⟨w.heap.size + 1, 8, none⟩ = some (.slice a8q x.fReads.length c8q) := (hb3.cell (p := ⟨w.heap.size + 1, 8, none⟩) (by first | omega | (simp; done) | (simp; omega) | (simp [World.setCell]; omega))).trans (by go_simp)
  have hsz3 : w.heap.size + 1 < w3.heap.size := Nat.lt_of_lt_of_le (by first | omega | (simp; done) | (simp; omega) | (simp [World.setCell]; omega)) hb3.size
  have HB3 := Lib.hid (HB2.out.trans (hb3.mono HB2.out.size))
  clear hb3
  clear x2_0_7 x2_0_8 x2_1_7 x2_1_8 hsz2
  go_wp2_with fail
  refine (HT3.out _ (Nat.le_trans hhi (HB3.out.size)) (Nat.le_trans hhi2 (HB3.out.size)) (HS8.out.later HB3.out hhi) (HS8q.out.later HB3.out hhi2)).mono ?_
  rintro e w4 ⟨rfl, hb4⟩
  have HB4 := Lib.hid (HB3.out.trans (hb4.mono HB3.out.size))
  clear hb4
  clear x3_0_8 x3_1_8 hsz3
  go_wp2
  go_ret
  exact ⟨rfl, HB4.out⟩

set_option maxHeartbeats 1600000 in
set_option maxRecDepth 100000 in
theorem laws_eqEntryS {lo hi lo2 hi2 : Nat} {a a2 : Option Addr} {cap cap2 : Nat} (l : List DEntry) (hsz : lsz DEntry.sz l ≤ 1048576) (w : World) (hhi : hi ≤ w.heap.size) (hhi2 : hi2 ≤ w.heap.size) (hs : Sl lo hi w 9 l.length (fun k => DEntry.ct (l.getD k default)) a) (hs2 : Sl lo2 hi2 w 9 l.length (fun k => DEntry.ct (l.getD k default)) a2) :
    Calls Try.prog 25 #[.slice a l.length cap, .slice a2 l.length cap2] w fun e w' => e = .returned (.bool true) ∧ Below w.heap.size w w' := by
  have HS := Lib.hid hs
  have HS2 := Lib.hid hs2
  have HW := Lib.hid hsz
  have hn : l.length ≤ 1048576 := by unfold lsz at hsz; omega
  clear hs hs2 hsz
  go_enter Try.func25, Try.ntmps25
  go_wp2
  go_loopw [5] (fun i wr => ∃ k : Nat, k ≤ l.length ∧ i = .int .i64 (k : Int) ∧ Below w.heap.size w wr) (fun i _ => l.length - (intOf i).toNat)
  case atStart => exact ⟨0, Nat.zero_le _, rfl, Below.refl _ _⟩
  case round =>
    obtain ⟨k, hk, rfl, hb⟩ := hrel
    have HB := Lib.hid hb
    by_cases hlt : k < l.length
    · have hhr : hi ≤ wr.heap.size := Nat.le_trans hhi hb.size
      have hhr2 : hi2 ≤ wr.heap.size := Nat.le_trans hhi2 hb.size
      obtain ⟨b, off, rfl, _, hhi', hc⟩ := (HS.out.later (hb.mono hhi) (Nat.le_refl _)).at k hlt
      obtain ⟨b2, off2, rfl, _, hhi2', hc2⟩ := (HS2.out.later (hb.mono hhi2) (Nat.le_refl _)).at k hlt
      obtain ⟨a6, c6, a7, c7, a8, c8, hc0_, hc1_, hc2_, hc3_, hc4_, hc5_, hc6_, hc7_, hc8_, hs6, hs7, hs8⟩ := DEntry.open hc
      obtain ⟨a6q, c6q, a7q, c7q, a8q, c8q, hc0q_, hc1q_, hc2q_, hc3q_, hc4q_, hc5q_, hc6q_, hc7q_, hc8q_, hs6q, hs7q, hs8q⟩ := DEntry.open hc2
      have hxs := szle_at (f := DEntry.sz) l k hlt
      clear hb hc hc2
      generalize l.getD k default = x at *
      have HT := Lib.hid (fun (w' : World) (hw : Below wr.heap.size wr w') => laws_eqEntry (c6 := c6) (c6q := c6q) (c7 := c7) (c7q := c7q) (c8 := c8) (c8q := c8q) x (by have h1 := HW.out; omega) w' (Nat.le_trans hhr hw.size) (Nat.le_trans hhr2 hw.size) (hs6.later hw hhr) (hs7.later hw hhr) (hs8.later hw hhr) (hs6q.later hw hhr2) (hs7q.later hw hhr2) (hs8q.later hw hhr2))
      clear hxs hs6 hs6q hs7 hs7q hs8 hs8q
      go_wp2_with fail
      go_region_with ((go_at_call 10; refine (HT.out _ (by first | exact Below.refl _ _ | exact (Below.refl _ _).drew | exact below_drewN (Below.refl _ _) _)).mono ?_; rintro e w1 ⟨rfl, hb1⟩))
      all_goals
        go_wp2
        go_roundw
        case rel =>
          refine ⟨k + 1, by omega, by go_num, ?_⟩
          have hb2 : Below wr.heap.size wr w1 := ⟨hb1.os, hb1.tape, hb1.output, hb1.size, hb1.block⟩
          repeat (first | exact HB.out.trans (hb2.mono HB.out.size) | apply Below.drew | refine below_drewN ?_ _)
        case measure => simp [intOf]; omega
    · go_wp2
      go_ret
      exact ⟨rfl, HB.out⟩
end Go.Proofs.Ythgpompoionfoaa
