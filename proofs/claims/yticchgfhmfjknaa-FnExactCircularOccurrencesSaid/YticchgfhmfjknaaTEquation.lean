/-
  The type Equation of the laws: its data, and the contracts of the laws' own helpers on it.
-/
import Derived.Test.YticchgfhmfjknaaTExpr
import Derived.Test.YticchgfhmfjknaaTOccurrence
import Derived.WalkSpells
import Derived.WalkSmall
import Derived.WalkLawsBesides
import Derived.SliceStrings
import Derived.Deep.QuietTactic
import Derived.Deep.RegionWith
import Derived.BigQuiet
import Derived.Outline
import Derived.Laws.Rows
namespace Go.Proofs.Yticchgfhmfjknaa
open Go.ChangeShapes Go.WideShapes Go.ChangeAt Go.RowKit Go.Deep

structure DEquation where
  fAt : DOccurrence
  fExpr : DExpr
  deriving Inhabited

def DEquation.ct (x : DEquation) : Nat → Ct
  | 0 => .lit (.int .i64 x.fAt.fPos)
  | 1 => .lit (.string x.fAt.fName)
  | 2 => .lit (.int .i64 x.fExpr.fKind)
  | 3 => .lit (.int .i64 x.fExpr.fN)
  | 4 => .lit (.int .i64 x.fExpr.fPos)
  | 5 => .lit (.int .i64 x.fExpr.fType)
  | 6 => .lit (.string x.fExpr.fSymbol)
  | 7 => .lit (.string x.fExpr.fName)
  | 8 => .sl 7 x.fExpr.fArgs.length (ctE x.fExpr.fArgs)
  | _ => .lit .nilFunc

def DEquation.ok (x : DEquation) : Prop := DOccurrence.ok x.fAt ∧ DExpr.ok x.fExpr

def DEquation.sz (x : DEquation) : Nat := DOccurrence.sz x.fAt + DExpr.sz x.fExpr

theorem DEquation.open {lo hi b o : Nat} {w : World} {x : DEquation} (h : ∀ j, j < 9 → ∃ u, w.cell? ⟨b, o + j, none⟩ = some u ∧ Lies lo hi w (x.ct j) u) :
    ∃ a8 c8, w.cell? ⟨b, o, none⟩ = some (.int .i64 x.fAt.fPos) ∧ w.cell? ⟨b, o + 1, none⟩ = some (.string x.fAt.fName) ∧ w.cell? ⟨b, o + 2, none⟩ = some (.int .i64 x.fExpr.fKind) ∧ w.cell? ⟨b, o + 3, none⟩ = some (.int .i64 x.fExpr.fN) ∧ w.cell? ⟨b, o + 4, none⟩ = some (.int .i64 x.fExpr.fPos) ∧ w.cell? ⟨b, o + 5, none⟩ = some (.int .i64 x.fExpr.fType) ∧ w.cell? ⟨b, o + 6, none⟩ = some (.string x.fExpr.fSymbol) ∧ w.cell? ⟨b, o + 7, none⟩ = some (.string x.fExpr.fName) ∧ w.cell? ⟨b, o + 8, none⟩ = some (.slice a8 x.fExpr.fArgs.length c8) ∧ Sl lo hi w 7 x.fExpr.fArgs.length (ctE x.fExpr.fArgs) a8 := by
  obtain ⟨u0, hc0, hl0⟩ := h 0 (by decide)
  obtain rfl := lies_lit hl0
  obtain ⟨u1, hc1, hl1⟩ := h 1 (by decide)
  obtain rfl := lies_lit hl1
  obtain ⟨u2, hc2, hl2⟩ := h 2 (by decide)
  obtain rfl := lies_lit hl2
  obtain ⟨u3, hc3, hl3⟩ := h 3 (by decide)
  obtain rfl := lies_lit hl3
  obtain ⟨u4, hc4, hl4⟩ := h 4 (by decide)
  obtain rfl := lies_lit hl4
  obtain ⟨u5, hc5, hl5⟩ := h 5 (by decide)
  obtain rfl := lies_lit hl5
  obtain ⟨u6, hc6, hl6⟩ := h 6 (by decide)
  obtain rfl := lies_lit hl6
  obtain ⟨u7, hc7, hl7⟩ := h 7 (by decide)
  obtain rfl := lies_lit hl7
  obtain ⟨u8, hc8, hl8⟩ := h 8 (by decide)
  obtain ⟨a8, c8, rfl, hs8⟩ := lies_sl hl8
  exact ⟨a8, c8, hc0, hc1, hc2, hc3, hc4, hc5, hc6, hc7, hc8, hs8⟩

theorem opens_equation {H : Type} {enc : TypeId × Value → H} {w : World} (fuel : Nat) : Opens enc Try.prog w 96 9 DEquation.ct DEquation.ok fuel := by
  intro cs x h
  have hl := opens_len Try.underlying96 h
  obtain ⟨y0, k0, q0⟩ := opens_field Try.underlying96 h 0 _ rfl (ft := 91) (o := 0) (n := 2) rfl rfl (fun m _ => opens_occurrence m) (by kernel_rfl)
  obtain ⟨y1, k1, q1⟩ := opens_field Try.underlying96 h 1 _ rfl (ft := 94) (o := 2) (n := 7) rfl rfl (fun m _ => opens_expr m) (by kernel_rfl)
  refine ⟨⟨y0, y1⟩, ⟨k0, k1⟩, hl.trans (by kernel_rfl), fun j hj => ?_⟩
  match j, hj with
  | 0, _ => exact q0 0 (by decide)
  | 1, _ => exact q0 1 (by decide)
  | 2, _ => exact q1 0 (by decide)
  | 3, _ => exact q1 1 (by decide)
  | 4, _ => exact q1 2 (by decide)
  | 5, _ => exact q1 3 (by decide)
  | 6, _ => exact q1 4 (by decide)
  | 7, _ => exact q1 5 (by decide)
  | 8, _ => exact q1 6 (by decide)

open Go.WideElems Go.WideMaps in
set_option maxRecDepth 100000 in
theorem arg_equation {H : Type} {enc : TypeId × Value → H} {W : World} {base : Nat} {v : Value} {d : DataW H} {p : List MemPlace} (hv : Value.okWide Try.prog W .any base 96 v) (h : DataW.Trod enc Try.prog W 0 (fun _ => true) true 96 v d p) :
    ∃ (x : DEquation) (a8 : Option Addr) (c8 : Nat), v = .agg #[.int .i64 x.fAt.fPos, .string x.fAt.fName, .int .i64 x.fExpr.fKind, .int .i64 x.fExpr.fN, .int .i64 x.fExpr.fPos, .int .i64 x.fExpr.fType, .string x.fExpr.fSymbol, .string x.fExpr.fName, .slice a8 x.fExpr.fArgs.length c8] ∧ x.ok ∧ Sl 0 W.heap.size W 7 x.fExpr.fArgs.length (ctE x.fExpr.fArgs) a8 := by
  obtain ⟨cs, rfl, hsz⟩ := okWide_struct Try.underlying96 hv
  obtain ⟨fuel, hf⟩ := h
  obtain ⟨x, hx, hl, hj⟩ := opens_equation fuel _ _ hf
  obtain ⟨l⟩ := cs
  match l, hl, hj with
  | [e0, e1, e2, e3, e4, e5, e6, e7, e8], _, hj =>
    obtain ⟨u0, hu0, hl0⟩ := hj 0 (by decide)
    obtain rfl := lies_lit hl0
    obtain rfl : e0 = _ := Option.some.inj hu0
    obtain ⟨u1, hu1, hl1⟩ := hj 1 (by decide)
    obtain rfl := lies_lit hl1
    obtain rfl : e1 = _ := Option.some.inj hu1
    obtain ⟨u2, hu2, hl2⟩ := hj 2 (by decide)
    obtain rfl := lies_lit hl2
    obtain rfl : e2 = _ := Option.some.inj hu2
    obtain ⟨u3, hu3, hl3⟩ := hj 3 (by decide)
    obtain rfl := lies_lit hl3
    obtain rfl : e3 = _ := Option.some.inj hu3
    obtain ⟨u4, hu4, hl4⟩ := hj 4 (by decide)
    obtain rfl := lies_lit hl4
    obtain rfl : e4 = _ := Option.some.inj hu4
    obtain ⟨u5, hu5, hl5⟩ := hj 5 (by decide)
    obtain rfl := lies_lit hl5
    obtain rfl : e5 = _ := Option.some.inj hu5
    obtain ⟨u6, hu6, hl6⟩ := hj 6 (by decide)
    obtain rfl := lies_lit hl6
    obtain rfl : e6 = _ := Option.some.inj hu6
    obtain ⟨u7, hu7, hl7⟩ := hj 7 (by decide)
    obtain rfl := lies_lit hl7
    obtain rfl : e7 = _ := Option.some.inj hu7
    obtain ⟨u8, hu8, hl8⟩ := hj 8 (by decide)
    obtain ⟨a8, c8, rfl, hs8⟩ := lies_sl hl8
    obtain rfl : e8 = _ := Option.some.inj hu8
    exact ⟨x, a8, c8, rfl, hx, hs8⟩

open Go.WideElems Go.WideMaps in
theorem arg_equationS {H : Type} {enc : TypeId × Value → H} {W : World} {v : Value} {d : DataW H} {p : List MemPlace} {a0 : Option Addr} {len cap : Nat} (hv : v = .slice a0 len cap) (h : DataW.Trod enc Try.prog W 0 (fun _ => true) true 27 v d p) :
    ∃ (l : List DEquation) (a : Option Addr) (cap : Nat), v = .slice a l.length cap ∧ okL DEquation.ok l ∧ Sl 0 W.heap.size W 9 l.length (fun k => DEquation.ct (l.getD k default)) a := by
  subst hv
  obtain ⟨fuel, hf⟩ := h
  obtain ⟨x, hx, hl, hj⟩ := opens_slice Try.underlying27 (e := 96) (n := 9) (by kernel_rfl) (by decide) fuel (fun m _ => opens_equation m) _ _ hf
  obtain ⟨u0, hu0, hl0⟩ := hj 0 (by decide)
  obtain ⟨a, c, rfl, hs⟩ := lies_sl hl0
  exact ⟨x, a, c, Option.some.inj hu0, hx, hs⟩

set_option maxHeartbeats 1600000 in
set_option maxRecDepth 100000 in
theorem laws_szEquation {lo hi : Nat} {a8 : Option Addr} {c8 : Nat} (x : DEquation) (L : Int) (hL0 : 0 ≤ L) (hL1 : L ≤ 1048576) (hx : x.ok) (w : World) (hhi : hi ≤ w.heap.size) (hs8 : Sl lo hi w 7 x.fExpr.fArgs.length (ctE x.fExpr.fArgs) a8) :
    Calls Try.prog 46 #[.agg #[.int .i64 x.fAt.fPos, .string x.fAt.fName, .int .i64 x.fExpr.fKind, .int .i64 x.fExpr.fN, .int .i64 x.fExpr.fPos, .int .i64 x.fExpr.fType, .string x.fExpr.fSymbol, .string x.fExpr.fName, .slice a8 x.fExpr.fArgs.length c8], .int .i64 L] w fun e w' => e = .returned (.int .i64 (szR L x.sz)) ∧ Below w.heap.size w w' := by
  have HS8 := Lib.hid hs8
  clear hs8
  have HX := Lib.hid hx
  clear hx
  have HB0 := Lib.hid ((Below.refl w.heap.size w).alloc (Nat.le_refl _) (.cells #[.int .i64 x.fAt.fPos, .string x.fAt.fName, .int .i64 x.fExpr.fKind, .int .i64 x.fExpr.fN, .int .i64 x.fExpr.fPos, .int .i64 x.fExpr.fType, .string x.fExpr.fSymbol, .string x.fExpr.fName, .slice a8 x.fExpr.fArgs.length c8] 96))
  by_cases h0 : L < ((DOccurrence.sz x.fAt : Nat) : Int)
  · skip
    have hz0 := fun (w' : World) => laws_szOccurrence x.fAt L (by omega) (by omega) HX.out.1 w'
    rw [szR_gt (by omega)] at hz0
    have HZ0 := Lib.hid hz0
    clear hz0
    have fin := Lib.hid (szR_gt (n := x.sz) (L := L) (by unfold DEquation.sz; omega))
    go_enter Try.func46, Try.ntmps46
    go_wp2_with fail
    refine (HZ0.out _).mono ?_
    rintro e w1 ⟨rfl, hb1⟩
    have hsz1 : w.heap.size < w1.heap.size := Nat.lt_of_lt_of_le (by first | omega | (simp; done) | (simp; omega)) hb1.size
    have HB1 := Lib.hid (HB0.out.trans (hb1.mono HB0.out.size))
    clear hb1
    go_wp2
    go_ret
    exact ⟨ret_i (by rw [fin.out]), HB1.out⟩
  · skip
    by_cases h1 : (L - (DOccurrence.sz x.fAt : Nat)) < ((DExpr.sz x.fExpr : Nat) : Int)
    · skip
      have hz0 := fun (w' : World) => laws_szOccurrence x.fAt L (by omega) (by omega) HX.out.1 w'
      rw [szR_le (by omega)] at hz0
      have HZ0 := Lib.hid hz0
      clear hz0
      have hz1 := fun (w' : World) (hhi : hi ≤ w'.heap.size) (hs8 : Sl lo hi w' 7 x.fExpr.fArgs.length (ctE x.fExpr.fArgs) a8) => laws_szExpr (c6 := c8) x.fExpr (L - (DOccurrence.sz x.fAt : Nat)) (by omega) (by omega) HX.out.2 w' hhi hs8
      rw [szR_gt (by omega)] at hz1
      have HZ1 := Lib.hid hz1
      clear hz1
      have fin := Lib.hid (szR_gt (n := x.sz) (L := L) (by unfold DEquation.sz; omega))
      go_enter Try.func46, Try.ntmps46
      go_wp2_with fail
      refine (HZ0.out _).mono ?_
      rintro e w1 ⟨rfl, hb1⟩
      have hsz1 : w.heap.size < w1.heap.size := Nat.lt_of_lt_of_le (by first | omega | (simp; done) | (simp; omega)) hb1.size
      have x1_0_2 : w1.cell? ⟨w.heap.size, 2, none⟩ = some (.int .i64 x.fExpr.fKind) := (hb1.cell (p := ⟨w.heap.size, 2, none⟩) (by first | omega | (simp; done) | (simp; omega) | (simp [World.setCell]; omega))).trans (by go_simp)
      have x1_0_3 : w1.cell? ⟨w.heap.size, 3, none⟩ = some (.int .i64 x.fExpr.fN) := (hb1.cell (p := ⟨w.heap.size, 3, none⟩) (by first | omega | (simp; done) | (simp; omega) | (simp [World.setCell]; omega))).trans (by go_simp)
      have x1_0_4 : w1.cell? ⟨w.heap.size, 4, none⟩ = some (.int .i64 x.fExpr.fPos) := (hb1.cell (p := ⟨w.heap.size, 4, none⟩) (by first | omega | (simp; done) | (simp; omega) | (simp [World.setCell]; omega))).trans (by go_simp)
      have x1_0_5 : w1.cell? ⟨w.heap.size, 5, none⟩ = some (.int .i64 x.fExpr.fType) := (hb1.cell (p := ⟨w.heap.size, 5, none⟩) (by first | omega | (simp; done) | (simp; omega) | (simp [World.setCell]; omega))).trans (by go_simp)
      have x1_0_6 : w1.cell? ⟨w.heap.size, 6, none⟩ = some (.string x.fExpr.fSymbol) := (hb1.cell (p := ⟨w.heap.size, 6, none⟩) (by first | omega | (simp; done) | (simp; omega) | (simp [World.setCell]; omega))).trans (by go_simp)
      have x1_0_7 : w1.cell? ⟨w.heap.size, 7, none⟩ = some (.string x.fExpr.fName) := (hb1.cell (p := ⟨w.heap.size, 7, none⟩) (by first | omega | (simp; done) | (simp; omega) | (simp [World.setCell]; omega))).trans (by go_simp)
      have x1_0_8 : w1.cell? ⟨w.heap.size, 8, none⟩ = some (.slice a8 x.fExpr.fArgs.length c8) := (hb1.cell (p := ⟨w.heap.size, 8, none⟩) (by first | omega | (simp; done) | (simp; omega) | (simp [World.setCell]; omega))).trans (by go_simp)
      have HB1 := Lib.hid (HB0.out.trans (hb1.mono HB0.out.size))
      clear hb1
      go_wp2_with fail
      refine (HZ1.out _ (Nat.le_trans hhi HB1.out.size) (HS8.out.later HB1.out hhi)).mono ?_
      rintro e w2 ⟨rfl, hb2⟩
      have hsz2 : w.heap.size < w2.heap.size := Nat.lt_of_lt_of_le (by first | omega | (simp; done) | (simp; omega)) hb2.size
      have HB2 := Lib.hid (HB1.out.trans (hb2.mono HB1.out.size))
      clear hb2
      go_wp2
      go_ret
      exact ⟨ret_i (by rw [fin.out]), HB2.out⟩
    · skip
      have hz0 := fun (w' : World) => laws_szOccurrence x.fAt L (by omega) (by omega) HX.out.1 w'
      rw [szR_le (by omega)] at hz0
      have HZ0 := Lib.hid hz0
      clear hz0
      have hz1 := fun (w' : World) (hhi : hi ≤ w'.heap.size) (hs8 : Sl lo hi w' 7 x.fExpr.fArgs.length (ctE x.fExpr.fArgs) a8) => laws_szExpr (c6 := c8) x.fExpr (L - (DOccurrence.sz x.fAt : Nat)) (by omega) (by omega) HX.out.2 w' hhi hs8
      rw [szR_le (by omega)] at hz1
      have HZ1 := Lib.hid hz1
      clear hz1
      have fin := Lib.hid (szR_le (n := x.sz) (L := L) (by unfold DEquation.sz; omega))
      go_enter Try.func46, Try.ntmps46
      go_wp2_with fail
      refine (HZ0.out _).mono ?_
      rintro e w1 ⟨rfl, hb1⟩
      have hsz1 : w.heap.size < w1.heap.size := Nat.lt_of_lt_of_le (by first | omega | (simp; done) | (simp; omega)) hb1.size
      have x1_0_2 : w1.cell? ⟨w.heap.size, 2, none⟩ = some (.int .i64 x.fExpr.fKind) := (hb1.cell (p := ⟨w.heap.size, 2, none⟩) (by first | omega | (simp; done) | (simp; omega) | (simp [World.setCell]; omega))).trans (by go_simp)
      have x1_0_3 : w1.cell? ⟨w.heap.size, 3, none⟩ = some (.int .i64 x.fExpr.fN) := (hb1.cell (p := ⟨w.heap.size, 3, none⟩) (by first | omega | (simp; done) | (simp; omega) | (simp [World.setCell]; omega))).trans (by go_simp)
      have x1_0_4 : w1.cell? ⟨w.heap.size, 4, none⟩ = some (.int .i64 x.fExpr.fPos) := (hb1.cell (p := ⟨w.heap.size, 4, none⟩) (by first | omega | (simp; done) | (simp; omega) | (simp [World.setCell]; omega))).trans (by go_simp)
      have x1_0_5 : w1.cell? ⟨w.heap.size, 5, none⟩ = some (.int .i64 x.fExpr.fType) := (hb1.cell (p := ⟨w.heap.size, 5, none⟩) (by first | omega | (simp; done) | (simp; omega) | (simp [World.setCell]; omega))).trans (by go_simp)
      have x1_0_6 : w1.cell? ⟨w.heap.size, 6, none⟩ = some (.string x.fExpr.fSymbol) := (hb1.cell (p := ⟨w.heap.size, 6, none⟩) (by first | omega | (simp; done) | (simp; omega) | (simp [World.setCell]; omega))).trans (by go_simp)
      have x1_0_7 : w1.cell? ⟨w.heap.size, 7, none⟩ = some (.string x.fExpr.fName) := (hb1.cell (p := ⟨w.heap.size, 7, none⟩) (by first | omega | (simp; done) | (simp; omega) | (simp [World.setCell]; omega))).trans (by go_simp)
      have x1_0_8 : w1.cell? ⟨w.heap.size, 8, none⟩ = some (.slice a8 x.fExpr.fArgs.length c8) := (hb1.cell (p := ⟨w.heap.size, 8, none⟩) (by first | omega | (simp; done) | (simp; omega) | (simp [World.setCell]; omega))).trans (by go_simp)
      have HB1 := Lib.hid (HB0.out.trans (hb1.mono HB0.out.size))
      clear hb1
      go_wp2_with fail
      refine (HZ1.out _ (Nat.le_trans hhi HB1.out.size) (HS8.out.later HB1.out hhi)).mono ?_
      rintro e w2 ⟨rfl, hb2⟩
      have hsz2 : w.heap.size < w2.heap.size := Nat.lt_of_lt_of_le (by first | omega | (simp; done) | (simp; omega)) hb2.size
      have HB2 := Lib.hid (HB1.out.trans (hb2.mono HB1.out.size))
      clear hb2
      go_wp2
      go_ret
      exact ⟨ret_i (by rw [fin.out]; unfold DEquation.sz; omega), HB2.out⟩

set_option maxHeartbeats 1600000 in
set_option maxRecDepth 100000 in
theorem laws_szEquationS {lo hi : Nat} {a : Option Addr} {cap : Nat} (l : List DEquation) (L : Int) (hL0 : 0 ≤ L) (hL1 : L ≤ 1048576) (hok : okL DEquation.ok l) (w : World) (hhi : hi ≤ w.heap.size) (hs : Sl lo hi w 9 l.length (fun k => DEquation.ct (l.getD k default)) a) :
    Calls Try.prog 20 #[.slice a l.length cap, .int .i64 L] w fun e w' => e = .returned (.int .i64 (szR L (lsz DEquation.sz l))) ∧ Below w.heap.size w w' := by
  have HS := Lib.hid hs
  have HK := Lib.hid hok
  have hn : l.length ≤ 9223372036854775807 := hok.1
  clear hs hok
  by_cases hlong : L < ((l.length : Nat) : Int)
  · have fin := Lib.hid (szR_gt (n := lsz DEquation.sz l) (L := L) (by unfold lsz; omega))
    go_enter Try.func20, Try.ntmps20
    go_wp2
    go_ret
    exact ⟨ret_i fin.out.symm, Below.refl _ _⟩
  · go_enter Try.func20, Try.ntmps20
    go_wp2
    go_loopw [1, 5] (fun q i wr => ∃ k : Nat, k ≤ l.length ∧ i = .int .i64 (k : Int) ∧ q = .int .i64 (L - l.length - psz DEquation.sz l k) ∧ (l.length : Int) + psz DEquation.sz l k ≤ L ∧ Below w.heap.size w wr) (fun _ i _ => l.length - (intOf i).toNat)
    case atStart => exact ⟨0, Nat.zero_le _, rfl, by rw [psz_zero]; go_num, by rw [psz_zero]; omega, Below.refl _ _⟩
    case round =>
      obtain ⟨k, hk, rfl, rfl, hle, hb⟩ := hrel
      have HB := Lib.hid hb
      by_cases hlt : k < l.length
      · have hsu := Lib.hid (psz_succ DEquation.sz l k hlt)
        have hle2 := Lib.hid (psz_le DEquation.sz l (k + 1))
        have hokk := HK.out.at hlt
        have hhr : hi ≤ wr.heap.size := Nat.le_trans hhi hb.size
        obtain ⟨b, off, rfl, hlo, hhi', hc⟩ := (HS.out.later (hb.mono hhi) (Nat.le_refl _)).at k hlt
        clear hb
        obtain ⟨a8, c8, hc0_, hc1_, hc2_, hc3_, hc4_, hc5_, hc6_, hc7_, hc8_, hs8⟩ := DEquation.open hc
        clear hc
        generalize l.getD k default = x at *
        generalize psz DEquation.sz l k = S at *
        have hZ := laws_szEquation (c8 := c8) x (L - l.length - S) (by omega) (by omega) hokk wr hhr hs8
        by_cases hf : ((x.sz : Nat) : Int) ≤ L - l.length - S
        · rw [szR_le hf] at hZ
          have HZ := Lib.hid hZ
          clear hZ hokk hs8
          go_wp2_with fail
          refine HZ.out.mono ?_
          rintro e w1 ⟨rfl, hb1⟩
          have HB1 := Lib.hid hb1
          clear hb1
          go_wp2
          go_roundw
          case rel => exact ⟨k + 1, by omega, by go_num, by rw [hsu.out]; go_num, by rw [hsu.out]; omega, HB.out.trans (HB1.out.mono HB.out.size)⟩
          case measure => simp [intOf]; omega
        · have fin := Lib.hid (szR_gt (n := lsz DEquation.sz l) (L := L) (by have h1 := hsu.out; have h2 := hle2.out; omega))
          rw [szR_gt (by omega)] at hZ
          have HZ := Lib.hid hZ
          clear hZ hokk hs8
          go_wp2_with fail
          refine HZ.out.mono ?_
          rintro e w1 ⟨rfl, hb1⟩
          have HB1 := Lib.hid hb1
          clear hb1
          go_wp2
          go_ret
          exact ⟨ret_i fin.out.symm, HB.out.trans (HB1.out.mono HB.out.size)⟩
      · obtain rfl : k = l.length := by omega
        have fin := Lib.hid (szR_le (n := lsz DEquation.sz l) (L := L) (by unfold lsz; rw [psz_all] at hle; omega))
        have fin2 := Lib.hid (psz_all DEquation.sz l)
        go_wp2
        go_ret
        exact ⟨ret_i (by rw [fin.out, fin2.out]; unfold lsz; omega), HB.out⟩

set_option maxHeartbeats 6400000 in
set_option maxRecDepth 100000 in
theorem laws_toEquation {lo hi : Nat} {a8 : Option Addr} {c8 : Nat} (x : DEquation) (hsz : x.sz ≤ 1048576) (w : World) (hhi : hi ≤ w.heap.size) (hs8 : Sl lo hi w 7 x.fExpr.fArgs.length (ctE x.fExpr.fArgs) a8) :
    Calls Try.prog 52 #[.agg #[.int .i64 x.fAt.fPos, .string x.fAt.fName, .int .i64 x.fExpr.fKind, .int .i64 x.fExpr.fN, .int .i64 x.fExpr.fPos, .int .i64 x.fExpr.fType, .string x.fExpr.fSymbol, .string x.fExpr.fName, .slice a8 x.fExpr.fArgs.length c8]] w fun e w' => ∃ a8r c8r, e = .returned (.agg #[.int .i64 x.fAt.fPos, .string x.fAt.fName, .int .i64 x.fExpr.fKind, .int .i64 x.fExpr.fN, .int .i64 x.fExpr.fPos, .int .i64 x.fExpr.fType, .string x.fExpr.fSymbol, .string x.fExpr.fName, .slice a8r x.fExpr.fArgs.length c8r]) ∧ OwnR w' (fun y => w.heap.size ≤ y ∧ y < w'.heap.size) 9 x.ct (fun j => [.int .i64 x.fAt.fPos, .string x.fAt.fName, .int .i64 x.fExpr.fKind, .int .i64 x.fExpr.fN, .int .i64 x.fExpr.fPos, .int .i64 x.fExpr.fType, .string x.fExpr.fSymbol, .string x.fExpr.fName, .slice a8r x.fExpr.fArgs.length c8r].getD j .nilFunc) ∧ Below w.heap.size w w' := by
  have HS8 := Lib.hid hs8
  clear hs8
  have HW := Lib.hid hsz
  clear hsz
  have HB0 := Lib.hid (((((Below.refl w.heap.size w).alloc (Nat.le_refl _) (.cells #[.int .i64 x.fAt.fPos, .string x.fAt.fName, .int .i64 x.fExpr.fKind, .int .i64 x.fExpr.fN, .int .i64 x.fExpr.fPos, .int .i64 x.fExpr.fType, .string x.fExpr.fSymbol, .string x.fExpr.fName, .slice a8 x.fExpr.fArgs.length c8] 96)).alloc (by simp <;> omega) (.cells #[.int .i64 0, .string ⟨#[]⟩, .int .i64 0, .int .i64 0, .int .i64 0, .int .i64 0, .string ⟨#[]⟩, .string ⟨#[]⟩, .slice none 0 0] 108))).alloc (by simp <;> omega) (.cells #[.int .i64 0, .string ⟨#[]⟩, .int .i64 0, .int .i64 0, .int .i64 0, .int .i64 0, .string ⟨#[]⟩, .string ⟨#[]⟩, .slice none 0 0] 108))
  have HSZ0 := Lib.hid (show w.heap.size + 2 < (((w.alloc (.cells #[.int .i64 x.fAt.fPos, .string x.fAt.fName, .int .i64 x.fExpr.fKind, .int .i64 x.fExpr.fN, .int .i64 x.fExpr.fPos, .int .i64 x.fExpr.fType, .string x.fExpr.fSymbol, .string x.fExpr.fName, .slice a8 x.fExpr.fArgs.length c8] 96)).alloc (.cells #[.int .i64 0, .string ⟨#[]⟩, .int .i64 0, .int .i64 0, .int .i64 0, .int .i64 0, .string ⟨#[]⟩, .string ⟨#[]⟩, .slice none 0 0] 108)).alloc (.cells #[.int .i64 0, .string ⟨#[]⟩, .int .i64 0, .int .i64 0, .int .i64 0, .int .i64 0, .string ⟨#[]⟩, .string ⟨#[]⟩, .slice none 0 0] 108)).heap.size by simp)
  have ht0 := fun (w' : World) => laws_toOccurrence x.fAt w'
  have HT0 := Lib.hid ht0
  clear ht0
  have ht1 := fun (w' : World) (hhi : hi ≤ w'.heap.size) (hs8 : Sl lo hi w' 7 x.fExpr.fArgs.length (ctE x.fExpr.fArgs) a8) => laws_toExpr (c6 := c8) x.fExpr (by have h := HW.out; unfold DEquation.sz at h; omega) w' hhi hs8
  have HT1 := Lib.hid ht1
  clear ht1
  go_enter Try.func52, Try.ntmps52
  go_wp2_with fail
  refine (HT0.out _).mono ?_
  rintro e w1 ⟨rfl, hb1⟩
  have hsz1 : w.heap.size + 2 < w1.heap.size := Nat.lt_of_lt_of_le (by have h := HSZ0.out; first | (with_reducible exact h) | (simp; done) | (simp; omega) | (simp [World.setCell]; omega)) hb1.size
  have hlo1 : w.heap.size + 3 ≤ w1.heap.size := Nat.le_trans (by first | (with_reducible exact Nat.le_refl _) | (simp; done) | (simp; omega) | (simp [World.setCell]; omega)) hb1.size
  have hbw1 : Below w.heap.size w w1 := Below.trans ((by repeat (first | (with_reducible exact HB0.out) | (with_reducible exact Below.refl _ _) | (refine Below.setCell ?_ (by simp <;> omega) _) | (refine Below.alloc ?_ (by simp <;> omega) _)) : Below w.heap.size w _)) (hb1.mono (Below.size ((by repeat (first | (with_reducible exact HB0.out) | (with_reducible exact Below.refl _ _) | (refine Below.setCell ?_ (by simp <;> omega) _) | (refine Below.alloc ?_ (by simp <;> omega) _)) : Below w.heap.size w _))))
  have HP1 := Lib.hid (show w1.heap[w.heap.size]? = some (.cells #[.int .i64 x.fAt.fPos, .string x.fAt.fName, .int .i64 x.fExpr.fKind, .int .i64 x.fExpr.fN, .int .i64 x.fExpr.fPos, .int .i64 x.fExpr.fType, .string x.fExpr.fSymbol, .string x.fExpr.fName, .slice a8 x.fExpr.fArgs.length c8] 96) from (hb1.block _ (by have h9 := HSZ0.out; first | (simp; done) | (simp; omega) | (simp at h9 ⊢; omega))).trans (by (repeat (refine blk_other (by simp <;> omega) ?_)); exact blk_alloc (by simp <;> omega) (blk_alloc (by simp) (blk_new (by simp)))))
  have HG1 := Lib.hid (show w1.heap[w.heap.size + 1]? = some (.cells #[.int .i64 0, .string ⟨#[]⟩, .int .i64 0, .int .i64 0, .int .i64 0, .int .i64 0, .string ⟨#[]⟩, .string ⟨#[]⟩, .slice none 0 0] 108) from (hb1.block _ (by have h9 := HSZ0.out; first | (simp; done) | (simp; omega) | (simp at h9 ⊢; omega))).trans (by (repeat (refine blk_other (by simp <;> omega) ?_)); exact blk_alloc (by simp) (blk_new (by simp))))
  have HK1 := Lib.hid (show w1.heap[w.heap.size + 2]? = some (.cells #[.int .i64 0, .string ⟨#[]⟩, .int .i64 0, .int .i64 0, .int .i64 0, .int .i64 0, .string ⟨#[]⟩, .string ⟨#[]⟩, .slice none 0 0] 108) from (hb1.block _ (by have h9 := HSZ0.out; first | (simp; done) | (simp; omega) | (simp at h9 ⊢; omega))).trans (by first | exact blk_new (by simp) | (exact blk_new (by simp))))
  have x1_0_2 : w1.cell? ⟨w.heap.size, 2, none⟩ = some (.int .i64 x.fExpr.fKind) := (cell_of_row _ _ _ _ _ _ HP1.out).trans rfl
  have x1_0_3 : w1.cell? ⟨w.heap.size, 3, none⟩ = some (.int .i64 x.fExpr.fN) := (cell_of_row _ _ _ _ _ _ HP1.out).trans rfl
  have x1_0_4 : w1.cell? ⟨w.heap.size, 4, none⟩ = some (.int .i64 x.fExpr.fPos) := (cell_of_row _ _ _ _ _ _ HP1.out).trans rfl
  have x1_0_5 : w1.cell? ⟨w.heap.size, 5, none⟩ = some (.int .i64 x.fExpr.fType) := (cell_of_row _ _ _ _ _ _ HP1.out).trans rfl
  have x1_0_6 : w1.cell? ⟨w.heap.size, 6, none⟩ = some (.string x.fExpr.fSymbol) := (cell_of_row _ _ _ _ _ _ HP1.out).trans rfl
  have x1_0_7 : w1.cell? ⟨w.heap.size, 7, none⟩ = some (.string x.fExpr.fName) := (cell_of_row _ _ _ _ _ _ HP1.out).trans rfl
  have x1_0_8 : w1.cell? ⟨w.heap.size, 8, none⟩ = some (.slice a8 x.fExpr.fArgs.length c8) := (cell_of_row _ _ _ _ _ _ HP1.out).trans rfl
  have x1_2_0 : w1.cell? ⟨w.heap.size + 2, 0, none⟩ = some (.int .i64 0) := (cell_of_row _ _ _ _ _ _ HK1.out).trans rfl
  have z1_2_0 : w1.frozen? ⟨w.heap.size + 2, 0, none⟩ = false := frozen_of_row _ _ _ _ _ HK1.out
  have x1_2_1 : w1.cell? ⟨w.heap.size + 2, 1, none⟩ = some (.string ⟨#[]⟩) := (cell_of_row _ _ _ _ _ _ HK1.out).trans rfl
  have z1_2_1 : w1.frozen? ⟨w.heap.size + 2, 1, none⟩ = false := frozen_of_row _ _ _ _ _ HK1.out
  have x1_2_2 : w1.cell? ⟨w.heap.size + 2, 2, none⟩ = some (.int .i64 0) := (cell_of_row _ _ _ _ _ _ HK1.out).trans rfl
  have z1_2_2 : w1.frozen? ⟨w.heap.size + 2, 2, none⟩ = false := frozen_of_row _ _ _ _ _ HK1.out
  have x1_2_3 : w1.cell? ⟨w.heap.size + 2, 3, none⟩ = some (.int .i64 0) := (cell_of_row _ _ _ _ _ _ HK1.out).trans rfl
  have z1_2_3 : w1.frozen? ⟨w.heap.size + 2, 3, none⟩ = false := frozen_of_row _ _ _ _ _ HK1.out
  have x1_2_4 : w1.cell? ⟨w.heap.size + 2, 4, none⟩ = some (.int .i64 0) := (cell_of_row _ _ _ _ _ _ HK1.out).trans rfl
  have z1_2_4 : w1.frozen? ⟨w.heap.size + 2, 4, none⟩ = false := frozen_of_row _ _ _ _ _ HK1.out
  have x1_2_5 : w1.cell? ⟨w.heap.size + 2, 5, none⟩ = some (.int .i64 0) := (cell_of_row _ _ _ _ _ _ HK1.out).trans rfl
  have z1_2_5 : w1.frozen? ⟨w.heap.size + 2, 5, none⟩ = false := frozen_of_row _ _ _ _ _ HK1.out
  have x1_2_6 : w1.cell? ⟨w.heap.size + 2, 6, none⟩ = some (.string ⟨#[]⟩) := (cell_of_row _ _ _ _ _ _ HK1.out).trans rfl
  have z1_2_6 : w1.frozen? ⟨w.heap.size + 2, 6, none⟩ = false := frozen_of_row _ _ _ _ _ HK1.out
  have x1_2_7 : w1.cell? ⟨w.heap.size + 2, 7, none⟩ = some (.string ⟨#[]⟩) := (cell_of_row _ _ _ _ _ _ HK1.out).trans rfl
  have z1_2_7 : w1.frozen? ⟨w.heap.size + 2, 7, none⟩ = false := frozen_of_row _ _ _ _ _ HK1.out
  have x1_2_8 : w1.cell? ⟨w.heap.size + 2, 8, none⟩ = some (.slice none 0 0) := (cell_of_row _ _ _ _ _ _ HK1.out).trans rfl
  have z1_2_8 : w1.frozen? ⟨w.heap.size + 2, 8, none⟩ = false := frozen_of_row _ _ _ _ _ HK1.out
  have HB1 := Lib.hid hbw1
  have HSZ1 := Lib.hid hsz1
  have HLO1 := Lib.hid hlo1
  clear hb1 hbw1 hsz1 hlo1
  go_wp2_with fail
  refine (HT1.out _ (Nat.le_trans hhi (Below.size ((by repeat (first | (with_reducible exact HB1.out) | (with_reducible exact Below.refl _ _) | (refine Below.setCell ?_ (by simp <;> omega) _) | (refine Below.alloc ?_ (by simp <;> omega) _)) : Below w.heap.size w _)))) (HS8.out.later ((by repeat (first | (with_reducible exact HB1.out) | (with_reducible exact Below.refl _ _) | (refine Below.setCell ?_ (by simp <;> omega) _) | (refine Below.alloc ?_ (by simp <;> omega) _)) : Below w.heap.size w _)) hhi)).mono ?_
  rintro e w2 ⟨a8r, c8r, rfl, ho2, hb2⟩
  have hsz2 : w.heap.size + 2 < w2.heap.size := Nat.lt_of_lt_of_le (by have h := HSZ1.out; first | (with_reducible exact h) | (simp; done) | (simp; omega) | (simp [World.setCell]; omega)) hb2.size
  have hlo2 : w1.heap.size ≤ w2.heap.size := Nat.le_trans (by first | (with_reducible exact Nat.le_refl _) | (simp; done) | (simp; omega) | (simp [World.setCell]; omega)) hb2.size
  have hbw2 : Below w.heap.size w w2 := Below.trans ((by repeat (first | (with_reducible exact HB1.out) | (with_reducible exact Below.refl _ _) | (refine Below.setCell ?_ (by simp <;> omega) _) | (refine Below.alloc ?_ (by simp <;> omega) _)) : Below w.heap.size w _)) (hb2.mono (Below.size ((by repeat (first | (with_reducible exact HB1.out) | (with_reducible exact Below.refl _ _) | (refine Below.setCell ?_ (by simp <;> omega) _) | (refine Below.alloc ?_ (by simp <;> omega) _)) : Below w.heap.size w _))))
  have HO2_2 := Lib.hid (ho2.sub (F' := fun y => w1.heap.size ≤ y ∧ y < w2.heap.size) (fun y hy => ⟨Nat.le_trans (by first | (with_reducible exact Nat.le_refl _) | (simp; done) | (simp; omega) | (simp [World.setCell]; done) | (simp [World.setCell]; omega)) hy.1, hy.2⟩))
  clear ho2
  have HP2 := Lib.hid (show w2.heap[w.heap.size]? = some (.cells #[.int .i64 x.fAt.fPos, .string x.fAt.fName, .int .i64 x.fExpr.fKind, .int .i64 x.fExpr.fN, .int .i64 x.fExpr.fPos, .int .i64 x.fExpr.fType, .string x.fExpr.fSymbol, .string x.fExpr.fName, .slice a8 x.fExpr.fArgs.length c8] 96) from (hb2.block _ (by have h9 := HSZ1.out; first | (simp; done) | (simp; omega) | (simp at h9 ⊢; omega))).trans (by repeat (first | (with_reducible exact HP1.out) | (refine blk_other (by simp <;> omega) ?_))))
  have HG2 := Lib.hid (show w2.heap[w.heap.size + 1]? = some (.cells #[.int .i64 0, .string ⟨#[]⟩, .int .i64 0, .int .i64 0, .int .i64 0, .int .i64 0, .string ⟨#[]⟩, .string ⟨#[]⟩, .slice none 0 0] 108) from (hb2.block _ (by have h9 := HSZ1.out; first | (simp; done) | (simp; omega) | (simp at h9 ⊢; omega))).trans (by repeat (first | (with_reducible exact HG1.out) | (refine blk_other (by simp <;> omega) ?_))))
  have HK2 := Lib.hid (show w2.heap[w.heap.size + 2]? = some (.cells #[.int .i64 x.fAt.fPos, .string x.fAt.fName, .int .i64 0, .int .i64 0, .int .i64 0, .int .i64 0, .string ⟨#[]⟩, .string ⟨#[]⟩, .slice none 0 0] 108) from (hb2.block _ (by have h9 := HSZ1.out; first | (simp; done) | (simp; omega) | (simp at h9 ⊢; omega))).trans (by refine Eq.trans (blk_set (cs := #[.int .i64 x.fAt.fPos, .string ⟨#[]⟩, .int .i64 0, .int .i64 0, .int .i64 0, .int .i64 0, .string ⟨#[]⟩, .string ⟨#[]⟩, .slice none 0 0]) (t := 108) (fr := (0, 0)) ?_) rfl; refine Eq.trans (blk_set (cs := #[.int .i64 0, .string ⟨#[]⟩, .int .i64 0, .int .i64 0, .int .i64 0, .int .i64 0, .string ⟨#[]⟩, .string ⟨#[]⟩, .slice none 0 0]) (t := 108) (fr := (0, 0)) ?_) rfl; exact HK1.out))
  clear HP1 HG1 HK1
  have x2_2_0 : w2.cell? ⟨w.heap.size + 2, 0, none⟩ = some (.int .i64 x.fAt.fPos) := (cell_of_row _ _ _ _ _ _ HK2.out).trans rfl
  have z2_2_0 : w2.frozen? ⟨w.heap.size + 2, 0, none⟩ = false := frozen_of_row _ _ _ _ _ HK2.out
  have x2_2_1 : w2.cell? ⟨w.heap.size + 2, 1, none⟩ = some (.string x.fAt.fName) := (cell_of_row _ _ _ _ _ _ HK2.out).trans rfl
  have z2_2_1 : w2.frozen? ⟨w.heap.size + 2, 1, none⟩ = false := frozen_of_row _ _ _ _ _ HK2.out
  have x2_2_2 : w2.cell? ⟨w.heap.size + 2, 2, none⟩ = some (.int .i64 0) := (cell_of_row _ _ _ _ _ _ HK2.out).trans rfl
  have z2_2_2 : w2.frozen? ⟨w.heap.size + 2, 2, none⟩ = false := frozen_of_row _ _ _ _ _ HK2.out
  have x2_2_3 : w2.cell? ⟨w.heap.size + 2, 3, none⟩ = some (.int .i64 0) := (cell_of_row _ _ _ _ _ _ HK2.out).trans rfl
  have z2_2_3 : w2.frozen? ⟨w.heap.size + 2, 3, none⟩ = false := frozen_of_row _ _ _ _ _ HK2.out
  have x2_2_4 : w2.cell? ⟨w.heap.size + 2, 4, none⟩ = some (.int .i64 0) := (cell_of_row _ _ _ _ _ _ HK2.out).trans rfl
  have z2_2_4 : w2.frozen? ⟨w.heap.size + 2, 4, none⟩ = false := frozen_of_row _ _ _ _ _ HK2.out
  have x2_2_5 : w2.cell? ⟨w.heap.size + 2, 5, none⟩ = some (.int .i64 0) := (cell_of_row _ _ _ _ _ _ HK2.out).trans rfl
  have z2_2_5 : w2.frozen? ⟨w.heap.size + 2, 5, none⟩ = false := frozen_of_row _ _ _ _ _ HK2.out
  have x2_2_6 : w2.cell? ⟨w.heap.size + 2, 6, none⟩ = some (.string ⟨#[]⟩) := (cell_of_row _ _ _ _ _ _ HK2.out).trans rfl
  have z2_2_6 : w2.frozen? ⟨w.heap.size + 2, 6, none⟩ = false := frozen_of_row _ _ _ _ _ HK2.out
  have x2_2_7 : w2.cell? ⟨w.heap.size + 2, 7, none⟩ = some (.string ⟨#[]⟩) := (cell_of_row _ _ _ _ _ _ HK2.out).trans rfl
  have z2_2_7 : w2.frozen? ⟨w.heap.size + 2, 7, none⟩ = false := frozen_of_row _ _ _ _ _ HK2.out
  have x2_2_8 : w2.cell? ⟨w.heap.size + 2, 8, none⟩ = some (.slice none 0 0) := (cell_of_row _ _ _ _ _ _ HK2.out).trans rfl
  have z2_2_8 : w2.frozen? ⟨w.heap.size + 2, 8, none⟩ = false := frozen_of_row _ _ _ _ _ HK2.out
  have x2_1_0 : w2.cell? ⟨w.heap.size + 1, 0, none⟩ = some (.int .i64 0) := (cell_of_row _ _ _ _ _ _ HG2.out).trans rfl
  have z2_1_0 : w2.frozen? ⟨w.heap.size + 1, 0, none⟩ = false := frozen_of_row _ _ _ _ _ HG2.out
  have x2_1_1 : w2.cell? ⟨w.heap.size + 1, 1, none⟩ = some (.string ⟨#[]⟩) := (cell_of_row _ _ _ _ _ _ HG2.out).trans rfl
  have z2_1_1 : w2.frozen? ⟨w.heap.size + 1, 1, none⟩ = false := frozen_of_row _ _ _ _ _ HG2.out
  have x2_1_2 : w2.cell? ⟨w.heap.size + 1, 2, none⟩ = some (.int .i64 0) := (cell_of_row _ _ _ _ _ _ HG2.out).trans rfl
  have z2_1_2 : w2.frozen? ⟨w.heap.size + 1, 2, none⟩ = false := frozen_of_row _ _ _ _ _ HG2.out
  have x2_1_3 : w2.cell? ⟨w.heap.size + 1, 3, none⟩ = some (.int .i64 0) := (cell_of_row _ _ _ _ _ _ HG2.out).trans rfl
  have z2_1_3 : w2.frozen? ⟨w.heap.size + 1, 3, none⟩ = false := frozen_of_row _ _ _ _ _ HG2.out
  have x2_1_4 : w2.cell? ⟨w.heap.size + 1, 4, none⟩ = some (.int .i64 0) := (cell_of_row _ _ _ _ _ _ HG2.out).trans rfl
  have z2_1_4 : w2.frozen? ⟨w.heap.size + 1, 4, none⟩ = false := frozen_of_row _ _ _ _ _ HG2.out
  have x2_1_5 : w2.cell? ⟨w.heap.size + 1, 5, none⟩ = some (.int .i64 0) := (cell_of_row _ _ _ _ _ _ HG2.out).trans rfl
  have z2_1_5 : w2.frozen? ⟨w.heap.size + 1, 5, none⟩ = false := frozen_of_row _ _ _ _ _ HG2.out
  have x2_1_6 : w2.cell? ⟨w.heap.size + 1, 6, none⟩ = some (.string ⟨#[]⟩) := (cell_of_row _ _ _ _ _ _ HG2.out).trans rfl
  have z2_1_6 : w2.frozen? ⟨w.heap.size + 1, 6, none⟩ = false := frozen_of_row _ _ _ _ _ HG2.out
  have x2_1_7 : w2.cell? ⟨w.heap.size + 1, 7, none⟩ = some (.string ⟨#[]⟩) := (cell_of_row _ _ _ _ _ _ HG2.out).trans rfl
  have z2_1_7 : w2.frozen? ⟨w.heap.size + 1, 7, none⟩ = false := frozen_of_row _ _ _ _ _ HG2.out
  have x2_1_8 : w2.cell? ⟨w.heap.size + 1, 8, none⟩ = some (.slice none 0 0) := (cell_of_row _ _ _ _ _ _ HG2.out).trans rfl
  have z2_1_8 : w2.frozen? ⟨w.heap.size + 1, 8, none⟩ = false := frozen_of_row _ _ _ _ _ HG2.out
  have HB2 := Lib.hid hbw2
  have HSZ2 := Lib.hid hsz2
  have HLO2 := Lib.hid hlo2
  clear hb2 hbw2 hsz2 hlo2
  clear x1_0_2 x1_0_3 x1_0_4 x1_0_5 x1_0_6 x1_0_7 x1_0_8 x1_2_0 x1_2_1 x1_2_2 x1_2_3 x1_2_4 x1_2_5 x1_2_6 x1_2_7 x1_2_8 z1_2_0 z1_2_1 z1_2_2 z1_2_3 z1_2_4 z1_2_5 z1_2_6 z1_2_7 z1_2_8
  go_wp2
  refine bodyPost_ret (v := .agg #[.int .i64 x.fAt.fPos, .string x.fAt.fName, .int .i64 x.fExpr.fKind, .int .i64 x.fExpr.fN, .int .i64 x.fExpr.fPos, .int .i64 x.fExpr.fType, .string x.fExpr.fSymbol, .string x.fExpr.fName, .slice a8r x.fExpr.fArgs.length c8r]) (results_cell_row Try.results52 _ _ (w.heap.size + 1) 108 #[.int .i64 x.fAt.fPos, .string x.fAt.fName, .int .i64 x.fExpr.fKind, .int .i64 x.fExpr.fN, .int .i64 x.fExpr.fPos, .int .i64 x.fExpr.fType, .string x.fExpr.fSymbol, .string x.fExpr.fName, .slice a8r x.fExpr.fArgs.length c8r] (0, 0) _ rfl (by refine Eq.trans (blk_set (cs := #[.int .i64 x.fAt.fPos, .string x.fAt.fName, .int .i64 x.fExpr.fKind, .int .i64 x.fExpr.fN, .int .i64 x.fExpr.fPos, .int .i64 x.fExpr.fType, .string x.fExpr.fSymbol, .string x.fExpr.fName, .slice none 0 0]) (t := 108) (fr := (0, 0)) ?_) rfl; refine Eq.trans (blk_set (cs := #[.int .i64 x.fAt.fPos, .string x.fAt.fName, .int .i64 x.fExpr.fKind, .int .i64 x.fExpr.fN, .int .i64 x.fExpr.fPos, .int .i64 x.fExpr.fType, .string x.fExpr.fSymbol, .string ⟨#[]⟩, .slice none 0 0]) (t := 108) (fr := (0, 0)) ?_) rfl; refine Eq.trans (blk_set (cs := #[.int .i64 x.fAt.fPos, .string x.fAt.fName, .int .i64 x.fExpr.fKind, .int .i64 x.fExpr.fN, .int .i64 x.fExpr.fPos, .int .i64 x.fExpr.fType, .string ⟨#[]⟩, .string ⟨#[]⟩, .slice none 0 0]) (t := 108) (fr := (0, 0)) ?_) rfl; refine Eq.trans (blk_set (cs := #[.int .i64 x.fAt.fPos, .string x.fAt.fName, .int .i64 x.fExpr.fKind, .int .i64 x.fExpr.fN, .int .i64 x.fExpr.fPos, .int .i64 0, .string ⟨#[]⟩, .string ⟨#[]⟩, .slice none 0 0]) (t := 108) (fr := (0, 0)) ?_) rfl; refine Eq.trans (blk_set (cs := #[.int .i64 x.fAt.fPos, .string x.fAt.fName, .int .i64 x.fExpr.fKind, .int .i64 x.fExpr.fN, .int .i64 0, .int .i64 0, .string ⟨#[]⟩, .string ⟨#[]⟩, .slice none 0 0]) (t := 108) (fr := (0, 0)) ?_) rfl; refine Eq.trans (blk_set (cs := #[.int .i64 x.fAt.fPos, .string x.fAt.fName, .int .i64 x.fExpr.fKind, .int .i64 0, .int .i64 0, .int .i64 0, .string ⟨#[]⟩, .string ⟨#[]⟩, .slice none 0 0]) (t := 108) (fr := (0, 0)) ?_) rfl; refine Eq.trans (blk_set (cs := #[.int .i64 x.fAt.fPos, .string x.fAt.fName, .int .i64 0, .int .i64 0, .int .i64 0, .int .i64 0, .string ⟨#[]⟩, .string ⟨#[]⟩, .slice none 0 0]) (t := 108) (fr := (0, 0)) ?_) rfl; refine Eq.trans (blk_set (cs := #[.int .i64 x.fAt.fPos, .string ⟨#[]⟩, .int .i64 0, .int .i64 0, .int .i64 0, .int .i64 0, .string ⟨#[]⟩, .string ⟨#[]⟩, .slice none 0 0]) (t := 108) (fr := (0, 0)) ?_) rfl; refine Eq.trans (blk_set (cs := #[.int .i64 0, .string ⟨#[]⟩, .int .i64 0, .int .i64 0, .int .i64 0, .int .i64 0, .string ⟨#[]⟩, .string ⟨#[]⟩, .slice none 0 0]) (t := 108) (fr := (0, 0)) ?_) rfl; repeat (first | (with_reducible exact HG2.out) | (refine blk_other (by simp) ?_))) Try.underlying108 rfl rfl) rfl ⟨a8r, c8r, rfl, ?_, (by repeat (first | (with_reducible exact HB2.out) | (with_reducible exact Below.refl _ _) | (refine Below.setCell ?_ (by simp <;> omega) _) | (refine Below.alloc ?_ (by simp <;> omega) _)) : Below w.heap.size w _)⟩
  have ho2 := HO2_2.out
  clear HO2_2
  have q1 := HLO1.out
  have q2 := HLO2.out
  skip
  have hkk : ∀ w9 : World, Kept (fun y => w.heap.size + 3 ≤ y) w2 w9 → OwnR w9 (fun y => w.heap.size ≤ y ∧ y < w2.heap.size) 9 x.ct (fun j => [.int .i64 x.fAt.fPos, .string x.fAt.fName, .int .i64 x.fExpr.fKind, .int .i64 x.fExpr.fN, .int .i64 x.fExpr.fPos, .int .i64 x.fExpr.fType, .string x.fExpr.fSymbol, .string x.fExpr.fName, .slice a8r x.fExpr.fArgs.length c8r].getD j .nilFunc) := fun w9 hk => by
    refine OwnR.append (F1 := fun _ => False) (F2 := fun y => w1.heap.size ≤ y ∧ y < w2.heap.size) (m := 2) (n := 7) ?_ ?_ (by intro y h1 h2; first | exact h1.elim | exact h2.elim | (have h3 := h1.2; have h4 := h2.1; omega)) (by intro y h1; first | exact h1.elim | (have h3 := h1.1; have h4 := h1.2; exact ⟨by omega, by omega⟩)) (by intro y h1; first | exact h1.elim | (have h3 := h1.1; have h4 := h1.2; exact ⟨by omega, by omega⟩))
    · skip
      refine OwnR.lits (F := fun _ => False) fun j hj => ?_
      match j, hj with
      | 0, _ => rfl
      | 1, _ => rfl
    · skip
      refine OwnR.congr (ho2.kept (hk.sub fun y hy => by have h := hy.1; omega)) (fun j hj => ?_) (fun j hj => ?_)
      · match j, hj with
        | 0, _ => rfl
        | 1, _ => rfl
        | 2, _ => rfl
        | 3, _ => rfl
        | 4, _ => rfl
        | 5, _ => rfl
        | 6, _ => rfl
      · match j, hj with
        | 0, _ => rfl
        | 1, _ => rfl
        | 2, _ => rfl
        | 3, _ => rfl
        | 4, _ => rfl
        | 5, _ => rfl
        | 6, _ => rfl
  refine (hkk _ (by repeat (first | (with_reducible exact Kept.refl) | (refine Kept.put ?_ (by intro h1; dsimp only at h1; omega))))).sub (fun y hy => ⟨hy.1, Nat.lt_of_lt_of_le hy.2 (by simp)⟩)

theorem info_Equation : (Try.prog.info? 108).map (fun i => (i.zero, i.size, i.bytes)) = some (some (.agg #[.int .i64 0, .string ⟨#[]⟩, .int .i64 0, .int .i64 0, .int .i64 0, .int .i64 0, .string ⟨#[]⟩, .string ⟨#[]⟩, .slice none 0 0]), 9, 112) := by kernel_rfl

set_option maxHeartbeats 1600000 in
set_option maxRecDepth 100000 in
theorem laws_toEquationS {lo hi : Nat} {a : Option Addr} {cap : Nat} (l : List DEquation) (hsz : lsz DEquation.sz l ≤ 1048576) (w : World) (hhi : hi ≤ w.heap.size) (hs : Sl lo hi w 9 l.length (fun k => DEquation.ct (l.getD k default)) a) :
    Calls Try.prog 29 #[.slice a l.length cap] w fun e w' => ∃ a' cap', e = .returned (.slice a' l.length cap') ∧ Own w' (fun x => w.heap.size ≤ x ∧ x < w'.heap.size) (.sl 9 l.length (fun k => DEquation.ct (l.getD k default))) (.slice a' l.length cap') ∧ Below w.heap.size w w' := by
  have HS := Lib.hid hs
  clear hs
  have HW := Lib.hid hsz
  have hn : l.length ≤ 1048576 := by unfold lsz at hsz; omega
  clear hsz
  obtain ⟨i0, hi', hz0, hz1, hz2⟩ := info_parts info_Equation
  go_enter Try.func29, Try.ntmps29
  go_wp2_with (at_make; refine wpList_make_full _ rfl (.tmp 6) (.tmp 6) 40 rfl w.heap.size 108 i0 (.agg #[.int .i64 0, .string ⟨#[]⟩, .int .i64 0, .int .i64 0, .int .i64 0, .int .i64 0, .string ⟨#[]⟩, .string ⟨#[]⟩, .slice none 0 0]) 9 Try.underlying40 hi' hz0 hz1 .i64 .i64 (l.length : Int) (l.length : Int) l.length rfl rfl rfl rfl (by rw [hz2]; omega) (by unfold maxLen; omega) (Nat.le_refl _) ?_; intro w1 hown hgrow)
  have hb1 : Below w.heap.size w w1 := (Below.refl _ w).grown hgrow (Nat.le_refl _) (fun k hk => by cases hk)
  clear hgrow
  have hblk := (ownsRow_block hown).1
  go_loopw [4] (fun i wr => ∃ (k : Nat) (xs : List Value), k ≤ l.length ∧ i = .int .i64 (k : Int) ∧ wr.ownsRow w.heap.size 108 9 (.slice (some ⟨w.heap.size, 0, none⟩) l.length l.length) l.length xs ∧ Filled w.heap.size wr 9 k (fun k => DEquation.ct (l.getD k default)) xs ∧ Below w.heap.size w wr) (fun i _ => l.length - (intOf i).toNat)
  case atStart => exact ⟨0, _, Nat.zero_le _, rfl, hown, Filled.zero hblk, hb1⟩
  case round =>
    clear hown hb1 hblk
    obtain ⟨k, xs, hk, rfl, hown, hfill, hb⟩ := hrel
    have hblk := ownsRow_block hown
    have HO := Lib.hid hown
    have HF := Lib.hid hfill
    have HB := Lib.hid hb
    clear hown hfill
    by_cases hlt : k < l.length
    · have hhr : hi ≤ wr.heap.size := Nat.le_trans hhi hb.size
      obtain ⟨b, off, rfl, hlo, hhi', hc⟩ := (HS.out.later (hb.mono hhi) (Nat.le_refl _)).at k hlt
      obtain ⟨a8, c8, hc0_, hc1_, hc2_, hc3_, hc4_, hc5_, hc6_, hc7_, hc8_, hs8⟩ := DEquation.open hc
      have hkn : k * 9 + 9 ≤ l.length * 9 := by omega
      have d0 := hblk.2.2.1 (k * 9) (by omega)
      have z0 := hblk.2.2.2 (k * 9)
      have d1 := hblk.2.2.1 (k * 9 + 1) (by omega)
      have z1 := hblk.2.2.2 (k * 9 + 1)
      have d2 := hblk.2.2.1 (k * 9 + 2) (by omega)
      have z2 := hblk.2.2.2 (k * 9 + 2)
      have d3 := hblk.2.2.1 (k * 9 + 3) (by omega)
      have z3 := hblk.2.2.2 (k * 9 + 3)
      have d4 := hblk.2.2.1 (k * 9 + 4) (by omega)
      have z4 := hblk.2.2.2 (k * 9 + 4)
      have d5 := hblk.2.2.1 (k * 9 + 5) (by omega)
      have z5 := hblk.2.2.2 (k * 9 + 5)
      have d6 := hblk.2.2.1 (k * 9 + 6) (by omega)
      have z6 := hblk.2.2.2 (k * 9 + 6)
      have d7 := hblk.2.2.1 (k * 9 + 7) (by omega)
      have z7 := hblk.2.2.2 (k * 9 + 7)
      have d8 := hblk.2.2.1 (k * 9 + 8) (by omega)
      have z8 := hblk.2.2.2 (k * 9 + 8)
      have hsz := hblk.1
      clear hblk hb hc
      have hxs := szle_at (f := DEquation.sz) l k hlt
      generalize hx : l.getD k default = x at *
      have HX := Lib.hid hx
      clear hx
      generalize xs.getD (k * 9) Value.nilFunc = v0 at d0
      generalize xs.getD (k * 9 + 1) Value.nilFunc = v1 at d1
      generalize xs.getD (k * 9 + 2) Value.nilFunc = v2 at d2
      generalize xs.getD (k * 9 + 3) Value.nilFunc = v3 at d3
      generalize xs.getD (k * 9 + 4) Value.nilFunc = v4 at d4
      generalize xs.getD (k * 9 + 5) Value.nilFunc = v5 at d5
      generalize xs.getD (k * 9 + 6) Value.nilFunc = v6 at d6
      generalize xs.getD (k * 9 + 7) Value.nilFunc = v7 at d7
      generalize xs.getD (k * 9 + 8) Value.nilFunc = v8 at d8
      have HT := Lib.hid (laws_toEquation (c8 := c8) x (by have h1 := HW.out; omega) wr hhr hs8)
      clear hxs hs8
      go_wp2_with fail
      refine HT.out.mono ?_
      rintro e w1 ⟨a8r, c8r, rfl, ho1, hb1⟩
      have HOR := Lib.hid ho1
      clear ho1
      have e0 := (hb1.cell (p := ⟨w.heap.size, k * 9, none⟩) hsz).trans d0
      have y0 := (hb1.frozen (p := ⟨w.heap.size, k * 9, none⟩) hsz).trans z0
      have e1 := (hb1.cell (p := ⟨w.heap.size, k * 9 + 1, none⟩) hsz).trans d1
      have y1 := (hb1.frozen (p := ⟨w.heap.size, k * 9 + 1, none⟩) hsz).trans z1
      have e2 := (hb1.cell (p := ⟨w.heap.size, k * 9 + 2, none⟩) hsz).trans d2
      have y2 := (hb1.frozen (p := ⟨w.heap.size, k * 9 + 2, none⟩) hsz).trans z2
      have e3 := (hb1.cell (p := ⟨w.heap.size, k * 9 + 3, none⟩) hsz).trans d3
      have y3 := (hb1.frozen (p := ⟨w.heap.size, k * 9 + 3, none⟩) hsz).trans z3
      have e4 := (hb1.cell (p := ⟨w.heap.size, k * 9 + 4, none⟩) hsz).trans d4
      have y4 := (hb1.frozen (p := ⟨w.heap.size, k * 9 + 4, none⟩) hsz).trans z4
      have e5 := (hb1.cell (p := ⟨w.heap.size, k * 9 + 5, none⟩) hsz).trans d5
      have y5 := (hb1.frozen (p := ⟨w.heap.size, k * 9 + 5, none⟩) hsz).trans z5
      have e6 := (hb1.cell (p := ⟨w.heap.size, k * 9 + 6, none⟩) hsz).trans d6
      have y6 := (hb1.frozen (p := ⟨w.heap.size, k * 9 + 6, none⟩) hsz).trans z6
      have e7 := (hb1.cell (p := ⟨w.heap.size, k * 9 + 7, none⟩) hsz).trans d7
      have y7 := (hb1.frozen (p := ⟨w.heap.size, k * 9 + 7, none⟩) hsz).trans z7
      have e8 := (hb1.cell (p := ⟨w.heap.size, k * 9 + 8, none⟩) hsz).trans d8
      have y8 := (hb1.frozen (p := ⟨w.heap.size, k * 9 + 8, none⟩) hsz).trans z8
      have HB1 := Lib.hid hb1
      clear hb1 d0 z0 d1 z1 d2 z2 d3 z3 d4 z4 d5 z5 d6 z6 d7 z7 d8 z8
      go_wp2
      go_roundw
      case rel =>
        have hst := HF.out.stored HB1.out hsz (ownsRow_below HO.out HB1.out) hlt [.int .i64 x.fAt.fPos, .string x.fAt.fName, .int .i64 x.fExpr.fKind, .int .i64 x.fExpr.fN, .int .i64 x.fExpr.fPos, .int .i64 x.fExpr.fType, .string x.fExpr.fSymbol, .string x.fExpr.fName, .slice a8r x.fExpr.fArgs.length c8r] rfl ((by rw [HX.out]; exact HOR.out))
        exact ⟨k + 1, _, by omega, by go_num, hst.1, hst.2, setCells_below (Nat.le_refl _) [_, _, _, _, _, _, _, _, _] _ (HB.out.trans (HB1.out.mono HB.out.size))⟩
      case measure => simp [intOf]; omega
    · obtain rfl : k = l.length := by omega
      go_wp2
      go_ret
      exact ⟨_, _, rfl, HF.out.own hblk.1 hblk.2.2.1 hblk.2.2.2, hb⟩

set_option maxHeartbeats 1600000 in
set_option maxRecDepth 100000 in
theorem laws_eqEquation {lo hi lo2 hi2 : Nat} {a8 : Option Addr} {c8 : Nat} {a8q : Option Addr} {c8q : Nat} (x : DEquation) (hsz : x.sz ≤ 1048576) (w : World) (hhi : hi ≤ w.heap.size) (hhi2 : hi2 ≤ w.heap.size) (hs8 : Sl lo hi w 7 x.fExpr.fArgs.length (ctE x.fExpr.fArgs) a8) (hs8q : Sl lo2 hi2 w 7 x.fExpr.fArgs.length (ctE x.fExpr.fArgs) a8q) :
    Calls Try.prog 60 #[.agg #[.int .i64 x.fAt.fPos, .string x.fAt.fName, .int .i64 x.fExpr.fKind, .int .i64 x.fExpr.fN, .int .i64 x.fExpr.fPos, .int .i64 x.fExpr.fType, .string x.fExpr.fSymbol, .string x.fExpr.fName, .slice a8 x.fExpr.fArgs.length c8], .agg #[.int .i64 x.fAt.fPos, .string x.fAt.fName, .int .i64 x.fExpr.fKind, .int .i64 x.fExpr.fN, .int .i64 x.fExpr.fPos, .int .i64 x.fExpr.fType, .string x.fExpr.fSymbol, .string x.fExpr.fName, .slice a8q x.fExpr.fArgs.length c8q]] w fun e w' => e = .returned (.bool true) ∧ Below w.heap.size w w' := by
  have HS8 := Lib.hid hs8
  have HS8q := Lib.hid hs8q
  clear hs8 hs8q
  have HW := Lib.hid hsz
  clear hsz
  have HB0 := Lib.hid (((Below.refl w.heap.size w).alloc (Nat.le_refl _) (.cells #[.int .i64 x.fAt.fPos, .string x.fAt.fName, .int .i64 x.fExpr.fKind, .int .i64 x.fExpr.fN, .int .i64 x.fExpr.fPos, .int .i64 x.fExpr.fType, .string x.fExpr.fSymbol, .string x.fExpr.fName, .slice a8 x.fExpr.fArgs.length c8] 108)).alloc (by simp <;> omega) (.cells #[.int .i64 x.fAt.fPos, .string x.fAt.fName, .int .i64 x.fExpr.fKind, .int .i64 x.fExpr.fN, .int .i64 x.fExpr.fPos, .int .i64 x.fExpr.fType, .string x.fExpr.fSymbol, .string x.fExpr.fName, .slice a8q x.fExpr.fArgs.length c8q] 108))
  have ht0 := fun (w' : World) => laws_eqOccurrence x.fAt w'
  have HT0 := Lib.hid ht0
  clear ht0
  have ht1 := fun (w' : World) (hhi : hi ≤ w'.heap.size) (hhi2 : hi2 ≤ w'.heap.size) (hs8 : Sl lo hi w' 7 x.fExpr.fArgs.length (ctE x.fExpr.fArgs) a8) (hs8q : Sl lo2 hi2 w' 7 x.fExpr.fArgs.length (ctE x.fExpr.fArgs) a8q) => laws_eqExpr (c6 := c8) (c6q := c8q) x.fExpr (by have h := HW.out; unfold DEquation.sz at h; omega) w' hhi hhi2 hs8 hs8q
  have HT1 := Lib.hid ht1
  clear ht1
  go_enter Try.func60, Try.ntmps60
  go_wp2_with fail
  refine (HT0.out _).mono ?_
  rintro e w1 ⟨rfl, hb1⟩
  have x1_0_2 : w1.cell? ⟨w.heap.size, 2, none⟩ = some (.int .i64 x.fExpr.fKind) := (hb1.cell (p := ⟨w.heap.size, 2, none⟩) (by first | omega | (simp; done) | (simp; omega) | (simp [World.setCell]; omega))).trans (by go_simp)
  have x1_0_3 : w1.cell? ⟨w.heap.size, 3, none⟩ = some (.int .i64 x.fExpr.fN) := (hb1.cell (p := ⟨w.heap.size, 3, none⟩) (by first | omega | (simp; done) | (simp; omega) | (simp [World.setCell]; omega))).trans (by go_simp)
  have x1_0_4 : w1.cell? ⟨w.heap.size, 4, none⟩ = some (.int .i64 x.fExpr.fPos) := (hb1.cell (p := ⟨w.heap.size, 4, none⟩) (by first | omega | (simp; done) | (simp; omega) | (simp [World.setCell]; omega))).trans (by go_simp)
  have x1_0_5 : w1.cell? ⟨w.heap.size, 5, none⟩ = some (.int .i64 x.fExpr.fType) := (hb1.cell (p := ⟨w.heap.size, 5, none⟩) (by first | omega | (simp; done) | (simp; omega) | (simp [World.setCell]; omega))).trans (by go_simp)
  have x1_0_6 : w1.cell? ⟨w.heap.size, 6, none⟩ = some (.string x.fExpr.fSymbol) := (hb1.cell (p := ⟨w.heap.size, 6, none⟩) (by first | omega | (simp; done) | (simp; omega) | (simp [World.setCell]; omega))).trans (by go_simp)
  have x1_0_7 : w1.cell? ⟨w.heap.size, 7, none⟩ = some (.string x.fExpr.fName) := (hb1.cell (p := ⟨w.heap.size, 7, none⟩) (by first | omega | (simp; done) | (simp; omega) | (simp [World.setCell]; omega))).trans (by go_simp)
  have x1_0_8 : w1.cell? ⟨w.heap.size, 8, none⟩ = some (.slice a8 x.fExpr.fArgs.length c8) := (hb1.cell (p := ⟨w.heap.size, 8, none⟩) (by first | omega | (simp; done) | (simp; omega) | (simp [World.setCell]; omega))).trans (by go_simp)
  have x1_1_2 : w1.cell? ⟨w.heap.size + 1, 2, none⟩ = some (.int .i64 x.fExpr.fKind) := (hb1.cell (p := ⟨w.heap.size + 1, 2, none⟩) (by first | omega | (simp; done) | (simp; omega) | (simp [World.setCell]; omega))).trans (by go_simp)
  have x1_1_3 : w1.cell? ⟨w.heap.size + 1, 3, none⟩ = some (.int .i64 x.fExpr.fN) := (hb1.cell (p := ⟨w.heap.size + 1, 3, none⟩) (by first | omega | (simp; done) | (simp; omega) | (simp [World.setCell]; omega))).trans (by go_simp)
  have x1_1_4 : w1.cell? ⟨w.heap.size + 1, 4, none⟩ = some (.int .i64 x.fExpr.fPos) := (hb1.cell (p := ⟨w.heap.size + 1, 4, none⟩) (by first | omega | (simp; done) | (simp; omega) | (simp [World.setCell]; omega))).trans (by go_simp)
  have x1_1_5 : w1.cell? ⟨w.heap.size + 1, 5, none⟩ = some (.int .i64 x.fExpr.fType) := (hb1.cell (p := ⟨w.heap.size + 1, 5, none⟩) (by first | omega | (simp; done) | (simp; omega) | (simp [World.setCell]; omega))).trans (by go_simp)
  have x1_1_6 : w1.cell? ⟨w.heap.size + 1, 6, none⟩ = some (.string x.fExpr.fSymbol) := (hb1.cell (p := ⟨w.heap.size + 1, 6, none⟩) (by first | omega | (simp; done) | (simp; omega) | (simp [World.setCell]; omega))).trans (by go_simp)
  have x1_1_7 : w1.cell? ⟨w.heap.size + 1, 7, none⟩ = some (.string x.fExpr.fName) := (hb1.cell (p := ⟨w.heap.size + 1, 7, none⟩) (by first | omega | (simp; done) | (simp; omega) | (simp [World.setCell]; omega))).trans (by go_simp)
  have x1_1_8 : w1.cell? ⟨w.heap.size + 1, 8, none⟩ = some (.slice a8q x.fExpr.fArgs.length c8q) := (hb1.cell (p := ⟨w.heap.size + 1, 8, none⟩) (by first | omega | (simp; done) | (simp; omega) | (simp [World.setCell]; omega))).trans (by go_simp)
  have hsz1 : w.heap.size + 1 < w1.heap.size := Nat.lt_of_lt_of_le (by first | omega | (simp; done) | (simp; omega) | (simp [World.setCell]; omega)) hb1.size
  have HB1 := Lib.hid (HB0.out.trans (hb1.mono HB0.out.size))
  clear hb1
  go_wp2_with fail
  refine (HT1.out _ (Nat.le_trans hhi (HB1.out.size)) (Nat.le_trans hhi2 (HB1.out.size)) (HS8.out.later HB1.out hhi) (HS8q.out.later HB1.out hhi2)).mono ?_
  rintro e w2 ⟨rfl, hb2⟩
  have HB2 := Lib.hid (HB1.out.trans (hb2.mono HB1.out.size))
  clear hb2
  clear x1_0_2 x1_0_3 x1_0_4 x1_0_5 x1_0_6 x1_0_7 x1_0_8 x1_1_2 x1_1_3 x1_1_4 x1_1_5 x1_1_6 x1_1_7 x1_1_8 hsz1
  go_wp2
  go_ret
  exact ⟨rfl, HB2.out⟩

set_option maxHeartbeats 1600000 in
set_option maxRecDepth 100000 in
theorem laws_eqEquationS {lo hi lo2 hi2 : Nat} {a a2 : Option Addr} {cap cap2 : Nat} (l : List DEquation) (hsz : lsz DEquation.sz l ≤ 1048576) (w : World) (hhi : hi ≤ w.heap.size) (hhi2 : hi2 ≤ w.heap.size) (hs : Sl lo hi w 9 l.length (fun k => DEquation.ct (l.getD k default)) a) (hs2 : Sl lo2 hi2 w 9 l.length (fun k => DEquation.ct (l.getD k default)) a2) :
    Calls Try.prog 37 #[.slice a l.length cap, .slice a2 l.length cap2] w fun e w' => e = .returned (.bool true) ∧ Below w.heap.size w w' := by
  have HS := Lib.hid hs
  have HS2 := Lib.hid hs2
  have HW := Lib.hid hsz
  have hn : l.length ≤ 1048576 := by unfold lsz at hsz; omega
  clear hs hs2 hsz
  go_enter Try.func37, Try.ntmps37
  go_wp2
  go_loopw [5] (fun i wr => ∃ k : Nat, k ≤ l.length ∧ i = .int .i64 (k : Int) ∧ Below w.heap.size w wr) (fun i _ => l.length - (intOf i).toNat)
  case atStart => exact ⟨0, Nat.zero_le _, rfl, Below.refl _ _⟩
  case round =>
    obtain ⟨k, hk, rfl, hb⟩ := hrel
    have HB := Lib.hid hb
    by_cases hlt : k < l.length
    · have hhr : hi ≤ wr.heap.size := Nat.le_trans hhi hb.size
      have hhr2 : hi2 ≤ wr.heap.size := Nat.le_trans hhi2 hb.size
      obtain ⟨b, off, rfl, _, hhi', hc⟩ := (HS.out.later (hb.mono hhi) (Nat.le_refl _)).at k hlt
      obtain ⟨b2, off2, rfl, _, hhi2', hc2⟩ := (HS2.out.later (hb.mono hhi2) (Nat.le_refl _)).at k hlt
      obtain ⟨a8, c8, hc0_, hc1_, hc2_, hc3_, hc4_, hc5_, hc6_, hc7_, hc8_, hs8⟩ := DEquation.open hc
      obtain ⟨a8q, c8q, hc0q_, hc1q_, hc2q_, hc3q_, hc4q_, hc5q_, hc6q_, hc7q_, hc8q_, hs8q⟩ := DEquation.open hc2
      have hxs := szle_at (f := DEquation.sz) l k hlt
      clear hb hc hc2
      generalize l.getD k default = x at *
      have HT := Lib.hid (fun (w' : World) (hw : Below wr.heap.size wr w') => laws_eqEquation (c8 := c8) (c8q := c8q) x (by have h1 := HW.out; omega) w' (Nat.le_trans hhr hw.size) (Nat.le_trans hhr2 hw.size) (hs8.later hw hhr) (hs8q.later hw hhr2))
      clear hxs hs8 hs8q
      go_wp2_with fail
      go_region_with ((go_at_call 60; refine (HT.out _ (by first | exact Below.refl _ _ | exact (Below.refl _ _).drew | exact below_drewN (Below.refl _ _) _)).mono ?_; rintro e w1 ⟨rfl, hb1⟩))
      all_goals
        go_wp2
        go_roundw
        case rel =>
          refine ⟨k + 1, by omega, by go_num, ?_⟩
          have hb2 : Below wr.heap.size wr w1 := ⟨hb1.os, hb1.tape, hb1.output, hb1.size, hb1.block⟩
          repeat (first | exact HB.out.trans (hb2.mono HB.out.size) | apply Below.drew | refine below_drewN ?_ _)
        case measure => simp [intOf]; omega
    · go_wp2
      go_ret
      exact ⟨rfl, HB.out⟩
end Go.Proofs.Yticchgfhmfjknaa
