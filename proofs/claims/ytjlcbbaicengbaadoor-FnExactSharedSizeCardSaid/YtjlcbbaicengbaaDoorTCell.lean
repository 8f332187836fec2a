/-
  The type Cell of the laws: its data, and the contracts of the laws' own helpers on it.
-/
import Derived.Test.YtjlcbbaicengbaaDoorTInt
import Derived.WalkSpells
import Derived.WalkSmall
import Derived.WalkLawsBesides
import Derived.SliceStrings
import Derived.Deep.QuietTactic
import Derived.Deep.RegionWith
import Derived.BigQuiet
import Derived.Outline
import Derived.Laws.Rows
namespace Go.Proofs.YtjlcbbaicengbaaDoor
open Go.ChangeShapes Go.WideShapes Go.ChangeAt Go.RowKit Go.Deep

structure DCell where
  fRule : ByteArray
  fLiteral : Int
  fChildren : List (Int)
  deriving Inhabited

def DCell.ct (x : DCell) : Nat → Ct
  | 0 => .lit (.string x.fRule)
  | 1 => .lit (.int .i64 x.fLiteral)
  | 2 => .sl 1 x.fChildren.length (fun k => ictI (x.fChildren.getD k default))
  | _ => .lit .nilFunc

def DCell.ok (x : DCell) : Prop := okS x.fRule ∧ okI x.fLiteral ∧ (okL okI) x.fChildren

def DCell.sz (x : DCell) : Nat := x.fRule.size + (lsz (fun _ => 0)) x.fChildren

theorem DCell.open {lo hi b o : Nat} {w : World} {x : DCell} (h : ∀ j, j < 3 → ∃ u, w.cell? ⟨b, o + j, none⟩ = some u ∧ Lies lo hi w (x.ct j) u) :
    ∃ a2 c2, w.cell? ⟨b, o, none⟩ = some (.string x.fRule) ∧ w.cell? ⟨b, o + 1, none⟩ = some (.int .i64 x.fLiteral) ∧ w.cell? ⟨b, o + 2, none⟩ = some (.slice a2 x.fChildren.length c2) ∧ Sl lo hi w 1 x.fChildren.length (fun k => ictI (x.fChildren.getD k default)) a2 := by
  obtain ⟨u0, hc0, hl0⟩ := h 0 (by decide)
  obtain rfl := lies_lit hl0
  obtain ⟨u1, hc1, hl1⟩ := h 1 (by decide)
  obtain rfl := lies_lit hl1
  obtain ⟨u2, hc2, hl2⟩ := h 2 (by decide)
  obtain ⟨a2, c2, rfl, hs2⟩ := lies_sl hl2
  exact ⟨a2, c2, hc0, hc1, hc2, hs2⟩

theorem opens_cell {H : Type} {enc : TypeId × Value → H} {w : World} (fuel : Nat) : Opens enc Tryd.prog w 52 3 DCell.ct DCell.ok fuel := by
  intro cs x h
  have hl := opens_len Tryd.underlying52 h
  obtain ⟨y0, k0, q0⟩ := opens_field Tryd.underlying52 h 0 _ rfl (ft := 9) (o := 0) (n := 1) rfl rfl (fun m _ => opens_string Tryd.underlying9 m) (by kernel_rfl)
  obtain ⟨y1, k1, q1⟩ := opens_field Tryd.underlying52 h 1 _ rfl (ft := 3) (o := 1) (n := 1) rfl rfl (fun m _ => opens_int Tryd.underlying3 m) (by kernel_rfl)
  obtain ⟨y2, k2, q2⟩ := opens_field Tryd.underlying52 h 2 _ rfl (ft := 37) (o := 2) (n := 1) rfl rfl (fun m _ => (fun fuel => opens_slice Tryd.underlying37 (e := 3) (n := 1) (by kernel_rfl) (by decide) fuel (fun m _ => (opens_int Tryd.underlying3) m)) m) (by kernel_rfl)
  refine ⟨⟨y0, y1, y2⟩, ⟨k0, k1, k2⟩, hl.trans (by kernel_rfl), fun j hj => ?_⟩
  match j, hj with
  | 0, _ => exact q0 0 (by decide)
  | 1, _ => exact q1 0 (by decide)
  | 2, _ => exact q2 0 (by decide)

open Go.WideElems Go.WideMaps in
set_option maxRecDepth 100000 in
theorem arg_cell {H : Type} {enc : TypeId × Value → H} {W : World} {base : Nat} {v : Value} {d : DataW H} {p : List MemPlace} (hv : Value.okWide Tryd.prog W .any base 52 v) (h : DataW.Trod enc Tryd.prog W 0 (fun _ => true) true 52 v d p) :
    ∃ (x : DCell) (a2 : Option Addr) (c2 : Nat), v = .agg #[.string x.fRule, .int .i64 x.fLiteral, .slice a2 x.fChildren.length c2] ∧ x.ok ∧ Sl 0 W.heap.size W 1 x.fChildren.length (fun k => ictI (x.fChildren.getD k default)) a2 := by
  obtain ⟨cs, rfl, hsz⟩ := okWide_struct Tryd.underlying52 hv
  obtain ⟨fuel, hf⟩ := h
  obtain ⟨x, hx, hl, hj⟩ := opens_cell fuel _ _ hf
  obtain ⟨l⟩ := cs
  match l, hl, hj with
  | [e0, e1, e2], _, hj =>
    obtain ⟨u0, hu0, hl0⟩ := hj 0 (by decide)
    obtain rfl := lies_lit hl0
    obtain rfl : e0 = _ := Option.some.inj hu0
    obtain ⟨u1, hu1, hl1⟩ := hj 1 (by decide)
    obtain rfl := lies_lit hl1
    obtain rfl : e1 = _ := Option.some.inj hu1
    obtain ⟨u2, hu2, hl2⟩ := hj 2 (by decide)
    obtain ⟨a2, c2, rfl, hs2⟩ := lies_sl hl2
    obtain rfl : e2 = _ := Option.some.inj hu2
    exact ⟨x, a2, c2, rfl, hx, hs2⟩

open Go.WideElems Go.WideMaps in
theorem arg_cellS {H : Type} {enc : TypeId × Value → H} {W : World} {v : Value} {d : DataW H} {p : List MemPlace} {a0 : Option Addr} {len cap : Nat} (hv : v = .slice a0 len cap) (h : DataW.Trod enc Tryd.prog W 0 (fun _ => true) true 22 v d p) :
    ∃ (l : List DCell) (a : Option Addr) (cap : Nat), v = .slice a l.length cap ∧ okL DCell.ok l ∧ Sl 0 W.heap.size W 3 l.length (fun k => DCell.ct (l.getD k default)) a := by
  subst hv
  obtain ⟨fuel, hf⟩ := h
  obtain ⟨x, hx, hl, hj⟩ := opens_slice Tryd.underlying22 (e := 52) (n := 3) (by kernel_rfl) (by decide) fuel (fun m _ => opens_cell m) _ _ hf
  obtain ⟨u0, hu0, hl0⟩ := hj 0 (by decide)
  obtain ⟨a, c, rfl, hs⟩ := lies_sl hl0
  exact ⟨x, a, c, Option.some.inj hu0, hx, hs⟩

set_option maxHeartbeats 1600000 in
set_option maxRecDepth 100000 in
theorem laws_szCell {lo hi : Nat} {a2 : Option Addr} {c2 : Nat} (x : DCell) (L : Int) (hL0 : 0 ≤ L) (hL1 : L ≤ 1048576) (hx : x.ok) (w : World) (hhi : hi ≤ w.heap.size) (hs2 : Sl lo hi w 1 x.fChildren.length (fun k => ictI (x.fChildren.getD k default)) a2) :
    Calls Tryd.prog 22 #[.agg #[.string x.fRule, .int .i64 x.fLiteral, .slice a2 x.fChildren.length c2], .int .i64 L] w fun e w' => e = .returned (.int .i64 (szR L x.sz)) ∧ Below w.heap.size w w' := by
  have HS2 := Lib.hid hs2
  clear hs2
  have HX := Lib.hid hx
  clear hx
  have okRule : x.fRule.size ≤ 9223372036854775807 := HX.out.1
  have HB0 := Lib.hid ((Below.refl w.heap.size w).alloc (Nat.le_refl _) (.cells #[.string x.fRule, .int .i64 x.fLiteral, .slice a2 x.fChildren.length c2] 52))
  by_cases h0 : L < ((x.fRule.size : Nat) : Int)
  · skip
    have fin := Lib.hid (szR_gt (n := x.sz) (L := L) (by unfold DCell.sz; omega))
    go_enter Tryd.func22, Tryd.ntmps22
    go_wp2
    go_ret
    exact ⟨ret_i (by rw [fin.out]), HB0.out⟩
  · skip
    by_cases h1 : (L - (x.fRule.size : Nat)) < (((lsz (fun _ => 0)) x.fChildren : Nat) : Int)
    · skip
      have hz0 := fun (w' : World) (hhi : hi ≤ w'.heap.size) (hs2 : Sl lo hi w' 1 x.fChildren.length (fun k => ictI (x.fChildren.getD k default)) a2) => laws_szIntS (cap := c2) x.fChildren (L - (x.fRule.size : Nat)) (by omega) (by omega) HX.out.2.2 w' hhi hs2
      rw [szR_gt (by omega)] at hz0
      have HZ0 := Lib.hid hz0
      clear hz0
      have fin := Lib.hid (szR_gt (n := x.sz) (L := L) (by unfold DCell.sz; omega))
      go_enter Tryd.func22, Tryd.ntmps22
      go_wp2_with fail
      refine (HZ0.out _ (Nat.le_trans hhi HB0.out.size) (HS2.out.later HB0.out hhi)).mono ?_
      rintro e w1 ⟨rfl, hb1⟩
      have hsz1 : w.heap.size < w1.heap.size := Nat.lt_of_lt_of_le (by first | omega | (simp; done) | (simp; omega)) hb1.size
      have HB1 := Lib.hid (HB0.out.trans (hb1.mono HB0.out.size))
      clear hb1
      go_wp2
      go_ret
      exact ⟨ret_i (by rw [fin.out]), HB1.out⟩
    · skip
      have hz0 := fun (w' : World) (hhi : hi ≤ w'.heap.size) (hs2 : Sl lo hi w' 1 x.fChildren.length (fun k => ictI (x.fChildren.getD k default)) a2) => laws_szIntS (cap := c2) x.fChildren (L - (x.fRule.size : Nat)) (by omega) (by omega) HX.out.2.2 w' hhi hs2
      rw [szR_le (by omega)] at hz0
      have HZ0 := Lib.hid hz0
      clear hz0
      have fin := Lib.hid (szR_le (n := x.sz) (L := L) (by unfold DCell.sz; omega))
      go_enter Tryd.func22, Tryd.ntmps22
      go_wp2_with fail
      refine (HZ0.out _ (Nat.le_trans hhi HB0.out.size) (HS2.out.later HB0.out hhi)).mono ?_
      rintro e w1 ⟨rfl, hb1⟩
      have hsz1 : w.heap.size < w1.heap.size := Nat.lt_of_lt_of_le (by first | omega | (simp; done) | (simp; omega)) hb1.size
      have HB1 := Lib.hid (HB0.out.trans (hb1.mono HB0.out.size))
      clear hb1
      go_wp2
      go_ret
      exact ⟨ret_i (by rw [fin.out]; unfold DCell.sz; omega), HB1.out⟩

set_option maxHeartbeats 1600000 in
set_option maxRecDepth 100000 in
theorem laws_szCellS {lo hi : Nat} {a : Option Addr} {cap : Nat} (l : List DCell) (L : Int) (hL0 : 0 ≤ L) (hL1 : L ≤ 1048576) (hok : okL DCell.ok l) (w : World) (hhi : hi ≤ w.heap.size) (hs : Sl lo hi w 3 l.length (fun k => DCell.ct (l.getD k default)) a) :
    Calls Tryd.prog 12 #[.slice a l.length cap, .int .i64 L] w fun e w' => e = .returned (.int .i64 (szR L (lsz DCell.sz l))) ∧ Below w.heap.size w w' := by
  have HS := Lib.hid hs
  have HK := Lib.hid hok
  have hn : l.length ≤ 9223372036854775807 := hok.1
  clear hs hok
  by_cases hlong : L < ((l.length : Nat) : Int)
  · have fin := Lib.hid (szR_gt (n := lsz DCell.sz l) (L := L) (by unfold lsz; omega))
    go_enter Tryd.func12, Tryd.ntmps12
    go_wp2
    go_ret
    exact ⟨ret_i fin.out.symm, Below.refl _ _⟩
  · go_enter Tryd.func12, Tryd.ntmps12
    go_wp2
    go_loopw [1, 5] (fun q i wr => ∃ k : Nat, k ≤ l.length ∧ i = .int .i64 (k : Int) ∧ q = .int .i64 (L - l.length - psz DCell.sz l k) ∧ (l.length : Int) + psz DCell.sz l k ≤ L ∧ Below w.heap.size w wr) (fun _ i _ => l.length - (intOf i).toNat)
    case atStart => exact ⟨0, Nat.zero_le _, rfl, by rw [psz_zero]; go_num, by rw [psz_zero]; omega, Below.refl _ _⟩
    case round =>
      obtain ⟨k, hk, rfl, rfl, hle, hb⟩ := hrel
      have HB := Lib.hid hb
      by_cases hlt : k < l.length
      · have hsu := Lib.hid (psz_succ DCell.sz l k hlt)
        have hle2 := Lib.hid (psz_le DCell.sz l (k + 1))
        have hokk := HK.out.at hlt
        have hhr : hi ≤ wr.heap.size := Nat.le_trans hhi hb.size
        obtain ⟨b, off, rfl, hlo, hhi', hc⟩ := (HS.out.later (hb.mono hhi) (Nat.le_refl _)).at k hlt
        clear hb
        obtain ⟨a2, c2, hc0_, hc1_, hc2_, hs2⟩ := DCell.open hc
        clear hc
        generalize l.getD k default = x at *
        generalize psz DCell.sz l k = S at *
        have hZ := laws_szCell (c2 := c2) x (L - l.length - S) (by omega) (by omega) hokk wr hhr hs2
        by_cases hf : ((x.sz : Nat) : Int) ≤ L - l.length - S
        · rw [szR_le hf] at hZ
          have HZ := Lib.hid hZ
          clear hZ hokk hs2
          go_wp2_with fail
          refine HZ.out.mono ?_
          rintro e w1 ⟨rfl, hb1⟩
          have HB1 := Lib.hid hb1
          clear hb1
          go_wp2
          go_roundw
          case rel => exact ⟨k + 1, by omega, by go_num, by rw [hsu.out]; go_num, by rw [hsu.out]; omega, HB.out.trans (HB1.out.mono HB.out.size)⟩
          case measure => simp [intOf]; omega
        · have fin := Lib.hid (szR_gt (n := lsz DCell.sz l) (L := L) (by have h1 := hsu.out; have h2 := hle2.out; omega))
          rw [szR_gt (by omega)] at hZ
          have HZ := Lib.hid hZ
          clear hZ hokk hs2
          go_wp2_with fail
          refine HZ.out.mono ?_
          rintro e w1 ⟨rfl, hb1⟩
          have HB1 := Lib.hid hb1
          clear hb1
          go_wp2
          go_ret
          exact ⟨ret_i fin.out.symm, HB.out.trans (HB1.out.mono HB.out.size)⟩
      · obtain rfl : k = l.length := by omega
        have fin := Lib.hid (szR_le (n := lsz DCell.sz l) (L := L) (by unfold lsz; rw [psz_all] at hle; omega))
        have fin2 := Lib.hid (psz_all DCell.sz l)
        go_wp2
        go_ret
        exact ⟨ret_i (by rw [fin.out, fin2.out]; unfold lsz; omega), HB.out⟩

set_option maxHeartbeats 1600000 in
set_option maxRecDepth 100000 in
theorem laws_toCell {lo hi : Nat} {a2 : Option Addr} {c2 : Nat} (x : DCell) (hsz : x.sz ≤ 1048576) (w : World) (hhi : hi ≤ w.heap.size) (hs2 : Sl lo hi w 1 x.fChildren.length (fun k => ictI (x.fChildren.getD k default)) a2) :
    Calls Tryd.prog 24 #[.agg #[.string x.fRule, .int .i64 x.fLiteral, .slice a2 x.fChildren.length c2]] w fun e w' => ∃ a2r c2r, e = .returned (.agg #[.string x.fRule, .int .i64 x.fLiteral, .slice a2r x.fChildren.length c2r]) ∧ OwnR w' (fun y => w.heap.size ≤ y ∧ y < w'.heap.size) 3 x.ct (fun j => [.string x.fRule, .int .i64 x.fLiteral, .slice a2r x.fChildren.length c2r].getD j .nilFunc) ∧ Below w.heap.size w w' := by
  have HS2 := Lib.hid hs2
  clear hs2
  have HW := Lib.hid hsz
  clear hsz
  have HB0 := Lib.hid (((((Below.refl w.heap.size w).alloc (Nat.le_refl _) (.cells #[.string x.fRule, .int .i64 x.fLiteral, .slice a2 x.fChildren.length c2] 52)).alloc (by simp <;> omega) (.cells #[.string ⟨#[]⟩, .int .i64 0, .slice none 0 0] 39))).alloc (by simp <;> omega) (.cells #[.string ⟨#[]⟩, .int .i64 0, .slice none 0 0] 39))
  have HSZ0 := Lib.hid (show w.heap.size + 2 < (((w.alloc (.cells #[.string x.fRule, .int .i64 x.fLiteral, .slice a2 x.fChildren.length c2] 52)).alloc (.cells #[.string ⟨#[]⟩, .int .i64 0, .slice none 0 0] 39)).alloc (.cells #[.string ⟨#[]⟩, .int .i64 0, .slice none 0 0] 39)).heap.size by simp)
  have ht0 := fun (w' : World) (hhi : hi ≤ w'.heap.size) (hs : Sl lo hi w' 1 x.fChildren.length (fun k => ictI (x.fChildren.getD k default)) a2) => laws_toIntS (cap := c2) x.fChildren (by have h := HW.out; unfold DCell.sz at h; omega) w' hhi hs
  have HT0 := Lib.hid ht0
  clear ht0
  go_enter Tryd.func24, Tryd.ntmps24
  go_wp2_with fail
  refine (HT0.out _ (Nat.le_trans hhi (Below.size ((by repeat (first | (with_reducible exact HB0.out) | (with_reducible exact Below.refl _ _) | (refine Below.setCell ?_ (by simp <;> omega) _) | (refine Below.alloc ?_ (by simp <;> omega) _)) : Below w.heap.size w _)))) (HS2.out.later ((by repeat (first | (with_reducible exact HB0.out) | (with_reducible exact Below.refl _ _) | (refine Below.setCell ?_ (by simp <;> omega) _) | (refine Below.alloc ?_ (by simp <;> omega) _)) : Below w.heap.size w _)) hhi)).mono ?_
  rintro e w1 ⟨a2r, c2r, rfl, ho1, hb1⟩
  have hsz1 : w.heap.size + 2 < w1.heap.size := Nat.lt_of_lt_of_le (by have h := HSZ0.out; first | (with_reducible exact h) | (simp; done) | (simp; omega) | (simp [World.setCell]; omega)) hb1.size
  have hlo1 : w.heap.size + 3 ≤ w1.heap.size := Nat.le_trans (by first | (with_reducible exact Nat.le_refl _) | (simp; done) | (simp; omega) | (simp [World.setCell]; omega)) hb1.size
  have hbw1 : Below w.heap.size w w1 := Below.trans ((by repeat (first | (with_reducible exact HB0.out) | (with_reducible exact Below.refl _ _) | (refine Below.setCell ?_ (by simp <;> omega) _) | (refine Below.alloc ?_ (by simp <;> omega) _)) : Below w.heap.size w _)) (hb1.mono (Below.size ((by repeat (first | (with_reducible exact HB0.out) | (with_reducible exact Below.refl _ _) | (refine Below.setCell ?_ (by simp <;> omega) _) | (refine Below.alloc ?_ (by simp <;> omega) _)) : Below w.heap.size w _))))
  have HO1_1 := Lib.hid (ho1.sub (F' := fun y => w.heap.size + 3 ≤ y ∧ y < w1.heap.size) (fun y hy => ⟨Nat.le_trans (by first | (with_reducible exact Nat.le_refl _) | (simp; done) | (simp; omega) | (simp [World.setCell]; done) | (simp [World.setCell]; omega)) hy.1, hy.2⟩))
  clear ho1
  have x1_1_0 : w1.cell? ⟨w.heap.size + 1, 0, none⟩ = some (.string ⟨#[]⟩) := (hb1.cell (p := ⟨w.heap.size + 1, 0, none⟩) (by first | omega | (simp; done) | (simp; omega) | (simp [World.setCell]; omega))).trans (by go_simp)
  have z1_1_0 : w1.frozen? ⟨w.heap.size + 1, 0, none⟩ = false := (hb1.frozen (p := ⟨w.heap.size + 1, 0, none⟩) (by first | omega | (simp; done) | (simp; omega) | (simp [World.setCell]; omega))).trans (by go_simp)
  have x1_1_1 : w1.cell? ⟨w.heap.size + 1, 1, none⟩ = some (.int .i64 0) := (hb1.cell (p := ⟨w.heap.size + 1, 1, none⟩) (by first | omega | (simp; done) | (simp; omega) | (simp [World.setCell]; omega))).trans (by go_simp)
  have z1_1_1 : w1.frozen? ⟨w.heap.size + 1, 1, none⟩ = false := (hb1.frozen (p := ⟨w.heap.size + 1, 1, none⟩) (by first | omega | (simp; done) | (simp; omega) | (simp [World.setCell]; omega))).trans (by go_simp)
  have x1_1_2 : w1.cell? ⟨w.heap.size + 1, 2, none⟩ = some (.slice none 0 0) := (hb1.cell (p := ⟨w.heap.size + 1, 2, none⟩) (by first | omega | (simp; done) | (simp; omega) | (simp [World.setCell]; omega))).trans (by go_simp)
  have z1_1_2 : w1.frozen? ⟨w.heap.size + 1, 2, none⟩ = false := (hb1.frozen (p := ⟨w.heap.size + 1, 2, none⟩) (by first | omega | (simp; done) | (simp; omega) | (simp [World.setCell]; omega))).trans (by go_simp)
  have x1_2_0 : w1.cell? ⟨w.heap.size + 2, 0, none⟩ = some (.string x.fRule) := (hb1.cell (p := ⟨w.heap.size + 2, 0, none⟩) (by first | omega | (simp; done) | (simp; omega) | (simp [World.setCell]; omega))).trans (by go_simp)
  have z1_2_0 : w1.frozen? ⟨w.heap.size + 2, 0, none⟩ = false := (hb1.frozen (p := ⟨w.heap.size + 2, 0, none⟩) (by first | omega | (simp; done) | (simp; omega) | (simp [World.setCell]; omega))).trans (by go_simp)
  have x1_2_1 : w1.cell? ⟨w.heap.size + 2, 1, none⟩ = some (.int .i64 x.fLiteral) := (hb1.cell (p := ⟨w.heap.size + 2, 1, none⟩) (by first | omega | (simp; done) | (simp; omega) | (simp [World.setCell]; omega))).trans (by go_simp)
  have z1_2_1 : w1.frozen? ⟨w.heap.size + 2, 1, none⟩ = false := (hb1.frozen (p := ⟨w.heap.size + 2, 1, none⟩) (by first | omega | (simp; done) | (simp; omega) | (simp [World.setCell]; omega))).trans (by go_simp)
  have x1_2_2 : w1.cell? ⟨w.heap.size + 2, 2, none⟩ = some (.slice none 0 0) := (hb1.cell (p := ⟨w.heap.size + 2, 2, none⟩) (by first | omega | (simp; done) | (simp; omega) | (simp [World.setCell]; omega))).trans (by go_simp)
  have z1_2_2 : w1.frozen? ⟨w.heap.size + 2, 2, none⟩ = false := (hb1.frozen (p := ⟨w.heap.size + 2, 2, none⟩) (by first | omega | (simp; done) | (simp; omega) | (simp [World.setCell]; omega))).trans (by go_simp)
  have HG1 := Lib.hid (show w1.heap[w.heap.size + 1]? = some (.cells #[.string ⟨#[]⟩, .int .i64 0, .slice none 0 0] 39) from (hb1.block _ (by first | omega | (simp; done) | (simp; omega) | (simp [World.setCell]; omega))).trans (by (repeat (refine blk_other (by simp) ?_)); exact blk_alloc (by simp) (blk_new (by simp))))
  have HB1 := Lib.hid hbw1
  have HSZ1 := Lib.hid hsz1
  have HLO1 := Lib.hid hlo1
  clear hb1 hbw1 hsz1 hlo1
  go_wp2
  refine bodyPost_ret (v := .agg #[.string x.fRule, .int .i64 x.fLiteral, .slice a2r x.fChildren.length c2r]) (results_cell_row Tryd.results24 _ _ (w.heap.size + 1) 39 #[.string x.fRule, .int .i64 x.fLiteral, .slice a2r x.fChildren.length c2r] (0, 0) _ rfl (by refine Eq.trans (blk_set (cs := #[.string x.fRule, .int .i64 x.fLiteral, .slice none 0 0]) (t := 39) (fr := (0, 0)) ?_) rfl; refine Eq.trans (blk_set (cs := #[.string x.fRule, .int .i64 0, .slice none 0 0]) (t := 39) (fr := (0, 0)) ?_) rfl; refine Eq.trans (blk_set (cs := #[.string ⟨#[]⟩, .int .i64 0, .slice none 0 0]) (t := 39) (fr := (0, 0)) ?_) rfl; repeat (first | (with_reducible exact HG1.out) | (refine blk_other (by simp) ?_))) Tryd.underlying39 rfl rfl) rfl ⟨a2r, c2r, rfl, ?_, (by repeat (first | (with_reducible exact HB1.out) | (with_reducible exact Below.refl _ _) | (refine Below.setCell ?_ (by simp <;> omega) _) | (refine Below.alloc ?_ (by simp <;> omega) _)) : Below w.heap.size w _)⟩
  have ho1 := HO1_1.out
  clear HO1_1
  have q1 := HLO1.out
  skip
  have hkk : ∀ w9 : World, Kept (fun y => w.heap.size + 3 ≤ y) w1 w9 → OwnR w9 (fun y => w.heap.size ≤ y ∧ y < w1.heap.size) 3 x.ct (fun j => [.string x.fRule, .int .i64 x.fLiteral, .slice a2r x.fChildren.length c2r].getD j .nilFunc) := fun w9 hk => by
    refine OwnR.append (F1 := fun _ => False) (F2 := fun y => w.heap.size + 3 ≤ y ∧ y < w1.heap.size) (m := 2) (n := 1) ?_ ?_ (by intro y h1 h2; first | exact h1.elim | exact h2.elim | (have h3 := h1.2; have h4 := h2.1; omega)) (by intro y h1; first | exact h1.elim | (have h3 := h1.1; have h4 := h1.2; exact ⟨by omega, by omega⟩)) (by intro y h1; first | exact h1.elim | (have h3 := h1.1; have h4 := h1.2; exact ⟨by omega, by omega⟩))
    · skip
      refine OwnR.lits (F := fun _ => False) fun j hj => ?_
      match j, hj with
      | 0, _ => rfl
      | 1, _ => rfl
    · skip
      exact OwnR.one (ho1.kept (hk.sub fun y hy => by have h := hy.1; omega))
  refine (hkk _ (by repeat (first | (with_reducible exact Kept.refl) | (refine Kept.put ?_ (by intro h1; dsimp only at h1; omega))))).sub (fun y hy => ⟨hy.1, Nat.lt_of_lt_of_le hy.2 (by simp)⟩)

theorem info_Cell : (Tryd.prog.info? 39).map (fun i => (i.zero, i.size, i.bytes)) = some (some (.agg #[.string ⟨#[]⟩, .int .i64 0, .slice none 0 0]), 3, 48) := by kernel_rfl

set_option maxHeartbeats 1600000 in
set_option maxRecDepth 100000 in
theorem laws_toCellS {lo hi : Nat} {a : Option Addr} {cap : Nat} (l : List DCell) (hsz : lsz DCell.sz l ≤ 1048576) (w : World) (hhi : hi ≤ w.heap.size) (hs : Sl lo hi w 3 l.length (fun k => DCell.ct (l.getD k default)) a) :
    Calls Tryd.prog 15 #[.slice a l.length cap] w fun e w' => ∃ a' cap', e = .returned (.slice a' l.length cap') ∧ Own w' (fun x => w.heap.size ≤ x ∧ x < w'.heap.size) (.sl 3 l.length (fun k => DCell.ct (l.getD k default))) (.slice a' l.length cap') ∧ Below w.heap.size w w' := by
  have HS := Lib.hid hs
  clear hs
  have HW := Lib.hid hsz
  have hn : l.length ≤ 1048576 := by unfold lsz at hsz; omega
  clear hsz
  obtain ⟨i0, hi', hz0, hz1, hz2⟩ := info_parts info_Cell
  go_enter Tryd.func15, Tryd.ntmps15
  go_wp2_with (at_make; refine wpList_make_full _ rfl (.tmp 6) (.tmp 6) 27 rfl w.heap.size 39 i0 (.agg #[.string ⟨#[]⟩, .int .i64 0, .slice none 0 0]) 3 Tryd.underlying27 hi' hz0 hz1 .i64 .i64 (l.length : Int) (l.length : Int) l.length rfl rfl rfl rfl (by rw [hz2]; omega) (by unfold maxLen; omega) (Nat.le_refl _) ?_; intro w1 hown hgrow)
  have hb1 : Below w.heap.size w w1 := (Below.refl _ w).grown hgrow (Nat.le_refl _) (fun k hk => by cases hk)
  clear hgrow
  have hblk := (ownsRow_block hown).1
  go_loopw [4] (fun i wr => ∃ (k : Nat) (xs : List Value), k ≤ l.length ∧ i = .int .i64 (k : Int) ∧ wr.ownsRow w.heap.size 39 3 (.slice (some ⟨w.heap.size, 0, none⟩) l.length l.length) l.length xs ∧ Filled w.heap.size wr 3 k (fun k => DCell.ct (l.getD k default)) xs ∧ Below w.heap.size w wr) (fun i _ => l.length - (intOf i).toNat)
  case atStart => exact ⟨0, _, Nat.zero_le _, rfl, hown, Filled.zero hblk, hb1⟩
  case round =>
    clear hown hb1 hblk
    obtain ⟨k, xs, hk, rfl, hown, hfill, hb⟩ := hrel
    have hblk := ownsRow_block hown
    have HO := Lib.hid hown
    have HF := Lib.hid hfill
    have HB := Lib.hid hb
    clear hown hfill
    by_cases hlt : k < l.length
    · have hhr : hi ≤ wr.heap.size := Nat.le_trans hhi hb.size
      obtain ⟨b, off, rfl, hlo, hhi', hc⟩ := (HS.out.later (hb.mono hhi) (Nat.le_refl _)).at k hlt
      obtain ⟨a2, c2, hc0_, hc1_, hc2_, hs2⟩ := DCell.open hc
      have hkn : k * 3 + 3 ≤ l.length * 3 := by omega
      have d0 := hblk.2.2.1 (k * 3) (by omega)
      have z0 := hblk.2.2.2 (k * 3)
      have d1 := hblk.2.2.1 (k * 3 + 1) (by omega)
      have z1 := hblk.2.2.2 (k * 3 + 1)
      have d2 := hblk.2.2.1 (k * 3 + 2) (by omega)
      have z2 := hblk.2.2.2 (k * 3 + 2)
      have hsz := hblk.1
      clear hblk hb hc
      have hxs := szle_at (f := DCell.sz) l k hlt
      generalize hx : l.getD k default = x at *
      have HX := Lib.hid hx
      clear hx
      generalize xs.getD (k * 3) Value.nilFunc = v0 at d0
      generalize xs.getD (k * 3 + 1) Value.nilFunc = v1 at d1
      generalize xs.getD (k * 3 + 2) Value.nilFunc = v2 at d2
      have HT := Lib.hid (laws_toCell (c2 := c2) x (by have h1 := HW.out; omega) wr hhr hs2)
      clear hxs hs2
      go_wp2_with fail
      refine HT.out.mono ?_
      rintro e w1 ⟨a2r, c2r, rfl, ho1, hb1⟩
      have HOR := Lib.hid ho1
      clear ho1
      have e0 := (hb1.cell (p := ⟨w.heap.size, k * 3, none⟩) hsz).trans d0
      have y0 := (hb1.frozen (p := ⟨w.heap.size, k * 3, none⟩) hsz).trans z0
      have e1 := (hb1.cell (p := ⟨w.heap.size, k * 3 + 1, none⟩) hsz).trans d1
      have y1 := (hb1.frozen (p := ⟨w.heap.size, k * 3 + 1, none⟩) hsz).trans z1
      have e2 := (hb1.cell (p := ⟨w.heap.size, k * 3 + 2, none⟩) hsz).trans d2
      have y2 := (hb1.frozen (p := ⟨w.heap.size, k * 3 + 2, none⟩) hsz).trans z2
      have HB1 := Lib.hid hb1
      clear hb1 d0 z0 d1 z1 d2 z2
      go_wp2
      go_roundw
      case rel =>
        have hst := HF.out.stored HB1.out hsz (ownsRow_below HO.out HB1.out) hlt [.string x.fRule, .int .i64 x.fLiteral, .slice a2r x.fChildren.length c2r] rfl ((by rw [HX.out]; exact HOR.out))
        exact ⟨k + 1, _, by omega, by go_num, hst.1, hst.2, setCells_below (Nat.le_refl _) [_, _, _] _ (HB.out.trans (HB1.out.mono HB.out.size))⟩
      case measure => simp [intOf]; omega
    · obtain rfl : k = l.length := by omega
      go_wp2
      go_ret
      exact ⟨_, _, rfl, HF.out.own hblk.1 hblk.2.2.1 hblk.2.2.2, hb⟩

set_option maxHeartbeats 1600000 in
set_option maxRecDepth 100000 in
theorem laws_eqCell {lo hi lo2 hi2 : Nat} {a2 : Option Addr} {c2 : Nat} {a2q : Option Addr} {c2q : Nat} (x : DCell) (hsz : x.sz ≤ 1048576) (w : World) (hhi : hi ≤ w.heap.size) (hhi2 : hi2 ≤ w.heap.size) (hs2 : Sl lo hi w 1 x.fChildren.length (fun k => ictI (x.fChildren.getD k default)) a2) (hs2q : Sl lo2 hi2 w 1 x.fChildren.length (fun k => ictI (x.fChildren.getD k default)) a2q) :
    Calls Tryd.prog 29 #[.agg #[.string x.fRule, .int .i64 x.fLiteral, .slice a2 x.fChildren.length c2], .agg #[.string x.fRule, .int .i64 x.fLiteral, .slice a2q x.fChildren.length c2q]] w fun e w' => e = .returned (.bool true) ∧ Below w.heap.size w w' := by
  have HS2 := Lib.hid hs2
  have HS2q := Lib.hid hs2q
  clear hs2 hs2q
  have HW := Lib.hid hsz
  clear hsz
  have HB0 := Lib.hid (((Below.refl w.heap.size w).alloc (Nat.le_refl _) (.cells #[.string x.fRule, .int .i64 x.fLiteral, .slice a2 x.fChildren.length c2] 39)).alloc (by simp <;> omega) (.cells #[.string x.fRule, .int .i64 x.fLiteral, .slice a2q x.fChildren.length c2q] 39))
  have ht0 := fun (w' : World) (hhi : hi ≤ w'.heap.size) (hhi2 : hi2 ≤ w'.heap.size) (hs : Sl lo hi w' 1 x.fChildren.length (fun k => ictI (x.fChildren.getD k default)) a2) (hs2 : Sl lo2 hi2 w' 1 x.fChildren.length (fun k => ictI (x.fChildren.getD k default)) a2q) => laws_eqIntS (cap := c2) (cap2 := c2q) x.fChildren (by have h := HW.out; unfold DCell.sz at h; omega) w' hhi hhi2 hs hs2
  have HT0 := Lib.hid ht0
  clear ht0
  go_enter Tryd.func29, Tryd.ntmps29
  go_wp2_with fail
  refine (HT0.out _ (Nat.le_trans hhi (HB0.out.size)) (Nat.le_trans hhi2 (HB0.out.size)) (HS2.out.later HB0.out hhi) (HS2q.out.later HB0.out hhi2)).mono ?_
  rintro e w1 ⟨rfl, hb1⟩
  have HB1 := Lib.hid (HB0.out.trans (hb1.mono HB0.out.size))
  clear hb1
  go_wp2
  go_ret
  exact ⟨rfl, HB1.out⟩

set_option maxHeartbeats 1600000 in
set_option maxRecDepth 100000 in
theorem laws_eqCellS {lo hi lo2 hi2 : Nat} {a a2 : Option Addr} {cap cap2 : Nat} (l : List DCell) (hsz : lsz DCell.sz l ≤ 1048576) (w : World) (hhi : hi ≤ w.heap.size) (hhi2 : hi2 ≤ w.heap.size) (hs : Sl lo hi w 3 l.length (fun k => DCell.ct (l.getD k default)) a) (hs2 : Sl lo2 hi2 w 3 l.length (fun k => DCell.ct (l.getD k default)) a2) :
    Calls Tryd.prog 19 #[.slice a l.length cap, .slice a2 l.length cap2] w fun e w' => e = .returned (.bool true) ∧ Below w.heap.size w w' := by
  have HS := Lib.hid hs
  have HS2 := Lib.hid hs2
  have HW := Lib.hid hsz
  have hn : l.length ≤ 1048576 := by unfold lsz at hsz; omega
  clear hs hs2 hsz
  go_enter Tryd.func19, Tryd.ntmps19
  go_wp2
  go_loopw [5] (fun i wr => ∃ k : Nat, k ≤ l.length ∧ i = .int .i64 (k : Int) ∧ Below w.heap.size w wr) (fun i _ => l.length - (intOf i).toNat)
  case atStart => exact ⟨0, Nat.zero_le _, rfl, Below.refl _ _⟩
  case round =>
    obtain ⟨k, hk, rfl, hb⟩ := hrel
    have HB := Lib.hid hb
    by_cases hlt : k < l.length
    · have hhr : hi ≤ wr.heap.size := Nat.le_trans hhi hb.size
      have hhr2 : hi2 ≤ wr.heap.size := Nat.le_trans hhi2 hb.size
      obtain ⟨b, off, rfl, _, hhi', hc⟩ := (HS.out.later (hb.mono hhi) (Nat.le_refl _)).at k hlt
      obtain ⟨b2, off2, rfl, _, hhi2', hc2⟩ := (HS2.out.later (hb.mono hhi2) (Nat.le_refl _)).at k hlt
      obtain ⟨a2, c2, hc0_, hc1_, hc2_, hs2⟩ := DCell.open hc
      obtain ⟨a2q, c2q, hc0q_, hc1q_, hc2q_, hs2q⟩ := DCell.open hc2
      have hxs := szle_at (f := DCell.sz) l k hlt
      clear hb hc hc2
      generalize l.getD k default = x at *
      have HT := Lib.hid (fun (w' : World) (hw : Below wr.heap.size wr w') => laws_eqCell (c2 := c2) (c2q := c2q) x (by have h1 := HW.out; omega) w' (Nat.le_trans hhr hw.size) (Nat.le_trans hhr2 hw.size) (hs2.later hw hhr) (hs2q.later hw hhr2))
      clear hxs hs2 hs2q
      go_wp2_with fail
      go_region_with ((go_at_call 29; refine (HT.out _ (by first | exact Below.refl _ _ | exact (Below.refl _ _).drew | exact below_drewN (Below.refl _ _) _)).mono ?_; rintro e w1 ⟨rfl, hb1⟩))
      all_goals
        go_wp2
        go_roundw
        case rel =>
          refine ⟨k + 1, by omega, by go_num, ?_⟩
          have hb2 : Below wr.heap.size wr w1 := ⟨hb1.os, hb1.tape, hb1.output, hb1.size, hb1.block⟩
          repeat (first | exact HB.out.trans (hb2.mono HB.out.size) | apply Below.drew | refine below_drewN ?_ _)
        case measure => simp [intOf]; omega
    · go_wp2
      go_ret
      exact ⟨rfl, HB.out⟩
end Go.Proofs.YtjlcbbaicengbaaDoor
