/-
  The type Node of the laws: its data, and the contracts of the laws' own helpers on it.
-/
import Derived.Test.YtjhgifpnpkcaoaaGreatTInt
import Derived.WalkSpells
import Derived.WalkSmall
import Derived.WalkLawsBesides
import Derived.SliceStrings
import Derived.Deep.QuietTactic
import Derived.Deep.RegionWith
import Derived.BigQuiet
import Derived.Outline
import Derived.Laws.Rows
namespace Go.Proofs.YtjhgifpnpkcaoaaGreat
open Go.ChangeShapes Go.WideShapes Go.ChangeAt Go.RowKit Go.Deep

structure DNode where
  fId : Int
  fParent : Int
  fPlace : Int
  fLiteral : Int
  fRule : ByteArray
  fChildren : List (Int)
  deriving Inhabited

def DNode.ct (x : DNode) : Nat → Ct
  | 0 => .lit (.int .i64 x.fId)
  | 1 => .lit (.int .i64 x.fParent)
  | 2 => .lit (.int .i64 x.fPlace)
  | 3 => .lit (.int .i64 x.fLiteral)
  | 4 => .lit (.string x.fRule)
  | 5 => .sl 1 x.fChildren.length (fun k => ictI (x.fChildren.getD k default))
  | _ => .lit .nilFunc

def DNode.ok (x : DNode) : Prop := okI x.fId ∧ okI x.fParent ∧ okI x.fPlace ∧ okI x.fLiteral ∧ okS x.fRule ∧ (okL okI) x.fChildren

def DNode.sz (x : DNode) : Nat := x.fRule.size + (lsz (fun _ => 0)) x.fChildren

theorem DNode.open {lo hi b o : Nat} {w : World} {x : DNode} (h : ∀ j, j < 6 → ∃ u, w.cell? ⟨b, o + j, none⟩ = some u ∧ Lies lo hi w (x.ct j) u) :
    ∃ a5 c5, w.cell? ⟨b, o, none⟩ = some (.int .i64 x.fId) ∧ w.cell? ⟨b, o + 1, none⟩ = some (.int .i64 x.fParent) ∧ w.cell? ⟨b, o + 2, none⟩ = some (.int .i64 x.fPlace) ∧ w.cell? ⟨b, o + 3, none⟩ = some (.int .i64 x.fLiteral) ∧ w.cell? ⟨b, o + 4, none⟩ = some (.string x.fRule) ∧ w.cell? ⟨b, o + 5, none⟩ = some (.slice a5 x.fChildren.length c5) ∧ Sl lo hi w 1 x.fChildren.length (fun k => ictI (x.fChildren.getD k default)) a5 := by
  obtain ⟨u0, hc0, hl0⟩ := h 0 (by decide)
  obtain rfl := lies_lit hl0
  obtain ⟨u1, hc1, hl1⟩ := h 1 (by decide)
  obtain rfl := lies_lit hl1
  obtain ⟨u2, hc2, hl2⟩ := h 2 (by decide)
  obtain rfl := lies_lit hl2
  obtain ⟨u3, hc3, hl3⟩ := h 3 (by decide)
  obtain rfl := lies_lit hl3
  obtain ⟨u4, hc4, hl4⟩ := h 4 (by decide)
  obtain rfl := lies_lit hl4
  obtain ⟨u5, hc5, hl5⟩ := h 5 (by decide)
  obtain ⟨a5, c5, rfl, hs5⟩ := lies_sl hl5
  exact ⟨a5, c5, hc0, hc1, hc2, hc3, hc4, hc5, hs5⟩

theorem opens_node {H : Type} {enc : TypeId × Value → H} {w : World} (fuel : Nat) : Opens enc Tryz.prog w 109 6 DNode.ct DNode.ok fuel := by
  intro cs x h
  have hl := opens_len Tryz.underlying109 h
  obtain ⟨y0, k0, q0⟩ := opens_field Tryz.underlying109 h 0 _ rfl (ft := 3) (o := 0) (n := 1) rfl rfl (fun m _ => opens_int Tryz.underlying3 m) (by kernel_rfl)
  obtain ⟨y1, k1, q1⟩ := opens_field Tryz.underlying109 h 1 _ rfl (ft := 3) (o := 1) (n := 1) rfl rfl (fun m _ => opens_int Tryz.underlying3 m) (by kernel_rfl)
  obtain ⟨y2, k2, q2⟩ := opens_field Tryz.underlying109 h 2 _ rfl (ft := 3) (o := 2) (n := 1) rfl rfl (fun m _ => opens_int Tryz.underlying3 m) (by kernel_rfl)
  obtain ⟨y3, k3, q3⟩ := opens_field Tryz.underlying109 h 3 _ rfl (ft := 3) (o := 3) (n := 1) rfl rfl (fun m _ => opens_int Tryz.underlying3 m) (by kernel_rfl)
  obtain ⟨y4, k4, q4⟩ := opens_field Tryz.underlying109 h 4 _ rfl (ft := 9) (o := 4) (n := 1) rfl rfl (fun m _ => opens_string Tryz.underlying9 m) (by kernel_rfl)
  obtain ⟨y5, k5, q5⟩ := opens_field Tryz.underlying109 h 5 _ rfl (ft := 88) (o := 5) (n := 1) rfl rfl (fun m _ => (fun fuel => opens_slice Tryz.underlying88 (e := 3) (n := 1) (by kernel_rfl) (by decide) fuel (fun m _ => (opens_int Tryz.underlying3) m)) m) (by kernel_rfl)
  refine ⟨⟨y0, y1, y2, y3, y4, y5⟩, ⟨k0, k1, k2, k3, k4, k5⟩, hl.trans (by kernel_rfl), fun j hj => ?_⟩
  match j, hj with
  | 0, _ => exact q0 0 (by decide)
  | 1, _ => exact q1 0 (by decide)
  | 2, _ => exact q2 0 (by decide)
  | 3, _ => exact q3 0 (by decide)
  | 4, _ => exact q4 0 (by decide)
  | 5, _ => exact q5 0 (by decide)

open Go.WideElems Go.WideMaps in
set_option maxRecDepth 100000 in
theorem arg_node {H : Type} {enc : TypeId × Value → H} {W : World} {base : Nat} {v : Value} {d : DataW H} {p : List MemPlace} (hv : Value.okWide Tryz.prog W .any base 109 v) (h : DataW.Trod enc Tryz.prog W 0 (fun _ => true) true 109 v d p) :
    ∃ (x : DNode) (a5 : Option Addr) (c5 : Nat), v = .agg #[.int .i64 x.fId, .int .i64 x.fParent, .int .i64 x.fPlace, .int .i64 x.fLiteral, .string x.fRule, .slice a5 x.fChildren.length c5] ∧ x.ok ∧ Sl 0 W.heap.size W 1 x.fChildren.length (fun k => ictI (x.fChildren.getD k default)) a5 := by
  obtain ⟨cs, rfl, hsz⟩ := okWide_struct Tryz.underlying109 hv
  obtain ⟨fuel, hf⟩ := h
  obtain ⟨x, hx, hl, hj⟩ := opens_node fuel _ _ hf
  obtain ⟨l⟩ := cs
  match l, hl, hj with
  | [e0, e1, e2, e3, e4, e5], _, hj =>
    obtain ⟨u0, hu0, hl0⟩ := hj 0 (by decide)
    obtain rfl := lies_lit hl0
    obtain rfl : e0 = _ := Option.some.inj hu0
    obtain ⟨u1, hu1, hl1⟩ := hj 1 (by decide)
    obtain rfl := lies_lit hl1
    obtain rfl : e1 = _ := Option.some.inj hu1
    obtain ⟨u2, hu2, hl2⟩ := hj 2 (by decide)
    obtain rfl := lies_lit hl2
    obtain rfl : e2 = _ := Option.some.inj hu2
    obtain ⟨u3, hu3, hl3⟩ := hj 3 (by decide)
    obtain rfl := lies_lit hl3
    obtain rfl : e3 = _ := Option.some.inj hu3
    obtain ⟨u4, hu4, hl4⟩ := hj 4 (by decide)
    obtain rfl := lies_lit hl4
    obtain rfl : e4 = _ := Option.some.inj hu4
    obtain ⟨u5, hu5, hl5⟩ := hj 5 (by decide)
    obtain ⟨a5, c5, rfl, hs5⟩ := lies_sl hl5
    obtain rfl : e5 = _ := Option.some.inj hu5
    exact ⟨x, a5, c5, rfl, hx, hs5⟩

open Go.WideElems Go.WideMaps in
theorem arg_nodeS {H : Type} {enc : TypeId × Value → H} {W : World} {v : Value} {d : DataW H} {p : List MemPlace} {a0 : Option Addr} {len cap : Nat} (hv : v = .slice a0 len cap) (h : DataW.Trod enc Tryz.prog W 0 (fun _ => true) true 26 v d p) :
    ∃ (l : List DNode) (a : Option Addr) (cap : Nat), v = .slice a l.length cap ∧ okL DNode.ok l ∧ Sl 0 W.heap.size W 6 l.length (fun k => DNode.ct (l.getD k default)) a := by
  subst hv
  obtain ⟨fuel, hf⟩ := h
  obtain ⟨x, hx, hl, hj⟩ := opens_slice Tryz.underlying26 (e := 109) (n := 6) (by kernel_rfl) (by decide) fuel (fun m _ => opens_node m) _ _ hf
  obtain ⟨u0, hu0, hl0⟩ := hj 0 (by decide)
  obtain ⟨a, c, rfl, hs⟩ := lies_sl hl0
  exact ⟨x, a, c, Option.some.inj hu0, hx, hs⟩

set_option maxHeartbeats 1600000 in
set_option maxRecDepth 100000 in
theorem laws_szNode {lo hi : Nat} {a5 : Option Addr} {c5 : Nat} (x : DNode) (L : Int) (hL0 : 0 ≤ L) (hL1 : L ≤ 1048576) (hx : x.ok) (w : World) (hhi : hi ≤ w.heap.size) (hs5 : Sl lo hi w 1 x.fChildren.length (fun k => ictI (x.fChildren.getD k default)) a5) :
    Calls Tryz.prog 54 #[.agg #[.int .i64 x.fId, .int .i64 x.fParent, .int .i64 x.fPlace, .int .i64 x.fLiteral, .string x.fRule, .slice a5 x.fChildren.length c5], .int .i64 L] w fun e w' => e = .returned (.int .i64 (szR L x.sz)) ∧ Below w.heap.size w w' := by
  have HS5 := Lib.hid hs5
  clear hs5
  have HX := Lib.hid hx
  clear hx
  have okRule : x.fRule.size ≤ 9223372036854775807 := HX.out.2.2.2.2.1
  have HB0 := Lib.hid ((Below.refl w.heap.size w).alloc (Nat.le_refl _) (.cells #[.int .i64 x.fId, .int .i64 x.fParent, .int .i64 x.fPlace, .int .i64 x.fLiteral, .string x.fRule, .slice a5 x.fChildren.length c5] 109))
  by_cases h0 : L < ((x.fRule.size : Nat) : Int)
  · skip
    have fin := Lib.hid (szR_gt (n := x.sz) (L := L) (by unfold DNode.sz; omega))
    go_enter Tryz.func54, Tryz.ntmps54
    go_wp2
    go_ret
    exact ⟨ret_i (by rw [fin.out]), HB0.out⟩
  · skip
    by_cases h1 : (L - (x.fRule.size : Nat)) < (((lsz (fun _ => 0)) x.fChildren : Nat) : Int)
    · skip
      have hz0 := fun (w' : World) (hhi : hi ≤ w'.heap.size) (hs5 : Sl lo hi w' 1 x.fChildren.length (fun k => ictI (x.fChildren.getD k default)) a5) => laws_szIntS (cap := c5) x.fChildren (L - (x.fRule.size : Nat)) (by omega) (by omega) HX.out.2.2.2.2.2 w' hhi hs5
      rw [szR_gt (by omega)] at hz0
      have HZ0 := Lib.hid hz0
      clear hz0
      have fin := Lib.hid (szR_gt (n := x.sz) (L := L) (by unfold DNode.sz; omega))
      go_enter Tryz.func54, Tryz.ntmps54
      go_wp2_with fail
      refine (HZ0.out _ (Nat.le_trans hhi HB0.out.size) (HS5.out.later HB0.out hhi)).mono ?_
      rintro e w1 ⟨rfl, hb1⟩
      have hsz1 : w.heap.size < w1.heap.size := Nat.lt_of_lt_of_le (by first | omega | (simp; done) | (simp; omega)) hb1.size
      have HB1 := Lib.hid (HB0.out.trans (hb1.mono HB0.out.size))
      clear hb1
      go_wp2
      go_ret
      exact ⟨ret_i (by rw [fin.out]), HB1.out⟩
    · skip
      have hz0 := fun (w' : World) (hhi : hi ≤ w'.heap.size) (hs5 : Sl lo hi w' 1 x.fChildren.length (fun k => ictI (x.fChildren.getD k default)) a5) => laws_szIntS (cap := c5) x.fChildren (L - (x.fRule.size : Nat)) (by omega) (by omega) HX.out.2.2.2.2.2 w' hhi hs5
      rw [szR_le (by omega)] at hz0
      have HZ0 := Lib.hid hz0
      clear hz0
      have fin := Lib.hid (szR_le (n := x.sz) (L := L) (by unfold DNode.sz; omega))
      go_enter Tryz.func54, Tryz.ntmps54
      go_wp2_with fail
      refine (HZ0.out _ (Nat.le_trans hhi HB0.out.size) (HS5.out.later HB0.out hhi)).mono ?_
      rintro e w1 ⟨rfl, hb1⟩
      have hsz1 : w.heap.size < w1.heap.size := Nat.lt_of_lt_of_le (by first | omega | (simp; done) | (simp; omega)) hb1.size
      have HB1 := Lib.hid (HB0.out.trans (hb1.mono HB0.out.size))
      clear hb1
      go_wp2
      go_ret
      exact ⟨ret_i (by rw [fin.out]; unfold DNode.sz; omega), HB1.out⟩

set_option maxHeartbeats 1600000 in
set_option maxRecDepth 100000 in
theorem laws_szNodeS {lo hi : Nat} {a : Option Addr} {cap : Nat} (l : List DNode) (L : Int) (hL0 : 0 ≤ L) (hL1 : L ≤ 1048576) (hok : okL DNode.ok l) (w : World) (hhi : hi ≤ w.heap.size) (hs : Sl lo hi w 6 l.length (fun k => DNode.ct (l.getD k default)) a) :
    Calls Tryz.prog 26 #[.slice a l.length cap, .int .i64 L] w fun e w' => e = .returned (.int .i64 (szR L (lsz DNode.sz l))) ∧ Below w.heap.size w w' := by
  have HS := Lib.hid hs
  have HK := Lib.hid hok
  have hn : l.length ≤ 9223372036854775807 := hok.1
  clear hs hok
  by_cases hlong : L < ((l.length : Nat) : Int)
  · have fin := Lib.hid (szR_gt (n := lsz DNode.sz l) (L := L) (by unfold lsz; omega))
    go_enter Tryz.func26, Tryz.ntmps26
    go_wp2
    go_ret
    exact ⟨ret_i fin.out.symm, Below.refl _ _⟩
  · go_enter Tryz.func26, Tryz.ntmps26
    go_wp2
    go_loopw [1, 5] (fun q i wr => ∃ k : Nat, k ≤ l.length ∧ i = .int .i64 (k : Int) ∧ q = .int .i64 (L - l.length - psz DNode.sz l k) ∧ (l.length : Int) + psz DNode.sz l k ≤ L ∧ Below w.heap.size w wr) (fun _ i _ => l.length - (intOf i).toNat)
    case atStart => exact ⟨0, Nat.zero_le _, rfl, by rw [psz_zero]; go_num, by rw [psz_zero]; omega, Below.refl _ _⟩
    case round =>
      obtain ⟨k, hk, rfl, rfl, hle, hb⟩ := hrel
      have HB := Lib.hid hb
      by_cases hlt : k < l.length
      · have hsu := Lib.hid (psz_succ DNode.sz l k hlt)
        have hle2 := Lib.hid (psz_le DNode.sz l (k + 1))
        have hokk := HK.out.at hlt
        have hhr : hi ≤ wr.heap.size := Nat.le_trans hhi hb.size
        obtain ⟨b, off, rfl, hlo, hhi', hc⟩ := (HS.out.later (hb.mono hhi) (Nat.le_refl _)).at k hlt
        clear hb
        obtain ⟨a5, c5, hc0_, hc1_, hc2_, hc3_, hc4_, hc5_, hs5⟩ := DNode.open hc
        clear hc
        generalize l.getD k default = x at *
        generalize psz DNode.sz l k = S at *
        have hZ := laws_szNode (c5 := c5) x (L - l.length - S) (by omega) (by omega) hokk wr hhr hs5
        by_cases hf : ((x.sz : Nat) : Int) ≤ L - l.length - S
        · rw [szR_le hf] at hZ
          have HZ := Lib.hid hZ
          clear hZ hokk hs5
          go_wp2_with fail
          refine HZ.out.mono ?_
          rintro e w1 ⟨rfl, hb1⟩
          have HB1 := Lib.hid hb1
          clear hb1
          go_wp2
          go_roundw
          case rel => exact ⟨k + 1, by omega, by go_num, by rw [hsu.out]; go_num, by rw [hsu.out]; omega, HB.out.trans (HB1.out.mono HB.out.size)⟩
          case measure => simp [intOf]; omega
        · have fin := Lib.hid (szR_gt (n := lsz DNode.sz l) (L := L) (by have h1 := hsu.out; have h2 := hle2.out; omega))
          rw [szR_gt (by omega)] at hZ
          have HZ := Lib.hid hZ
          clear hZ hokk hs5
          go_wp2_with fail
          refine HZ.out.mono ?_
          rintro e w1 ⟨rfl, hb1⟩
          have HB1 := Lib.hid hb1
          clear hb1
          go_wp2
          go_ret
          exact ⟨ret_i fin.out.symm, HB.out.trans (HB1.out.mono HB.out.size)⟩
      · obtain rfl : k = l.length := by omega
        have fin := Lib.hid (szR_le (n := lsz DNode.sz l) (L := L) (by unfold lsz; rw [psz_all] at hle; omega))
        have fin2 := Lib.hid (psz_all DNode.sz l)
        go_wp2
        go_ret
        exact ⟨ret_i (by rw [fin.out, fin2.out]; unfold lsz; omega), HB.out⟩

set_option maxHeartbeats 1600000 in
set_option maxRecDepth 100000 in
theorem laws_toNode {lo hi : Nat} {a5 : Option Addr} {c5 : Nat} (x : DNode) (hsz : x.sz ≤ 1048576) (w : World) (hhi : hi ≤ w.heap.size) (hs5 : Sl lo hi w 1 x.fChildren.length (fun k => ictI (x.fChildren.getD k default)) a5) :
    Calls Tryz.prog 64 #[.agg #[.int .i64 x.fId, .int .i64 x.fParent, .int .i64 x.fPlace, .int .i64 x.fLiteral, .string x.fRule, .slice a5 x.fChildren.length c5]] w fun e w' => ∃ a5r c5r, e = .returned (.agg #[.int .i64 x.fId, .int .i64 x.fParent, .int .i64 x.fPlace, .int .i64 x.fLiteral, .string x.fRule, .slice a5r x.fChildren.length c5r]) ∧ OwnR w' (fun y => w.heap.size ≤ y ∧ y < w'.heap.size) 6 x.ct (fun j => [.int .i64 x.fId, .int .i64 x.fParent, .int .i64 x.fPlace, .int .i64 x.fLiteral, .string x.fRule, .slice a5r x.fChildren.length c5r].getD j .nilFunc) ∧ Below w.heap.size w w' := by
  have HS5 := Lib.hid hs5
  clear hs5
  have HW := Lib.hid hsz
  clear hsz
  have HB0 := Lib.hid (((((Below.refl w.heap.size w).alloc (Nat.le_refl _) (.cells #[.int .i64 x.fId, .int .i64 x.fParent, .int .i64 x.fPlace, .int .i64 x.fLiteral, .string x.fRule, .slice a5 x.fChildren.length c5] 109)).alloc (by simp <;> omega) (.cells #[.int .i64 0, .int .i64 0, .int .i64 0, .int .i64 0, .string ⟨#[]⟩, .slice none 0 0] 90))).alloc (by simp <;> omega) (.cells #[.int .i64 0, .int .i64 0, .int .i64 0, .int .i64 0, .string ⟨#[]⟩, .slice none 0 0] 90))
  have HSZ0 := Lib.hid (show w.heap.size + 2 < (((w.alloc (.cells #[.int .i64 x.fId, .int .i64 x.fParent, .int .i64 x.fPlace, .int .i64 x.fLiteral, .string x.fRule, .slice a5 x.fChildren.length c5] 109)).alloc (.cells #[.int .i64 0, .int .i64 0, .int .i64 0, .int .i64 0, .string ⟨#[]⟩, .slice none 0 0] 90)).alloc (.cells #[.int .i64 0, .int .i64 0, .int .i64 0, .int .i64 0, .string ⟨#[]⟩, .slice none 0 0] 90)).heap.size by simp)
  have ht0 := fun (w' : World) (hhi : hi ≤ w'.heap.size) (hs : Sl lo hi w' 1 x.fChildren.length (fun k => ictI (x.fChildren.getD k default)) a5) => laws_toIntS (cap := c5) x.fChildren (by have h := HW.out; unfold DNode.sz at h; omega) w' hhi hs
  have HT0 := Lib.hid ht0
  clear ht0
  go_enter Tryz.func64, Tryz.ntmps64
  go_wp2_with fail
  refine (HT0.out _ (Nat.le_trans hhi (Below.size ((by repeat (first | (with_reducible exact HB0.out) | (with_reducible exact Below.refl _ _) | (refine Below.setCell ?_ (by simp <;> omega) _) | (refine Below.alloc ?_ (by simp <;> omega) _)) : Below w.heap.size w _)))) (HS5.out.later ((by repeat (first | (with_reducible exact HB0.out) | (with_reducible exact Below.refl _ _) | (refine Below.setCell ?_ (by simp <;> omega) _) | (refine Below.alloc ?_ (by simp <;> omega) _)) : Below w.heap.size w _)) hhi)).mono ?_
  rintro e w1 ⟨a5r, c5r, rfl, ho1, hb1⟩
  have hsz1 : w.heap.size + 2 < w1.heap.size := Nat.lt_of_lt_of_le (by have h := HSZ0.out; first | (with_reducible exact h) | (simp; done) | (simp; omega) | (simp [World.setCell]; omega)) hb1.size
  have hlo1 : w.heap.size + 3 ≤ w1.heap.size := Nat.le_trans (by first | (with_reducible exact Nat.le_refl _) | (simp; done) | (simp; omega) | (simp [World.setCell]; omega)) hb1.size
  have hbw1 : Below w.heap.size w w1 := Below.trans ((by repeat (first | (with_reducible exact HB0.out) | (with_reducible exact Below.refl _ _) | (refine Below.setCell ?_ (by simp <;> omega) _) | (refine Below.alloc ?_ (by simp <;> omega) _)) : Below w.heap.size w _)) (hb1.mono (Below.size ((by repeat (first | (with_reducible exact HB0.out) | (with_reducible exact Below.refl _ _) | (refine Below.setCell ?_ (by simp <;> omega) _) | (refine Below.alloc ?_ (by simp <;> omega) _)) : Below w.heap.size w _))))
  have HO1_1 := Lib.hid (ho1.sub (F' := fun y => w.heap.size + 3 ≤ y ∧ y < w1.heap.size) (fun y hy => ⟨Nat.le_trans (by first | (with_reducible exact Nat.le_refl _) | (simp; done) | (simp; omega) | (simp [World.setCell]; done) | (simp [World.setCell]; omega)) hy.1, hy.2⟩))
  clear ho1
  have x1_1_0 : w1.cell? ⟨w.heap.size + 1, 0, none⟩ = some (.int .i64 0) := (hb1.cell (p := ⟨w.heap.size + 1, 0, none⟩) (by first | omega | (simp; done) | (simp; omega) | (simp [World.setCell]; omega))).trans (by go_simp)
  have z1_1_0 : w1.frozen? ⟨w.heap.size + 1, 0, none⟩ = false := (hb1.frozen (p := ⟨w.heap.size + 1, 0, none⟩) (by first | omega | (simp; done) | (simp; omega) | (simp [World.setCell]; omega))).trans (by go_simp)
  have x1_1_1 : w1.cell? ⟨w.heap.size + 1, 1, none⟩ = some (.int .i64 0) := (hb1.cell (p := ⟨w.heap.size + 1, 1, none⟩) (by first | omega | (simp; done) | (simp; omega) | (simp [World.setCell]; omega))).trans (by go_simp)
  have z1_1_1 : w1.frozen? ⟨w.heap.size + 1, 1, none⟩ = false := (hb1.frozen (p := ⟨w.heap.size + 1, 1, none⟩) (by first | omega | (simp; done) | (simp; omega) | (simp [World.setCell]; omega))).trans (by go_simp)
  have x1_1_2 : w1.cell? ⟨w.heap.size + 1, 2, none⟩ = some (.int .i64 0) := (hb1.cell (p := ⟨w.heap.size + 1, 2, none⟩) (by first | omega | (simp; done) | (simp; omega) | (simp [World.setCell]; omega))).trans (by go_simp)
  have z1_1_2 : w1.frozen? ⟨w.heap.size + 1, 2, none⟩ = false := (hb1.frozen (p := ⟨w.heap.size + 1, 2, none⟩) (by first | omega | (simp; done) | (simp; omega) | (simp [World.setCell]; omega))).trans (by go_simp)
  have x1_1_3 : w1.cell? ⟨w.heap.size + 1, 3, none⟩ = some (.int .i64 0) := (hb1.cell (p := ⟨w.heap.size + 1, 3, none⟩) (by first | omega | (simp; done) | (simp; omega) | (simp [World.setCell]; omega))).trans (by go_simp)
  have z1_1_3 : w1.frozen? ⟨w.heap.size + 1, 3, none⟩ = false := (hb1.frozen (p := ⟨w.heap.size + 1, 3, none⟩) (by first | omega | (simp; done) | (simp; omega) | (simp [World.setCell]; omega))).trans (by go_simp)
  have x1_1_4 : w1.cell? ⟨w.heap.size + 1, 4, none⟩ = some (.string ⟨#[]⟩) := (hb1.cell (p := ⟨w.heap.size + 1, 4, none⟩) (by first | omega | (simp; done) | (simp; omega) | (simp [World.setCell]; omega))).trans (by go_simp)
  have z1_1_4 : w1.frozen? ⟨w.heap.size + 1, 4, none⟩ = false := (hb1.frozen (p := ⟨w.heap.size + 1, 4, none⟩) (by first | omega | (simp; done) | (simp; omega) | (simp [World.setCell]; omega))).trans (by go_simp)
  have x1_1_5 : w1.cell? ⟨w.heap.size + 1, 5, none⟩ = some (.slice none 0 0) := (hb1.cell (p := ⟨w.heap.size + 1, 5, none⟩) (by first | omega | (simp; done) | (simp; omega) | (simp [World.setCell]; omega))).trans (by go_simp)
  have z1_1_5 : w1.frozen? ⟨w.heap.size + 1, 5, none⟩ = false := (hb1.frozen (p := ⟨w.heap.size + 1, 5, none⟩) (by first | omega | (simp; done) | (simp; omega) | (simp [World.setCell]; omega))).trans (by go_simp)
  have x1_2_0 : w1.cell? ⟨w.heap.size + 2, 0, none⟩ = some (.int .i64 x.fId) := (hb1.cell (p := ⟨w.heap.size + 2, 0, none⟩) (by first | omega | (simp; done) | (simp; omega) | (simp [World.setCell]; omega))).trans (by go_simp)
  have z1_2_0 : w1.frozen? ⟨w.heap.size + 2, 0, none⟩ = false := (hb1.frozen (p := ⟨w.heap.size + 2, 0, none⟩) (by first | omega | (simp; done) | (simp; omega) | (simp [World.setCell]; omega))).trans (by go_simp)
  have x1_2_1 : w1.cell? ⟨w.heap.size + 2, 1, none⟩ = some (.int .i64 x.fParent) := (hb1.cell (p := ⟨w.heap.size + 2, 1, none⟩) (by first | omega | (simp; done) | (simp; omega) | (simp [World.setCell]; omega))).trans (by go_simp)
  have z1_2_1 : w1.frozen? ⟨w.heap.size + 2, 1, none⟩ = false := (hb1.frozen (p := ⟨w.heap.size + 2, 1, none⟩) (by first | omega | (simp; done) | (simp; omega) | (simp [World.setCell]; omega))).trans (by go_simp)
  have x1_2_2 : w1.cell? ⟨w.heap.size + 2, 2, none⟩ = some (.int .i64 x.fPlace) := (hb1.cell (p := ⟨w.heap.size + 2, 2, none⟩) (by first | omega | (simp; done) | (simp; omega) | (simp [World.setCell]; omega))).trans (by go_simp)
  have z1_2_2 : w1.frozen? ⟨w.heap.size + 2, 2, none⟩ = false := (hb1.frozen (p := ⟨w.heap.size + 2, 2, none⟩) (by first | omega | (simp; done) | (simp; omega) | (simp [World.setCell]; omega))).trans (by go_simp)
  have x1_2_3 : w1.cell? ⟨w.heap.size + 2, 3, none⟩ = some (.int .i64 x.fLiteral) := (hb1.cell (p := ⟨w.heap.size + 2, 3, none⟩) (by first | omega | (simp; done) | (simp; omega) | (simp [World.setCell]; omega))).trans (by go_simp)
  have z1_2_3 : w1.frozen? ⟨w.heap.size + 2, 3, none⟩ = false := (hb1.frozen (p := ⟨w.heap.size + 2, 3, none⟩) (by first | omega | (simp; done) | (simp; omega) | (simp [World.setCell]; omega))).trans (by go_simp)
  have x1_2_4 : w1.cell? ⟨w.heap.size + 2, 4, none⟩ = some (.string x.fRule) := (hb1.cell (p := ⟨w.heap.size + 2, 4, none⟩) (by first | omega | (simp; done) | (simp; omega) | (simp [World.setCell]; omega))).trans (by go_simp)
  have z1_2_4 : w1.frozen? ⟨w.heap.size + 2, 4, none⟩ = false := (hb1.frozen (p := ⟨w.heap.size + 2, 4, none⟩) (by first | omega | (simp; done) | (simp; omega) | (simp [World.setCell]; omega))).trans (by go_simp)
  have x1_2_5 : w1.cell? ⟨w.heap.size + 2, 5, none⟩ = some (.slice none 0 0) := (hb1.cell (p := ⟨w.heap.size + 2, 5, none⟩) (by first | omega | (simp; done) | (simp; omega) | (simp [World.setCell]; omega))).trans (by go_simp)
  have z1_2_5 : w1.frozen? ⟨w.heap.size + 2, 5, none⟩ = false := (hb1.frozen (p := ⟨w.heap.size + 2, 5, none⟩) (by first | omega | (simp; done) | (simp; omega) | (simp [World.setCell]; omega))).trans (by go_simp)
  have HG1 := Lib.hid (show w1.heap[w.heap.size + 1]? = some (.cells #[.int .i64 0, .int .i64 0, .int .i64 0, .int .i64 0, .string ⟨#[]⟩, .slice none 0 0] 90) from (hb1.block _ (by first | omega | (simp; done) | (simp; omega) | (simp [World.setCell]; omega))).trans (by (repeat (refine blk_other (by simp) ?_)); exact blk_alloc (by simp) (blk_new (by simp))))
  have HB1 := Lib.hid hbw1
  have HSZ1 := Lib.hid hsz1
  have HLO1 := Lib.hid hlo1
  clear hb1 hbw1 hsz1 hlo1
  go_wp2
  refine bodyPost_ret (v := .agg #[.int .i64 x.fId, .int .i64 x.fParent, .int .i64 x.fPlace, .int .i64 x.fLiteral, .string x.fRule, .slice a5r x.fChildren.length c5r]) (results_cell_row Tryz.results64 _ _ (w.heap.size + 1) 90 #[.int .i64 x.fId, .int .i64 x.fParent, .int .i64 x.fPlace, .int .i64 x.fLiteral, .string x.fRule, .slice a5r x.fChildren.length c5r] (0, 0) _ rfl (by refine Eq.trans (blk_set (cs := #[.int .i64 x.fId, .int .i64 x.fParent, .int .i64 x.fPlace, .int .i64 x.fLiteral, .string x.fRule, .slice none 0 0]) (t := 90) (fr := (0, 0)) ?_) rfl; refine Eq.trans (blk_set (cs := #[.int .i64 x.fId, .int .i64 x.fParent, .int .i64 x.fPlace, .int .i64 x.fLiteral, .string ⟨#[]⟩, .slice none 0 0]) (t := 90) (fr := (0, 0)) ?_) rfl; refine Eq.trans (blk_set (cs := #[.int .i64 x.fId, .int .i64 x.fParent, .int .i64 x.fPlace, .int .i64 0, .string ⟨#[]⟩, .slice none 0 0]) (t := 90) (fr := (0, 0)) ?_) rfl; refine Eq.trans (blk_set (cs := #[.int .i64 x.fId, .int .i64 x.fParent, .int .i64 0, .int .i64 0, .string ⟨#[]⟩, .slice none 0 0]) (t := 90) (fr := (0, 0)) ?_) rfl; refine Eq.trans (blk_set (cs := #[.int .i64 x.fId, .int .i64 0, .int .i64 0, .int .i64 0, .string ⟨#[]⟩, .slice none 0 0]) (t := 90) (fr := (0, 0)) ?_) rfl; refine Eq.trans (blk_set (cs := #[.int .i64 0, .int .i64 0, .int .i64 0, .int .i64 0, .string ⟨#[]⟩, .slice none 0 0]) (t := 90) (fr := (0, 0)) ?_) rfl; repeat (first | (with_reducible exact HG1.out) | (refine blk_other (by simp) ?_))) Tryz.underlying90 rfl rfl) rfl ⟨a5r, c5r, rfl, ?_, (by repeat (first | (with_reducible exact HB1.out) | (with_reducible exact Below.refl _ _) | (refine Below.setCell ?_ (by simp <;> omega) _) | (refine Below.alloc ?_ (by simp <;> omega) _)) : Below w.heap.size w _)⟩
  have ho1 := HO1_1.out
  clear HO1_1
  have q1 := HLO1.out
  skip
  have hkk : ∀ w9 : World, Kept (fun y => w.heap.size + 3 ≤ y) w1 w9 → OwnR w9 (fun y => w.heap.size ≤ y ∧ y < w1.heap.size) 6 x.ct (fun j => [.int .i64 x.fId, .int .i64 x.fParent, .int .i64 x.fPlace, .int .i64 x.fLiteral, .string x.fRule, .slice a5r x.fChildren.length c5r].getD j .nilFunc) := fun w9 hk => by
    refine OwnR.append (F1 := fun _ => False) (F2 := fun y => w.heap.size + 3 ≤ y ∧ y < w1.heap.size) (m := 5) (n := 1) ?_ ?_ (by intro y h1 h2; first | exact h1.elim | exact h2.elim | (have h3 := h1.2; have h4 := h2.1; omega)) (by intro y h1; first | exact h1.elim | (have h3 := h1.1; have h4 := h1.2; exact ⟨by omega, by omega⟩)) (by intro y h1; first | exact h1.elim | (have h3 := h1.1; have h4 := h1.2; exact ⟨by omega, by omega⟩))
    · skip
      refine OwnR.lits (F := fun _ => False) fun j hj => ?_
      match j, hj with
      | 0, _ => rfl
      | 1, _ => rfl
      | 2, _ => rfl
      | 3, _ => rfl
      | 4, _ => rfl
    · skip
      exact OwnR.one (ho1.kept (hk.sub fun y hy => by have h := hy.1; omega))
  refine (hkk _ (by repeat (first | (with_reducible exact Kept.refl) | (refine Kept.put ?_ (by intro h1; dsimp only at h1; omega))))).sub (fun y hy => ⟨hy.1, Nat.lt_of_lt_of_le hy.2 (by simp)⟩)

theorem info_Node : (Tryz.prog.info? 90).map (fun i => (i.zero, i.size, i.bytes)) = some (some (.agg #[.int .i64 0, .int .i64 0, .int .i64 0, .int .i64 0, .string ⟨#[]⟩, .slice none 0 0]), 6, 72) := by kernel_rfl

set_option maxHeartbeats 1600000 in
set_option maxRecDepth 100000 in
theorem laws_toNodeS {lo hi : Nat} {a : Option Addr} {cap : Nat} (l : List DNode) (hsz : lsz DNode.sz l ≤ 1048576) (w : World) (hhi : hi ≤ w.heap.size) (hs : Sl lo hi w 6 l.length (fun k => DNode.ct (l.getD k default)) a) :
    Calls Tryz.prog 35 #[.slice a l.length cap] w fun e w' => ∃ a' cap', e = .returned (.slice a' l.length cap') ∧ Own w' (fun x => w.heap.size ≤ x ∧ x < w'.heap.size) (.sl 6 l.length (fun k => DNode.ct (l.getD k default))) (.slice a' l.length cap') ∧ Below w.heap.size w w' := by
  have HS := Lib.hid hs
  clear hs
  have HW := Lib.hid hsz
  have hn : l.length ≤ 1048576 := by unfold lsz at hsz; omega
  clear hsz
  obtain ⟨i0, hi', hz0, hz1, hz2⟩ := info_parts info_Node
  go_enter Tryz.func35, Tryz.ntmps35
  go_wp2_with (at_make; refine wpList_make_full _ rfl (.tmp 6) (.tmp 6) 41 rfl w.heap.size 90 i0 (.agg #[.int .i64 0, .int .i64 0, .int .i64 0, .int .i64 0, .string ⟨#[]⟩, .slice none 0 0]) 6 Tryz.underlying41 hi' hz0 hz1 .i64 .i64 (l.length : Int) (l.length : Int) l.length rfl rfl rfl rfl (by rw [hz2]; omega) (by unfold maxLen; omega) (Nat.le_refl _) ?_; intro w1 hown hgrow)
  have hb1 : Below w.heap.size w w1 := (Below.refl _ w).grown hgrow (Nat.le_refl _) (fun k hk => by cases hk)
  clear hgrow
  have hblk := (ownsRow_block hown).1
  go_loopw [4] (fun i wr => ∃ (k : Nat) (xs : List Value), k ≤ l.length ∧ i = .int .i64 (k : Int) ∧ wr.ownsRow w.heap.size 90 6 (.slice (some ⟨w.heap.size, 0, none⟩) l.length l.length) l.length xs ∧ Filled w.heap.size wr 6 k (fun k => DNode.ct (l.getD k default)) xs ∧ Below w.heap.size w wr) (fun i _ => l.length - (intOf i).toNat)
  case atStart => exact ⟨0, _, Nat.zero_le _, rfl, hown, Filled.zero hblk, hb1⟩
  case round =>
    clear hown hb1 hblk
    obtain ⟨k, xs, hk, rfl, hown, hfill, hb⟩ := hrel
    have hblk := ownsRow_block hown
    have HO := Lib.hid hown
    have HF := Lib.hid hfill
    have HB := Lib.hid hb
    clear hown hfill
    by_cases hlt : k < l.length
    · have hhr : hi ≤ wr.heap.size := Nat.le_trans hhi hb.size
      obtain ⟨b, off, rfl, hlo, hhi', hc⟩ := (HS.out.later (hb.mono hhi) (Nat.le_refl _)).at k hlt
      obtain ⟨a5, c5, hc0_, hc1_, hc2_, hc3_, hc4_, hc5_, hs5⟩ := DNode.open hc
      have hkn : k * 6 + 6 ≤ l.length * 6 := by omega
      have d0 := hblk.2.2.1 (k * 6) (by omega)
      have z0 := hblk.2.2.2 (k * 6)
      have d1 := hblk.2.2.1 (k * 6 + 1) (by omega)
      have z1 := hblk.2.2.2 (k * 6 + 1)
      have d2 := hblk.2.2.1 (k * 6 + 2) (by omega)
      have z2 := hblk.2.2.2 (k * 6 + 2)
      have d3 := hblk.2.2.1 (k * 6 + 3) (by omega)
      have z3 := hblk.2.2.2 (k * 6 + 3)
      have d4 := hblk.2.2.1 (k * 6 + 4) (by omega)
      have z4 := hblk.2.2.2 (k * 6 + 4)
      have d5 := hblk.2.2.1 (k * 6 + 5) (by omega)
      have z5 := hblk.2.2.2 (k * 6 + 5)
      have hsz := hblk.1
      clear hblk hb hc
      have hxs := szle_at (f := DNode.sz) l k hlt
      generalize hx : l.getD k default = x at *
      have HX := Lib.hid hx
      clear hx
      generalize xs.getD (k * 6) Value.nilFunc = v0 at d0
      generalize xs.getD (k * 6 + 1) Value.nilFunc = v1 at d1
      generalize xs.getD (k * 6 + 2) Value.nilFunc = v2 at d2
      generalize xs.getD (k * 6 + 3) Value.nilFunc = v3 at d3
      generalize xs.getD (k * 6 + 4) Value.nilFunc = v4 at d4
      generalize xs.getD (k * 6 + 5) Value.nilFunc = v5 at d5
      have HT := Lib.hid (laws_toNode (c5 := c5) x (by have h1 := HW.out; omega) wr hhr hs5)
      clear hxs hs5
      go_wp2_with fail
      refine HT.out.mono ?_
      rintro e w1 ⟨a5r, c5r, rfl, ho1, hb1⟩
      have HOR := Lib.hid ho1
      clear ho1
      have e0 := (hb1.cell (p := ⟨w.heap.size, k * 6, none⟩) hsz).trans d0
      have y0 := (hb1.frozen (p := ⟨w.heap.size, k * 6, none⟩) hsz).trans z0
      have e1 := (hb1.cell (p := ⟨w.heap.size, k * 6 + 1, none⟩) hsz).trans d1
      have y1 := (hb1.frozen (p := ⟨w.heap.size, k * 6 + 1, none⟩) hsz).trans z1
      have e2 := (hb1.cell (p := ⟨w.heap.size, k * 6 + 2, none⟩) hsz).trans d2
      have y2 := (hb1.frozen (p := ⟨w.heap.size, k * 6 + 2, none⟩) hsz).trans z2
      have e3 := (hb1.cell (p := ⟨w.heap.size, k * 6 + 3, none⟩) hsz).trans d3
      have y3 := (hb1.frozen (p := ⟨w.heap.size, k * 6 + 3, none⟩) hsz).trans z3
      have e4 := (hb1.cell (p := ⟨w.heap.size, k * 6 + 4, none⟩) hsz).trans d4
      have y4 := (hb1.frozen (p := ⟨w.heap.size, k * 6 + 4, none⟩) hsz).trans z4
      have e5 := (hb1.cell (p := ⟨w.heap.size, k * 6 + 5, none⟩) hsz).trans d5
      have y5 := (hb1.frozen (p := ⟨w.heap.size, k * 6 + 5, none⟩) hsz).trans z5
      have HB1 := Lib.hid hb1
      clear hb1 d0 z0 d1 z1 d2 z2 d3 z3 d4 z4 d5 z5
      go_wp2
      go_roundw
      case rel =>
        have hst := HF.out.stored HB1.out hsz (ownsRow_below HO.out HB1.out) hlt [.int .i64 x.fId, .int .i64 x.fParent, .int .i64 x.fPlace, .int .i64 x.fLiteral, .string x.fRule, .slice a5r x.fChildren.length c5r] rfl ((by rw [HX.out]; exact HOR.out))
        exact ⟨k + 1, _, by omega, by go_num, hst.1, hst.2, setCells_below (Nat.le_refl _) [_, _, _, _, _, _] _ (HB.out.trans (HB1.out.mono HB.out.size))⟩
      case measure => simp [intOf]; omega
    · obtain rfl : k = l.length := by omega
      go_wp2
      go_ret
      exact ⟨_, _, rfl, HF.out.own hblk.1 hblk.2.2.1 hblk.2.2.2, hb⟩

set_option maxHeartbeats 1600000 in
set_option maxRecDepth 100000 in
theorem laws_eqNode {lo hi lo2 hi2 : Nat} {a5 : Option Addr} {c5 : Nat} {a5q : Option Addr} {c5q : Nat} (x : DNode) (hsz : x.sz ≤ 1048576) (w : World) (hhi : hi ≤ w.heap.size) (hhi2 : hi2 ≤ w.heap.size) (hs5 : Sl lo hi w 1 x.fChildren.length (fun k => ictI (x.fChildren.getD k default)) a5) (hs5q : Sl lo2 hi2 w 1 x.fChildren.length (fun k => ictI (x.fChildren.getD k default)) a5q) :
    Calls Tryz.prog 79 #[.agg #[.int .i64 x.fId, .int .i64 x.fParent, .int .i64 x.fPlace, .int .i64 x.fLiteral, .string x.fRule, .slice a5 x.fChildren.length c5], .agg #[.int .i64 x.fId, .int .i64 x.fParent, .int .i64 x.fPlace, .int .i64 x.fLiteral, .string x.fRule, .slice a5q x.fChildren.length c5q]] w fun e w' => e = .returned (.bool true) ∧ Below w.heap.size w w' := by
  have HS5 := Lib.hid hs5
  have HS5q := Lib.hid hs5q
  clear hs5 hs5q
  have HW := Lib.hid hsz
  clear hsz
  have HB0 := Lib.hid (((Below.refl w.heap.size w).alloc (Nat.le_refl _) (.cells #[.int .i64 x.fId, .int .i64 x.fParent, .int .i64 x.fPlace, .int .i64 x.fLiteral, .string x.fRule, .slice a5 x.fChildren.length c5] 90)).alloc (by simp <;> omega) (.cells #[.int .i64 x.fId, .int .i64 x.fParent, .int .i64 x.fPlace, .int .i64 x.fLiteral, .string x.fRule, .slice a5q x.fChildren.length c5q] 90))
  have ht0 := fun (w' : World) (hhi : hi ≤ w'.heap.size) (hhi2 : hi2 ≤ w'.heap.size) (hs : Sl lo hi w' 1 x.fChildren.length (fun k => ictI (x.fChildren.getD k default)) a5) (hs2 : Sl lo2 hi2 w' 1 x.fChildren.length (fun k => ictI (x.fChildren.getD k default)) a5q) => laws_eqIntS (cap := c5) (cap2 := c5q) x.fChildren (by have h := HW.out; unfold DNode.sz at h; omega) w' hhi hhi2 hs hs2
  have HT0 := Lib.hid ht0
  clear ht0
  go_enter Tryz.func79, Tryz.ntmps79
  go_wp2_with fail
  refine (HT0.out _ (Nat.le_trans hhi (HB0.out.size)) (Nat.le_trans hhi2 (HB0.out.size)) (HS5.out.later HB0.out hhi) (HS5q.out.later HB0.out hhi2)).mono ?_
  rintro e w1 ⟨rfl, hb1⟩
  have HB1 := Lib.hid (HB0.out.trans (hb1.mono HB0.out.size))
  clear hb1
  go_wp2
  go_ret
  exact ⟨rfl, HB1.out⟩

set_option maxHeartbeats 1600000 in
set_option maxRecDepth 100000 in
theorem laws_eqNodeS {lo hi lo2 hi2 : Nat} {a a2 : Option Addr} {cap cap2 : Nat} (l : List DNode) (hsz : lsz DNode.sz l ≤ 1048576) (w : World) (hhi : hi ≤ w.heap.size) (hhi2 : hi2 ≤ w.heap.size) (hs : Sl lo hi w 6 l.length (fun k => DNode.ct (l.getD k default)) a) (hs2 : Sl lo2 hi2 w 6 l.length (fun k => DNode.ct (l.getD k default)) a2) :
    Calls Tryz.prog 49 #[.slice a l.length cap, .slice a2 l.length cap2] w fun e w' => e = .returned (.bool true) ∧ Below w.heap.size w w' := by
  have HS := Lib.hid hs
  have HS2 := Lib.hid hs2
  have HW := Lib.hid hsz
  have hn : l.length ≤ 1048576 := by unfold lsz at hsz; omega
  clear hs hs2 hsz
  go_enter Tryz.func49, Tryz.ntmps49
  go_wp2
  go_loopw [5] (fun i wr => ∃ k : Nat, k ≤ l.length ∧ i = .int .i64 (k : Int) ∧ Below w.heap.size w wr) (fun i _ => l.length - (intOf i).toNat)
  case atStart => exact ⟨0, Nat.zero_le _, rfl, Below.refl _ _⟩
  case round =>
    obtain ⟨k, hk, rfl, hb⟩ := hrel
    have HB := Lib.hid hb
    by_cases hlt : k < l.length
    · have hhr : hi ≤ wr.heap.size := Nat.le_trans hhi hb.size
      have hhr2 : hi2 ≤ wr.heap.size := Nat.le_trans hhi2 hb.size
      obtain ⟨b, off, rfl, _, hhi', hc⟩ := (HS.out.later (hb.mono hhi) (Nat.le_refl _)).at k hlt
      obtain ⟨b2, off2, rfl, _, hhi2', hc2⟩ := (HS2.out.later (hb.mono hhi2) (Nat.le_refl _)).at k hlt
      obtain ⟨a5, c5, hc0_, hc1_, hc2_, hc3_, hc4_, hc5_, hs5⟩ := DNode.open hc
      obtain ⟨a5q, c5q, hc0q_, hc1q_, hc2q_, hc3q_, hc4q_, hc5q_, hs5q⟩ := DNode.open hc2
      have hxs := szle_at (f := DNode.sz) l k hlt
      clear hb hc hc2
      generalize l.getD k default = x at *
      have HT := Lib.hid (fun (w' : World) (hw : Below wr.heap.size wr w') => laws_eqNode (c5 := c5) (c5q := c5q) x (by have h1 := HW.out; omega) w' (Nat.le_trans hhr hw.size) (Nat.le_trans hhr2 hw.size) (hs5.later hw hhr) (hs5q.later hw hhr2))
      clear hxs hs5 hs5q
      go_wp2_with fail
      go_region_with ((go_at_call 79; refine (HT.out _ (by first | exact Below.refl _ _ | exact (Below.refl _ _).drew | exact below_drewN (Below.refl _ _) _)).mono ?_; rintro e w1 ⟨rfl, hb1⟩))
      all_goals
        go_wp2
        go_roundw
        case rel =>
          refine ⟨k + 1, by omega, by go_num, ?_⟩
          have hb2 : Below wr.heap.size wr w1 := ⟨hb1.os, hb1.tape, hb1.output, hb1.size, hb1.block⟩
          repeat (first | exact HB.out.trans (hb2.mono HB.out.size) | apply Below.drew | refine below_drewN ?_ _)
        case measure => simp [intOf]; omega
    · go_wp2
      go_ret
      exact ⟨rfl, HB.out⟩
end Go.Proofs.YtjhgifpnpkcaoaaGreat
