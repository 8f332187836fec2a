/-
  The laws' own helpers on []string.
  The type Rule of the laws: its data, and the contracts of the laws' own helpers on it.
  The test of a range.
  The type Attribute of the laws: its data, and the contracts of the laws' own helpers on it.
  The type Symbol of the laws: its data, and the contracts of the laws' own helpers on it.
  The type Grammar of the laws: its data, and the contracts of the laws' own helpers on it.
  SymbolAt, in the model and in the program.
-/
import Derived.Test.YtnmepemmpeboeaaGreatZz2
import Derived.WalkSpells
import Derived.WalkSmall
import Derived.WalkLawsBesides
import Derived.SliceStrings
import Derived.Deep.QuietTactic
import Derived.Deep.RegionWith
import Derived.BigQuiet
import Derived.Test.YtnmepemmpeboeaaGreatZz4
import Derived.Outline
import Derived.Laws.Rows
namespace Go.Proofs.YtnmepemmpeboeaaGreat
open Go.ChangeShapes Go.WideShapes Go.ChangeAt Go.RowKit Go.Deep

theorem info_String : (Tryz.prog.info? 9).map (fun i => (i.zero, i.size, i.bytes)) = some (some (.string ⟨#[]⟩), 1, 16) := by kernel_rfl

/-- An element, where the walk looks for it. -/
theorem open_String {lo hi b o : Nat} {w : World} {x : ByteArray} (h : ∀ j, j < 1 → ∃ u, w.cell? ⟨b, o + j, none⟩ = some u ∧ Lies lo hi w (ictS x j) u) : w.cell? ⟨b, o, none⟩ = some (.string x) := by
  obtain ⟨u0, hc0, hl0⟩ := h 0 (by decide)
  obtain rfl := lies_lit hl0
  exact hc0

set_option maxHeartbeats 1600000 in
set_option maxRecDepth 100000 in
theorem laws_szStringS {lo hi : Nat} {a : Option Addr} {cap : Nat} (l : List ByteArray) (L : Int) (hL0 : 0 ≤ L) (hL1 : L ≤ 1048576) (hok : okL okS l) (w : World) (_ : hi ≤ w.heap.size) (hs : Sl lo hi w 1 l.length (fun k => ictS (l.getD k default)) a) :
    Calls Tryz.prog 19 #[.slice a l.length cap, .int .i64 L] w fun e w' => e = .returned (.int .i64 (szR L (lsz ByteArray.size l))) ∧ Below w.heap.size w w' := by
  have HS := Lib.hid hs
  have HK := Lib.hid hok
  have hn : l.length ≤ 9223372036854775807 := hok.1
  clear hs hok
  by_cases hlong : L < ((l.length : Nat) : Int)
  · have fin := Lib.hid (szR_gt (n := lsz ByteArray.size l) (L := L) (by unfold lsz; omega))
    go_enter Tryz.func19, Tryz.ntmps19
    go_wp2
    go_ret
    exact ⟨ret_i fin.out.symm, Below.refl _ _⟩
  · go_enter Tryz.func19, Tryz.ntmps19
    go_wp2
    go_loop [1, 5] (fun q i => ∃ k : Nat, k ≤ l.length ∧ i = .int .i64 (k : Int) ∧ q = .int .i64 (L - l.length - psz ByteArray.size l k) ∧ (l.length : Int) + psz ByteArray.size l k ≤ L) (fun _ i => l.length - (intOf i).toNat)
    case atStart => exact ⟨0, Nat.zero_le _, rfl, by rw [psz_zero]; go_num, by rw [psz_zero]; omega⟩
    case round =>
      obtain ⟨k, hk, rfl, rfl, hle⟩ := hrel
      by_cases hlt : k < l.length
      · have hsu := Lib.hid (psz_succ ByteArray.size l k hlt)
        have hle2 := Lib.hid (psz_le ByteArray.size l (k + 1))
        have hokk : (l.getD k default).size ≤ 9223372036854775807 := HK.out.at hlt
        obtain ⟨b, off, rfl, hlo, hhi', hc⟩ := HS.out.at k hlt
        rw [Nat.mul_one] at hc
        have hc0 := open_String hc
        clear hc
        generalize l.getD k default = x at *
        generalize psz ByteArray.size l k = S at *
        by_cases hf : L - l.length - S < ((x.size : Nat) : Int)
        · have fin := Lib.hid (szR_gt (n := lsz ByteArray.size l) (L := L) (by have h1 := hsu.out; have h2 := hle2.out; omega))
          go_wp2
          go_ret
          exact ⟨ret_i fin.out.symm, Below.refl _ _⟩
        · go_wp2
          go_round
          case rel => exact ⟨k + 1, by omega, by go_num, by rw [hsu.out]; go_num, by rw [hsu.out]; omega⟩
          case measure => simp [intOf]; omega
      · obtain rfl : k = l.length := by omega
        have fin := Lib.hid (szR_le (n := lsz ByteArray.size l) (L := L) (by unfold lsz; rw [psz_all] at hle; omega))
        have fin2 := Lib.hid (psz_all ByteArray.size l)
        go_wp2
        go_ret
        exact ⟨ret_i (by rw [fin.out, fin2.out]; unfold lsz; omega), Below.refl _ _⟩

set_option maxHeartbeats 1600000 in
set_option maxRecDepth 100000 in
theorem laws_toStringS {lo hi : Nat} {a : Option Addr} {cap : Nat} (l : List ByteArray) (hsz : lsz ByteArray.size l ≤ 1048576) (w : World) (hhi : hi ≤ w.heap.size) (hs : Sl lo hi w 1 l.length (fun k => ictS (l.getD k default)) a) :
    Calls Tryz.prog 30 #[.slice a l.length cap] w fun e w' => ∃ a' cap', e = .returned (.slice a' l.length cap') ∧ Own w' (fun x => w.heap.size ≤ x ∧ x < w'.heap.size) (.sl 1 l.length (fun k => ictS (l.getD k default))) (.slice a' l.length cap') ∧ Below w.heap.size w w' := by
  have HS := Lib.hid hs
  clear hs
  have hn : l.length ≤ 1048576 := by unfold lsz at hsz; omega
  clear hsz
  obtain ⟨i0, hi', hz0, hz1, hz2⟩ := info_parts info_String
  go_enter Tryz.func30, Tryz.ntmps30
  go_wp2_with (at_make; refine wpList_make_full _ rfl (.tmp 6) (.tmp 6) 26 rfl w.heap.size 9 i0 (.string ⟨#[]⟩) 1 Tryz.underlying26 hi' hz0 hz1 .i64 .i64 (l.length : Int) (l.length : Int) l.length rfl rfl rfl rfl (by rw [hz2]; omega) (by unfold maxLen; omega) (Nat.le_refl _) ?_; intro w1 hown hgrow)
  have hb1 : Below w.heap.size w w1 := (Below.refl _ w).grown hgrow (Nat.le_refl _) (fun k hk => by cases hk)
  clear hgrow
  have hblk := (ownsRow_block hown).1
  go_loopw [4] (fun i wr => ∃ (k : Nat) (xs : List Value), k ≤ l.length ∧ i = .int .i64 (k : Int) ∧ wr.ownsRow w.heap.size 9 1 (.slice (some ⟨w.heap.size, 0, none⟩) l.length l.length) l.length xs ∧ Filled w.heap.size wr 1 k (fun k => ictS (l.getD k default)) xs ∧ Below w.heap.size w wr) (fun i _ => l.length - (intOf i).toNat)
  case atStart => exact ⟨0, _, Nat.zero_le _, rfl, hown, Filled.zero hblk, hb1⟩
  case round =>
    clear hown hb1 hblk
    obtain ⟨k, xs, hk, rfl, hown, hfill, hb⟩ := hrel
    have hblk := ownsRow_block hown
    have HO := Lib.hid hown
    have HF := Lib.hid hfill
    have HB := Lib.hid hb
    clear hown hfill
    by_cases hlt : k < l.length
    · obtain ⟨b, off, rfl, hlo, hhi', hc⟩ := (HS.out.later (hb.mono hhi) (Nat.le_refl _)).at k hlt
      rw [Nat.mul_one] at hc
      have hc0 := open_String hc
      have d0 := hblk.2.2.1 k (by omega)
      have z0 := hblk.2.2.2 k
      have hsz := hblk.1
      clear hblk hb hc
      generalize hx : l.getD k default = x at *
      have HX := Lib.hid hx
      clear hx
      generalize xs.getD k Value.nilFunc = v0 at d0
      have hst := Lib.hid (HF.out.stored (Below.refl _ wr) hsz HO.out hlt [.string x] rfl (OwnR.lits fun j hj => by
        rw [HX.out]
        match j, hj with
        | 0, _ => rfl))
      rw [Nat.mul_one] at hst
      go_wp2
      go_roundw
      case rel =>
        exact ⟨k + 1, _, by omega, by go_num, hst.out.1, hst.out.2, setCells_below (Nat.le_refl _) [_] _ HB.out⟩
      case measure => simp [intOf]; omega
    · obtain rfl : k = l.length := by omega
      go_wp2
      go_ret
      exact ⟨_, _, rfl, HF.out.own hblk.1 hblk.2.2.1 hblk.2.2.2, hb⟩

set_option maxHeartbeats 1600000 in
set_option maxRecDepth 100000 in
theorem laws_eqStringS {lo hi lo2 hi2 : Nat} {a a2 : Option Addr} {cap cap2 : Nat} (l : List ByteArray) (hsz : lsz ByteArray.size l ≤ 1048576) (w : World) (_ : hi ≤ w.heap.size) (_ : hi2 ≤ w.heap.size) (hs : Sl lo hi w 1 l.length (fun k => ictS (l.getD k default)) a) (hs2 : Sl lo2 hi2 w 1 l.length (fun k => ictS (l.getD k default)) a2) :
    Calls Tryz.prog 42 #[.slice a l.length cap, .slice a2 l.length cap2] w fun e w' => e = .returned (.bool true) ∧ Below w.heap.size w w' := by
  have HS := Lib.hid hs
  have HS2 := Lib.hid hs2
  have hn : l.length ≤ 1048576 := by unfold lsz at hsz; omega
  clear hs hs2 hsz
  go_enter Tryz.func42, Tryz.ntmps42
  go_wp2
  go_loopw [5] (fun i wr => ∃ k : Nat, k ≤ l.length ∧ i = .int .i64 (k : Int) ∧ ∃ n, wr = w.drewN n) (fun i _ => l.length - (intOf i).toNat)
  case atStart => exact ⟨0, Nat.zero_le _, rfl, 0, rfl⟩
  case round =>
    obtain ⟨k, hk, rfl, n, rfl⟩ := hrel
    by_cases hlt : k < l.length
    · obtain ⟨b, off, rfl, _, hhi', hc⟩ := HS.out.at k hlt
      obtain ⟨b2, off2, rfl, _, hhi2', hc2⟩ := HS2.out.at k hlt
      rw [Nat.mul_one] at hc hc2
      have hc0 := open_String hc
      have hd0 := open_String hc2
      clear hc hc2
      generalize l.getD k default = x at *
      go_wp2
      go_quiet (fail)
      go_wp2
      go_roundw
      case rel => exact ⟨k + 1, by omega, by go_num, _, rfl⟩
      case measure => simp [intOf]; omega
    · go_wp2
      go_ret
      exact ⟨rfl, below_drewN (Below.refl _ _) _⟩
end Go.Proofs.YtnmepemmpeboeaaGreat
namespace Go.Proofs.YtnmepemmpeboeaaGreat
open Go.ChangeShapes Go.WideShapes Go.ChangeAt Go.RowKit Go.Deep

structure DRule where
  fName : ByteArray
  fLeft : ByteArray
  fRight : List (ByteArray)
  fLiteral : Bool
  fEquations : List (DEquation)
  fContributions : List (DContribution)
  deriving Inhabited

def DRule.ct (x : DRule) : Nat → Ct
  | 0 => .lit (.string x.fName)
  | 1 => .lit (.string x.fLeft)
  | 2 => .sl 1 x.fRight.length (fun k => ictS (x.fRight.getD k default))
  | 3 => .lit (.bool x.fLiteral)
  | 4 => .sl 9 x.fEquations.length (fun k => DEquation.ct (x.fEquations.getD k default))
  | 5 => .sl 16 x.fContributions.length (fun k => DContribution.ct (x.fContributions.getD k default))
  | _ => .lit .nilFunc

def DRule.ok (x : DRule) : Prop := okS x.fName ∧ okS x.fLeft ∧ (okL okS) x.fRight ∧ okB x.fLiteral ∧ (okL DEquation.ok) x.fEquations ∧ (okL DContribution.ok) x.fContributions

def DRule.sz (x : DRule) : Nat := x.fName.size + x.fLeft.size + (lsz ByteArray.size) x.fRight + (lsz DEquation.sz) x.fEquations + (lsz DContribution.sz) x.fContributions

theorem DRule.open {lo hi b o : Nat} {w : World} {x : DRule} (h : ∀ j, j < 6 → ∃ u, w.cell? ⟨b, o + j, none⟩ = some u ∧ Lies lo hi w (x.ct j) u) :
    ∃ a2 c2, ∃ a4 c4, ∃ a5 c5, w.cell? ⟨b, o, none⟩ = some (.string x.fName) ∧ w.cell? ⟨b, o + 1, none⟩ = some (.string x.fLeft) ∧ w.cell? ⟨b, o + 2, none⟩ = some (.slice a2 x.fRight.length c2) ∧ w.cell? ⟨b, o + 3, none⟩ = some (.bool x.fLiteral) ∧ w.cell? ⟨b, o + 4, none⟩ = some (.slice a4 x.fEquations.length c4) ∧ w.cell? ⟨b, o + 5, none⟩ = some (.slice a5 x.fContributions.length c5) ∧ Sl lo hi w 1 x.fRight.length (fun k => ictS (x.fRight.getD k default)) a2 ∧ Sl lo hi w 9 x.fEquations.length (fun k => DEquation.ct (x.fEquations.getD k default)) a4 ∧ Sl lo hi w 16 x.fContributions.length (fun k => DContribution.ct (x.fContributions.getD k default)) a5 := by
  obtain ⟨u0, hc0, hl0⟩ := h 0 (by decide)
  obtain rfl := lies_lit hl0
  obtain ⟨u1, hc1, hl1⟩ := h 1 (by decide)
  obtain rfl := lies_lit hl1
  obtain ⟨u2, hc2, hl2⟩ := h 2 (by decide)
  obtain ⟨a2, c2, rfl, hs2⟩ := lies_sl hl2
  obtain ⟨u3, hc3, hl3⟩ := h 3 (by decide)
  obtain rfl := lies_lit hl3
  obtain ⟨u4, hc4, hl4⟩ := h 4 (by decide)
  obtain ⟨a4, c4, rfl, hs4⟩ := lies_sl hl4
  obtain ⟨u5, hc5, hl5⟩ := h 5 (by decide)
  obtain ⟨a5, c5, rfl, hs5⟩ := lies_sl hl5
  exact ⟨a2, c2, a4, c4, a5, c5, hc0, hc1, hc2, hc3, hc4, hc5, hs2, hs4, hs5⟩

theorem opens_rule {H : Type} {enc : TypeId × Value → H} {w : World} (fuel : Nat) : Opens enc Tryz.prog w 30 6 DRule.ct DRule.ok fuel := by
  intro cs x h
  have hl := opens_len Tryz.underlying30 h
  obtain ⟨y0, k0, q0⟩ := opens_field Tryz.underlying30 h 0 _ rfl (ft := 9) (o := 0) (n := 1) rfl rfl (fun m _ => opens_string Tryz.underlying9 m) (by kernel_rfl)
  obtain ⟨y1, k1, q1⟩ := opens_field Tryz.underlying30 h 1 _ rfl (ft := 9) (o := 1) (n := 1) rfl rfl (fun m _ => opens_string Tryz.underlying9 m) (by kernel_rfl)
  obtain ⟨y2, k2, q2⟩ := opens_field Tryz.underlying30 h 2 _ rfl (ft := 26) (o := 2) (n := 1) rfl rfl (fun m _ => (fun fuel => opens_slice Tryz.underlying26 (e := 9) (n := 1) (by kernel_rfl) (by decide) fuel (fun m _ => (opens_string Tryz.underlying9) m)) m) (by kernel_rfl)
  obtain ⟨y3, k3, q3⟩ := opens_field Tryz.underlying30 h 3 _ rfl (ft := 4) (o := 3) (n := 1) rfl rfl (fun m _ => opens_bool Tryz.underlying4 m) (by kernel_rfl)
  obtain ⟨y4, k4, q4⟩ := opens_field Tryz.underlying30 h 4 _ rfl (ft := 27) (o := 4) (n := 1) rfl rfl (fun m _ => (fun fuel => opens_slice Tryz.underlying27 (e := 98) (n := 9) (by kernel_rfl) (by decide) fuel (fun m _ => opens_equation m)) m) (by kernel_rfl)
  obtain ⟨y5, k5, q5⟩ := opens_field Tryz.underlying30 h 5 _ rfl (ft := 28) (o := 5) (n := 1) rfl rfl (fun m _ => (fun fuel => opens_slice Tryz.underlying28 (e := 101) (n := 16) (by kernel_rfl) (by decide) fuel (fun m _ => opens_contribution m)) m) (by kernel_rfl)
  refine ⟨⟨y0, y1, y2, y3, y4, y5⟩, ⟨k0, k1, k2, k3, k4, k5⟩, hl.trans (by kernel_rfl), fun j hj => ?_⟩
  match j, hj with
  | 0, _ => exact q0 0 (by decide)
  | 1, _ => exact q1 0 (by decide)
  | 2, _ => exact q2 0 (by decide)
  | 3, _ => exact q3 0 (by decide)
  | 4, _ => exact q4 0 (by decide)
  | 5, _ => exact q5 0 (by decide)

open Go.WideElems Go.WideMaps in
set_option maxRecDepth 100000 in
theorem arg_rule {H : Type} {enc : TypeId × Value → H} {W : World} {base : Nat} {v : Value} {d : DataW H} {p : List MemPlace} (hv : Value.okWide Tryz.prog W .any base 30 v) (h : DataW.Trod enc Tryz.prog W 0 (fun _ => true) true 30 v d p) :
    ∃ (x : DRule) (a2 : Option Addr) (c2 : Nat) (a4 : Option Addr) (c4 : Nat) (a5 : Option Addr) (c5 : Nat), v = .agg #[.string x.fName, .string x.fLeft, .slice a2 x.fRight.length c2, .bool x.fLiteral, .slice a4 x.fEquations.length c4, .slice a5 x.fContributions.length c5] ∧ x.ok ∧ Sl 0 W.heap.size W 1 x.fRight.length (fun k => ictS (x.fRight.getD k default)) a2 ∧ Sl 0 W.heap.size W 9 x.fEquations.length (fun k => DEquation.ct (x.fEquations.getD k default)) a4 ∧ Sl 0 W.heap.size W 16 x.fContributions.length (fun k => DContribution.ct (x.fContributions.getD k default)) a5 := by
  obtain ⟨cs, rfl, hsz⟩ := okWide_struct Tryz.underlying30 hv
  obtain ⟨fuel, hf⟩ := h
  obtain ⟨x, hx, hl, hj⟩ := opens_rule fuel _ _ hf
  obtain ⟨l⟩ := cs
  match l, hl, hj with
  | [e0, e1, e2, e3, e4, e5], _, hj =>
    obtain ⟨u0, hu0, hl0⟩ := hj 0 (by decide)
    obtain rfl := lies_lit hl0
    obtain rfl : e0 = _ := Option.some.inj hu0
    obtain ⟨u1, hu1, hl1⟩ := hj 1 (by decide)
    obtain rfl := lies_lit hl1
    obtain rfl : e1 = _ := Option.some.inj hu1
    obtain ⟨u2, hu2, hl2⟩ := hj 2 (by decide)
    obtain ⟨a2, c2, rfl, hs2⟩ := lies_sl hl2
    obtain rfl : e2 = _ := Option.some.inj hu2
    obtain ⟨u3, hu3, hl3⟩ := hj 3 (by decide)
    obtain rfl := lies_lit hl3
    obtain rfl : e3 = _ := Option.some.inj hu3
    obtain ⟨u4, hu4, hl4⟩ := hj 4 (by decide)
    obtain ⟨a4, c4, rfl, hs4⟩ := lies_sl hl4
    obtain rfl : e4 = _ := Option.some.inj hu4
    obtain ⟨u5, hu5, hl5⟩ := hj 5 (by decide)
    obtain ⟨a5, c5, rfl, hs5⟩ := lies_sl hl5
    obtain rfl : e5 = _ := Option.some.inj hu5
    exact ⟨x, a2, c2, a4, c4, a5, c5, rfl, hx, hs2, hs4, hs5⟩

set_option maxHeartbeats 1600000 in
set_option maxRecDepth 100000 in
theorem laws_szRule {lo hi : Nat} {a2 : Option Addr} {c2 : Nat} {a4 : Option Addr} {c4 : Nat} {a5 : Option Addr} {c5 : Nat} (x : DRule) (L : Int) (hL0 : 0 ≤ L) (hL1 : L ≤ 1048576) (hx : x.ok) (w : World) (hhi : hi ≤ w.heap.size) (hs2 : Sl lo hi w 1 x.fRight.length (fun k => ictS (x.fRight.getD k default)) a2) (hs4 : Sl lo hi w 9 x.fEquations.length (fun k => DEquation.ct (x.fEquations.getD k default)) a4) (hs5 : Sl lo hi w 16 x.fContributions.length (fun k => DContribution.ct (x.fContributions.getD k default)) a5) :
    Calls Tryz.prog 5 #[.agg #[.string x.fName, .string x.fLeft, .slice a2 x.fRight.length c2, .bool x.fLiteral, .slice a4 x.fEquations.length c4, .slice a5 x.fContributions.length c5], .int .i64 L] w fun e w' => e = .returned (.int .i64 (szR L x.sz)) ∧ Below w.heap.size w w' := by
  have HS2 := Lib.hid hs2
  have HS4 := Lib.hid hs4
  have HS5 := Lib.hid hs5
  clear hs2 hs4 hs5
  have HX := Lib.hid hx
  clear hx
  have okName : x.fName.size ≤ 9223372036854775807 := HX.out.1
  have okLeft : x.fLeft.size ≤ 9223372036854775807 := HX.out.2.1
  have HB0 := Lib.hid ((Below.refl w.heap.size w).alloc (Nat.le_refl _) (.cells #[.string x.fName, .string x.fLeft, .slice a2 x.fRight.length c2, .bool x.fLiteral, .slice a4 x.fEquations.length c4, .slice a5 x.fContributions.length c5] 30))
  by_cases h0 : L < ((x.fName.size : Nat) : Int)
  · skip
    have fin := Lib.hid (szR_gt (n := x.sz) (L := L) (by unfold DRule.sz; omega))
    go_enter Tryz.func5, Tryz.ntmps5
    go_wp2
    go_ret
    exact ⟨ret_i (by rw [fin.out]), HB0.out⟩
  · skip
    by_cases h1 : (L - (x.fName.size : Nat)) < ((x.fLeft.size : Nat) : Int)
    · skip
      have fin := Lib.hid (szR_gt (n := x.sz) (L := L) (by unfold DRule.sz; omega))
      go_enter Tryz.func5, Tryz.ntmps5
      go_wp2
      go_ret
      exact ⟨ret_i (by rw [fin.out]), HB0.out⟩
    · skip
      by_cases h2 : ((L - (x.fName.size : Nat)) - (x.fLeft.size : Nat)) < (((lsz ByteArray.size) x.fRight : Nat) : Int)
      · skip
        have hz0 := fun (w' : World) (hhi : hi ≤ w'.heap.size) (hs2 : Sl lo hi w' 1 x.fRight.length (fun k => ictS (x.fRight.getD k default)) a2) => laws_szStringS (cap := c2) x.fRight ((L - (x.fName.size : Nat)) - (x.fLeft.size : Nat)) (by omega) (by omega) HX.out.2.2.1 w' hhi hs2
        rw [szR_gt (by omega)] at hz0
        have HZ0 := Lib.hid hz0
        clear hz0
        have fin := Lib.hid (szR_gt (n := x.sz) (L := L) (by unfold DRule.sz; omega))
        go_enter Tryz.func5, Tryz.ntmps5
        go_wp2_with fail
        refine (HZ0.out _ (Nat.le_trans hhi HB0.out.size) (HS2.out.later HB0.out hhi)).mono ?_
        rintro e w1 ⟨rfl, hb1⟩
        have hsz1 : w.heap.size < w1.heap.size := Nat.lt_of_lt_of_le (by first | omega | (simp; done) | (simp; omega)) hb1.size
        have HB1 := Lib.hid (HB0.out.trans (hb1.mono HB0.out.size))
        clear hb1
        go_wp2
        go_ret
        exact ⟨ret_i (by rw [fin.out]), HB1.out⟩
      · skip
        by_cases h3 : (((L - (x.fName.size : Nat)) - (x.fLeft.size : Nat)) - ((lsz ByteArray.size) x.fRight : Nat)) < (((lsz DEquation.sz) x.fEquations : Nat) : Int)
        · skip
          have hz0 := fun (w' : World) (hhi : hi ≤ w'.heap.size) (hs2 : Sl lo hi w' 1 x.fRight.length (fun k => ictS (x.fRight.getD k default)) a2) => laws_szStringS (cap := c2) x.fRight ((L - (x.fName.size : Nat)) - (x.fLeft.size : Nat)) (by omega) (by omega) HX.out.2.2.1 w' hhi hs2
          rw [szR_le (by omega)] at hz0
          have HZ0 := Lib.hid hz0
          clear hz0
          have hz1 := fun (w' : World) (hhi : hi ≤ w'.heap.size) (hs4 : Sl lo hi w' 9 x.fEquations.length (fun k => DEquation.ct (x.fEquations.getD k default)) a4) => laws_szEquationS (cap := c4) x.fEquations (((L - (x.fName.size : Nat)) - (x.fLeft.size : Nat)) - ((lsz ByteArray.size) x.fRight : Nat)) (by omega) (by omega) HX.out.2.2.2.2.1 w' hhi hs4
          rw [szR_gt (by omega)] at hz1
          have HZ1 := Lib.hid hz1
          clear hz1
          have fin := Lib.hid (szR_gt (n := x.sz) (L := L) (by unfold DRule.sz; omega))
          go_enter Tryz.func5, Tryz.ntmps5
          go_wp2_with fail
          refine (HZ0.out _ (Nat.le_trans hhi HB0.out.size) (HS2.out.later HB0.out hhi)).mono ?_
          rintro e w1 ⟨rfl, hb1⟩
          have hsz1 : w.heap.size < w1.heap.size := Nat.lt_of_lt_of_le (by first | omega | (simp; done) | (simp; omega)) hb1.size
          have x1_0_4 : w1.cell? ⟨w.heap.size, 4, none⟩ = some (.slice a4 x.fEquations.length c4) := (hb1.cell (p := ⟨w.heap.size, 4, none⟩) (by first | omega | (simp; done) | (simp; omega) | (simp [World.setCell]; omega))).trans (by go_simp)
          have HB1 := Lib.hid (HB0.out.trans (hb1.mono HB0.out.size))
          clear hb1
          go_wp2_with fail
          refine (HZ1.out _ (Nat.le_trans hhi HB1.out.size) (HS4.out.later HB1.out hhi)).mono ?_
          rintro e w2 ⟨rfl, hb2⟩
          have hsz2 : w.heap.size < w2.heap.size := Nat.lt_of_lt_of_le (by first | omega | (simp; done) | (simp; omega)) hb2.size
          have HB2 := Lib.hid (HB1.out.trans (hb2.mono HB1.out.size))
          clear hb2
          go_wp2
          go_ret
          exact ⟨ret_i (by rw [fin.out]), HB2.out⟩
        · skip
          by_cases h4 : ((((L - (x.fName.size : Nat)) - (x.fLeft.size : Nat)) - ((lsz ByteArray.size) x.fRight : Nat)) - ((lsz DEquation.sz) x.fEquations : Nat)) < (((lsz DContribution.sz) x.fContributions : Nat) : Int)
          · skip
            have hz0 := fun (w' : World) (hhi : hi ≤ w'.heap.size) (hs2 : Sl lo hi w' 1 x.fRight.length (fun k => ictS (x.fRight.getD k default)) a2) => laws_szStringS (cap := c2) x.fRight ((L - (x.fName.size : Nat)) - (x.fLeft.size : Nat)) (by omega) (by omega) HX.out.2.2.1 w' hhi hs2
            rw [szR_le (by omega)] at hz0
            have HZ0 := Lib.hid hz0
            clear hz0
            have hz1 := fun (w' : World) (hhi : hi ≤ w'.heap.size) (hs4 : Sl lo hi w' 9 x.fEquations.length (fun k => DEquation.ct (x.fEquations.getD k default)) a4) => laws_szEquationS (cap := c4) x.fEquations (((L - (x.fName.size : Nat)) - (x.fLeft.size : Nat)) - ((lsz ByteArray.size) x.fRight : Nat)) (by omega) (by omega) HX.out.2.2.2.2.1 w' hhi hs4
            rw [szR_le (by omega)] at hz1
            have HZ1 := Lib.hid hz1
            clear hz1
            have hz2 := fun (w' : World) (hhi : hi ≤ w'.heap.size) (hs5 : Sl lo hi w' 16 x.fContributions.length (fun k => DContribution.ct (x.fContributions.getD k default)) a5) => laws_szContributionS (cap := c5) x.fContributions ((((L - (x.fName.size : Nat)) - (x.fLeft.size : Nat)) - ((lsz ByteArray.size) x.fRight : Nat)) - ((lsz DEquation.sz) x.fEquations : Nat)) (by omega) (by omega) HX.out.2.2.2.2.2 w' hhi hs5
            rw [szR_gt (by omega)] at hz2
            have HZ2 := Lib.hid hz2
            clear hz2
            have fin := Lib.hid (szR_gt (n := x.sz) (L := L) (by unfold DRule.sz; omega))
            go_enter Tryz.func5, Tryz.ntmps5
            go_wp2_with fail
            refine (HZ0.out _ (Nat.le_trans hhi HB0.out.size) (HS2.out.later HB0.out hhi)).mono ?_
            rintro e w1 ⟨rfl, hb1⟩
            have hsz1 : w.heap.size < w1.heap.size := Nat.lt_of_lt_of_le (by first | omega | (simp; done) | (simp; omega)) hb1.size
            have x1_0_4 : w1.cell? ⟨w.heap.size, 4, none⟩ = some (.slice a4 x.fEquations.length c4) := (hb1.cell (p := ⟨w.heap.size, 4, none⟩) (by first | omega | (simp; done) | (simp; omega) | (simp [World.setCell]; omega))).trans (by go_simp)
            have x1_0_5 : w1.cell? ⟨w.heap.size, 5, none⟩ = some (.slice a5 x.fContributions.length c5) := (hb1.cell (p := ⟨w.heap.size, 5, none⟩) (by first | omega | (simp; done) | (simp; omega) | (simp [World.setCell]; omega))).trans (by go_simp)
            have HB1 := Lib.hid (HB0.out.trans (hb1.mono HB0.out.size))
            clear hb1
            go_wp2_with fail
            refine (HZ1.out _ (Nat.le_trans hhi HB1.out.size) (HS4.out.later HB1.out hhi)).mono ?_
            rintro e w2 ⟨rfl, hb2⟩
            have hsz2 : w.heap.size < w2.heap.size := Nat.lt_of_lt_of_le (by first | omega | (simp; done) | (simp; omega)) hb2.size
            have x2_0_5 : w2.cell? ⟨w.heap.size, 5, none⟩ = some (.slice a5 x.fContributions.length c5) := (hb2.cell (p := ⟨w.heap.size, 5, none⟩) (by first | omega | (simp; done) | (simp; omega) | (simp [World.setCell]; omega))).trans (by go_simp)
            have HB2 := Lib.hid (HB1.out.trans (hb2.mono HB1.out.size))
            clear hb2
            go_wp2_with fail
            refine (HZ2.out _ (Nat.le_trans hhi HB2.out.size) (HS5.out.later HB2.out hhi)).mono ?_
            rintro e w3 ⟨rfl, hb3⟩
            have hsz3 : w.heap.size < w3.heap.size := Nat.lt_of_lt_of_le (by first | omega | (simp; done) | (simp; omega)) hb3.size
            have HB3 := Lib.hid (HB2.out.trans (hb3.mono HB2.out.size))
            clear hb3
            go_wp2
            go_ret
            exact ⟨ret_i (by rw [fin.out]), HB3.out⟩
          · skip
            have hz0 := fun (w' : World) (hhi : hi ≤ w'.heap.size) (hs2 : Sl lo hi w' 1 x.fRight.length (fun k => ictS (x.fRight.getD k default)) a2) => laws_szStringS (cap := c2) x.fRight ((L - (x.fName.size : Nat)) - (x.fLeft.size : Nat)) (by omega) (by omega) HX.out.2.2.1 w' hhi hs2
            rw [szR_le (by omega)] at hz0
            have HZ0 := Lib.hid hz0
            clear hz0
            have hz1 := fun (w' : World) (hhi : hi ≤ w'.heap.size) (hs4 : Sl lo hi w' 9 x.fEquations.length (fun k => DEquation.ct (x.fEquations.getD k default)) a4) => laws_szEquationS (cap := c4) x.fEquations (((L - (x.fName.size : Nat)) - (x.fLeft.size : Nat)) - ((lsz ByteArray.size) x.fRight : Nat)) (by omega) (by omega) HX.out.2.2.2.2.1 w' hhi hs4
            rw [szR_le (by omega)] at hz1
            have HZ1 := Lib.hid hz1
            clear hz1
            have hz2 := fun (w' : World) (hhi : hi ≤ w'.heap.size) (hs5 : Sl lo hi w' 16 x.fContributions.length (fun k => DContribution.ct (x.fContributions.getD k default)) a5) => laws_szContributionS (cap := c5) x.fContributions ((((L - (x.fName.size : Nat)) - (x.fLeft.size : Nat)) - ((lsz ByteArray.size) x.fRight : Nat)) - ((lsz DEquation.sz) x.fEquations : Nat)) (by omega) (by omega) HX.out.2.2.2.2.2 w' hhi hs5
            rw [szR_le (by omega)] at hz2
            have HZ2 := Lib.hid hz2
            clear hz2
            have fin := Lib.hid (szR_le (n := x.sz) (L := L) (by unfold DRule.sz; omega))
            go_enter Tryz.func5, Tryz.ntmps5
            go_wp2_with fail
            refine (HZ0.out _ (Nat.le_trans hhi HB0.out.size) (HS2.out.later HB0.out hhi)).mono ?_
            rintro e w1 ⟨rfl, hb1⟩
            have hsz1 : w.heap.size < w1.heap.size := Nat.lt_of_lt_of_le (by first | omega | (simp; done) | (simp; omega)) hb1.size
            have x1_0_4 : w1.cell? ⟨w.heap.size, 4, none⟩ = some (.slice a4 x.fEquations.length c4) := (hb1.cell (p := ⟨w.heap.size, 4, none⟩) (by first | omega | (simp; done) | (simp; omega) | (simp [World.setCell]; omega))).trans (by go_simp)
            have x1_0_5 : w1.cell? ⟨w.heap.size, 5, none⟩ = some (.slice a5 x.fContributions.length c5) := (hb1.cell (p := ⟨w.heap.size, 5, none⟩) (by first | omega | (simp; done) | (simp; omega) | (simp [World.setCell]; omega))).trans (by go_simp)
            have HB1 := Lib.hid (HB0.out.trans (hb1.mono HB0.out.size))
            clear hb1
            go_wp2_with fail
            refine (HZ1.out _ (Nat.le_trans hhi HB1.out.size) (HS4.out.later HB1.out hhi)).mono ?_
            rintro e w2 ⟨rfl, hb2⟩
            have hsz2 : w.heap.size < w2.heap.size := Nat.lt_of_lt_of_le (by first | omega | (simp; done) | (simp; omega)) hb2.size
            have x2_0_5 : w2.cell? ⟨w.heap.size, 5, none⟩ = some (.slice a5 x.fContributions.length c5) := (hb2.cell (p := ⟨w.heap.size, 5, none⟩) (by first | omega | (simp; done) | (simp; omega) | (simp [World.setCell]; omega))).trans (by go_simp)
            have HB2 := Lib.hid (HB1.out.trans (hb2.mono HB1.out.size))
            clear hb2
            go_wp2_with fail
            refine (HZ2.out _ (Nat.le_trans hhi HB2.out.size) (HS5.out.later HB2.out hhi)).mono ?_
            rintro e w3 ⟨rfl, hb3⟩
            have hsz3 : w.heap.size < w3.heap.size := Nat.lt_of_lt_of_le (by first | omega | (simp; done) | (simp; omega)) hb3.size
            have HB3 := Lib.hid (HB2.out.trans (hb3.mono HB2.out.size))
            clear hb3
            go_wp2
            go_ret
            exact ⟨ret_i (by rw [fin.out]; unfold DRule.sz; omega), HB3.out⟩

set_option maxHeartbeats 1600000 in
set_option maxRecDepth 100000 in
theorem laws_szRuleS {lo hi : Nat} {a : Option Addr} {cap : Nat} (l : List DRule) (L : Int) (hL0 : 0 ≤ L) (hL1 : L ≤ 1048576) (hok : okL DRule.ok l) (w : World) (hhi : hi ≤ w.heap.size) (hs : Sl lo hi w 6 l.length (fun k => DRule.ct (l.getD k default)) a) :
    Calls Tryz.prog 18 #[.slice a l.length cap, .int .i64 L] w fun e w' => e = .returned (.int .i64 (szR L (lsz DRule.sz l))) ∧ Below w.heap.size w w' := by
  have HS := Lib.hid hs
  have HK := Lib.hid hok
  have hn : l.length ≤ 9223372036854775807 := hok.1
  clear hs hok
  by_cases hlong : L < ((l.length : Nat) : Int)
  · have fin := Lib.hid (szR_gt (n := lsz DRule.sz l) (L := L) (by unfold lsz; omega))
    go_enter Tryz.func18, Tryz.ntmps18
    go_wp2
    go_ret
    exact ⟨ret_i fin.out.symm, Below.refl _ _⟩
  · go_enter Tryz.func18, Tryz.ntmps18
    go_wp2
    go_loopw [1, 5] (fun q i wr => ∃ k : Nat, k ≤ l.length ∧ i = .int .i64 (k : Int) ∧ q = .int .i64 (L - l.length - psz DRule.sz l k) ∧ (l.length : Int) + psz DRule.sz l k ≤ L ∧ Below w.heap.size w wr) (fun _ i _ => l.length - (intOf i).toNat)
    case atStart => exact ⟨0, Nat.zero_le _, rfl, by rw [psz_zero]; go_num, by rw [psz_zero]; omega, Below.refl _ _⟩
    case round =>
      obtain ⟨k, hk, rfl, rfl, hle, hb⟩ := hrel
      have HB := Lib.hid hb
      by_cases hlt : k < l.length
      · have hsu := Lib.hid (psz_succ DRule.sz l k hlt)
        have hle2 := Lib.hid (psz_le DRule.sz l (k + 1))
        have hokk := HK.out.at hlt
        have hhr : hi ≤ wr.heap.size := Nat.le_trans hhi hb.size
        obtain ⟨b, off, rfl, hlo, hhi', hc⟩ := (HS.out.later (hb.mono hhi) (Nat.le_refl _)).at k hlt
        clear hb
        obtain ⟨a2, c2, a4, c4, a5, c5, hc0_, hc1_, hc2_, hc3_, hc4_, hc5_, hs2, hs4, hs5⟩ := DRule.open hc
        clear hc
        generalize l.getD k default = x at *
        generalize psz DRule.sz l k = S at *
        have hZ := laws_szRule (c2 := c2) (c4 := c4) (c5 := c5) x (L - l.length - S) (by omega) (by omega) hokk wr hhr hs2 hs4 hs5
        by_cases hf : ((x.sz : Nat) : Int) ≤ L - l.length - S
        · rw [szR_le hf] at hZ
          have HZ := Lib.hid hZ
          clear hZ hokk hs2 hs4 hs5
          go_wp2_with fail
          refine HZ.out.mono ?_
          rintro e w1 ⟨rfl, hb1⟩
          have HB1 := Lib.hid hb1
          clear hb1
          go_wp2
          go_roundw
          case rel => exact ⟨k + 1, by omega, by go_num, by rw [hsu.out]; go_num, by rw [hsu.out]; omega, HB.out.trans (HB1.out.mono HB.out.size)⟩
          case measure => simp [intOf]; omega
        · have fin := Lib.hid (szR_gt (n := lsz DRule.sz l) (L := L) (by have h1 := hsu.out; have h2 := hle2.out; omega))
          rw [szR_gt (by omega)] at hZ
          have HZ := Lib.hid hZ
          clear hZ hokk hs2 hs4 hs5
          go_wp2_with fail
          refine HZ.out.mono ?_
          rintro e w1 ⟨rfl, hb1⟩
          have HB1 := Lib.hid hb1
          clear hb1
          go_wp2
          go_ret
          exact ⟨ret_i fin.out.symm, HB.out.trans (HB1.out.mono HB.out.size)⟩
      · obtain rfl : k = l.length := by omega
        have fin := Lib.hid (szR_le (n := lsz DRule.sz l) (L := L) (by unfold lsz; rw [psz_all] at hle; omega))
        have fin2 := Lib.hid (psz_all DRule.sz l)
        go_wp2
        go_ret
        exact ⟨ret_i (by rw [fin.out, fin2.out]; unfold lsz; omega), HB.out⟩

set_option maxHeartbeats 1600000 in
set_option maxRecDepth 100000 in
theorem laws_toRule {lo hi : Nat} {a2 : Option Addr} {c2 : Nat} {a4 : Option Addr} {c4 : Nat} {a5 : Option Addr} {c5 : Nat} (x : DRule) (hsz : x.sz ≤ 1048576) (w : World) (hhi : hi ≤ w.heap.size) (hs2 : Sl lo hi w 1 x.fRight.length (fun k => ictS (x.fRight.getD k default)) a2) (hs4 : Sl lo hi w 9 x.fEquations.length (fun k => DEquation.ct (x.fEquations.getD k default)) a4) (hs5 : Sl lo hi w 16 x.fContributions.length (fun k => DContribution.ct (x.fContributions.getD k default)) a5) :
    Calls Tryz.prog 8 #[.agg #[.string x.fName, .string x.fLeft, .slice a2 x.fRight.length c2, .bool x.fLiteral, .slice a4 x.fEquations.length c4, .slice a5 x.fContributions.length c5]] w fun e w' => ∃ a2r c2r a4r c4r a5r c5r, e = .returned (.agg #[.string x.fName, .string x.fLeft, .slice a2r x.fRight.length c2r, .bool x.fLiteral, .slice a4r x.fEquations.length c4r, .slice a5r x.fContributions.length c5r]) ∧ OwnR w' (fun y => w.heap.size ≤ y ∧ y < w'.heap.size) 6 x.ct (fun j => [.string x.fName, .string x.fLeft, .slice a2r x.fRight.length c2r, .bool x.fLiteral, .slice a4r x.fEquations.length c4r, .slice a5r x.fContributions.length c5r].getD j .nilFunc) ∧ Below w.heap.size w w' := by
  have HS2 := Lib.hid hs2
  have HS4 := Lib.hid hs4
  have HS5 := Lib.hid hs5
  clear hs2 hs4 hs5
  have HW := Lib.hid hsz
  clear hsz
  have HB0 := Lib.hid (((((Below.refl w.heap.size w).alloc (Nat.le_refl _) (.cells #[.string x.fName, .string x.fLeft, .slice a2 x.fRight.length c2, .bool x.fLiteral, .slice a4 x.fEquations.length c4, .slice a5 x.fContributions.length c5] 30)).alloc (by simp <;> omega) (.cells #[.string ⟨#[]⟩, .string ⟨#[]⟩, .slice none 0 0, .bool false, .slice none 0 0, .slice none 0 0] 45))).alloc (by simp <;> omega) (.cells #[.string ⟨#[]⟩, .string ⟨#[]⟩, .slice none 0 0, .bool false, .slice none 0 0, .slice none 0 0] 45))
  have HSZ0 := Lib.hid (show w.heap.size + 2 < (((w.alloc (.cells #[.string x.fName, .string x.fLeft, .slice a2 x.fRight.length c2, .bool x.fLiteral, .slice a4 x.fEquations.length c4, .slice a5 x.fContributions.length c5] 30)).alloc (.cells #[.string ⟨#[]⟩, .string ⟨#[]⟩, .slice none 0 0, .bool false, .slice none 0 0, .slice none 0 0] 45)).alloc (.cells #[.string ⟨#[]⟩, .string ⟨#[]⟩, .slice none 0 0, .bool false, .slice none 0 0, .slice none 0 0] 45)).heap.size by simp)
  have ht0 := fun (w' : World) (hhi : hi ≤ w'.heap.size) (hs : Sl lo hi w' 1 x.fRight.length (fun k => ictS (x.fRight.getD k default)) a2) => laws_toStringS (cap := c2) x.fRight (by have h := HW.out; unfold DRule.sz at h; omega) w' hhi hs
  have HT0 := Lib.hid ht0
  clear ht0
  have ht1 := fun (w' : World) (hhi : hi ≤ w'.heap.size) (hs : Sl lo hi w' 9 x.fEquations.length (fun k => DEquation.ct (x.fEquations.getD k default)) a4) => laws_toEquationS (cap := c4) x.fEquations (by have h := HW.out; unfold DRule.sz at h; omega) w' hhi hs
  have HT1 := Lib.hid ht1
  clear ht1
  have ht2 := fun (w' : World) (hhi : hi ≤ w'.heap.size) (hs : Sl lo hi w' 16 x.fContributions.length (fun k => DContribution.ct (x.fContributions.getD k default)) a5) => laws_toContributionS (cap := c5) x.fContributions (by have h := HW.out; unfold DRule.sz at h; omega) w' hhi hs
  have HT2 := Lib.hid ht2
  clear ht2
  go_enter Tryz.func8, Tryz.ntmps8
  go_wp2_with fail
  refine (HT0.out _ (Nat.le_trans hhi (Below.size ((by repeat (first | (with_reducible exact HB0.out) | (with_reducible exact Below.refl _ _) | (refine Below.setCell ?_ (by simp <;> omega) _) | (refine Below.alloc ?_ (by simp <;> omega) _)) : Below w.heap.size w _)))) (HS2.out.later ((by repeat (first | (with_reducible exact HB0.out) | (with_reducible exact Below.refl _ _) | (refine Below.setCell ?_ (by simp <;> omega) _) | (refine Below.alloc ?_ (by simp <;> omega) _)) : Below w.heap.size w _)) hhi)).mono ?_
  rintro e w1 ⟨a2r, c2r, rfl, ho1, hb1⟩
  have hsz1 : w.heap.size + 2 < w1.heap.size := Nat.lt_of_lt_of_le (by have h := HSZ0.out; first | (with_reducible exact h) | (simp; done) | (simp; omega) | (simp [World.setCell]; omega)) hb1.size
  have hlo1 : w.heap.size + 3 ≤ w1.heap.size := Nat.le_trans (by first | (with_reducible exact Nat.le_refl _) | (simp; done) | (simp; omega) | (simp [World.setCell]; omega)) hb1.size
  have hbw1 : Below w.heap.size w w1 := Below.trans ((by repeat (first | (with_reducible exact HB0.out) | (with_reducible exact Below.refl _ _) | (refine Below.setCell ?_ (by simp <;> omega) _) | (refine Below.alloc ?_ (by simp <;> omega) _)) : Below w.heap.size w _)) (hb1.mono (Below.size ((by repeat (first | (with_reducible exact HB0.out) | (with_reducible exact Below.refl _ _) | (refine Below.setCell ?_ (by simp <;> omega) _) | (refine Below.alloc ?_ (by simp <;> omega) _)) : Below w.heap.size w _))))
  have HO1_1 := Lib.hid (ho1.sub (F' := fun y => w.heap.size + 3 ≤ y ∧ y < w1.heap.size) (fun y hy => ⟨Nat.le_trans (by first | (with_reducible exact Nat.le_refl _) | (simp; done) | (simp; omega) | (simp [World.setCell]; done) | (simp [World.setCell]; omega)) hy.1, hy.2⟩))
  clear ho1
  have x1_0_3 : w1.cell? ⟨w.heap.size, 3, none⟩ = some (.bool x.fLiteral) := (hb1.cell (p := ⟨w.heap.size, 3, none⟩) (by first | omega | (simp; done) | (simp; omega) | (simp [World.setCell]; omega))).trans (by go_simp)
  have x1_0_4 : w1.cell? ⟨w.heap.size, 4, none⟩ = some (.slice a4 x.fEquations.length c4) := (hb1.cell (p := ⟨w.heap.size, 4, none⟩) (by first | omega | (simp; done) | (simp; omega) | (simp [World.setCell]; omega))).trans (by go_simp)
  have x1_0_5 : w1.cell? ⟨w.heap.size, 5, none⟩ = some (.slice a5 x.fContributions.length c5) := (hb1.cell (p := ⟨w.heap.size, 5, none⟩) (by first | omega | (simp; done) | (simp; omega) | (simp [World.setCell]; omega))).trans (by go_simp)
  have x1_1_0 : w1.cell? ⟨w.heap.size + 1, 0, none⟩ = some (.string ⟨#[]⟩) := (hb1.cell (p := ⟨w.heap.size + 1, 0, none⟩) (by first | omega | (simp; done) | (simp; omega) | (simp [World.setCell]; omega))).trans (by go_simp)
  have z1_1_0 : w1.frozen? ⟨w.heap.size + 1, 0, none⟩ = false := (hb1.frozen (p := ⟨w.heap.size + 1, 0, none⟩) (by first | omega | (simp; done) | (simp; omega) | (simp [World.setCell]; omega))).trans (by go_simp)
  have x1_1_1 : w1.cell? ⟨w.heap.size + 1, 1, none⟩ = some (.string ⟨#[]⟩) := (hb1.cell (p := ⟨w.heap.size + 1, 1, none⟩) (by first | omega | (simp; done) | (simp; omega) | (simp [World.setCell]; omega))).trans (by go_simp)
  have z1_1_1 : w1.frozen? ⟨w.heap.size + 1, 1, none⟩ = false := (hb1.frozen (p := ⟨w.heap.size + 1, 1, none⟩) (by first | omega | (simp; done) | (simp; omega) | (simp [World.setCell]; omega))).trans (by go_simp)
  have x1_1_2 : w1.cell? ⟨w.heap.size + 1, 2, none⟩ = some (.slice none 0 0) := (hb1.cell (p := ⟨w.heap.size + 1, 2, none⟩) (by first | omega | (simp; done) | (simp; omega) | (simp [World.setCell]; omega))).trans (by go_simp)
  have z1_1_2 : w1.frozen? ⟨w.heap.size + 1, 2, none⟩ = false := (hb1.frozen (p := ⟨w.heap.size + 1, 2, none⟩) (by first | omega | (simp; done) | (simp; omega) | (simp [World.setCell]; omega))).trans (by go_simp)
  have x1_1_3 : w1.cell? ⟨w.heap.size + 1, 3, none⟩ = some (.bool false) := (hb1.cell (p := ⟨w.heap.size + 1, 3, none⟩) (by first | omega | (simp; done) | (simp; omega) | (simp [World.setCell]; omega))).trans (by go_simp)
  have z1_1_3 : w1.frozen? ⟨w.heap.size + 1, 3, none⟩ = false := (hb1.frozen (p := ⟨w.heap.size + 1, 3, none⟩) (by first | omega | (simp; done) | (simp; omega) | (simp [World.setCell]; omega))).trans (by go_simp)
  have x1_1_4 : w1.cell? ⟨w.heap.size + 1, 4, none⟩ = some (.slice none 0 0) := (hb1.cell (p := ⟨w.heap.size + 1, 4, none⟩) (by first | omega | (simp; done) | (simp; omega) | (simp [World.setCell]; omega))).trans (by go_simp)
  have z1_1_4 : w1.frozen? ⟨w.heap.size + 1, 4, none⟩ = false := (hb1.frozen (p := ⟨w.heap.size + 1, 4, none⟩) (by first | omega | (simp; done) | (simp; omega) | (simp [World.setCell]; omega))).trans (by go_simp)
  have x1_1_5 : w1.cell? ⟨w.heap.size + 1, 5, none⟩ = some (.slice none 0 0) := (hb1.cell (p := ⟨w.heap.size + 1, 5, none⟩) (by first | omega | (simp; done) | (simp; omega) | (simp [World.setCell]; omega))).trans (by go_simp)
  have z1_1_5 : w1.frozen? ⟨w.heap.size + 1, 5, none⟩ = false := (hb1.frozen (p := ⟨w.heap.size + 1, 5, none⟩) (by first | omega | (simp; done) | (simp; omega) | (simp [World.setCell]; omega))).trans (by go_simp)
  have x1_2_0 : w1.cell? ⟨w.heap.size + 2, 0, none⟩ = some (.string x.fName) := (hb1.cell (p := ⟨w.heap.size + 2, 0, none⟩) (by first | omega | (simp; done) | (simp; omega) | (simp [World.setCell]; omega))).trans (by go_simp)
  have z1_2_0 : w1.frozen? ⟨w.heap.size + 2, 0, none⟩ = false := (hb1.frozen (p := ⟨w.heap.size + 2, 0, none⟩) (by first | omega | (simp; done) | (simp; omega) | (simp [World.setCell]; omega))).trans (by go_simp)
  have x1_2_1 : w1.cell? ⟨w.heap.size + 2, 1, none⟩ = some (.string x.fLeft) := (hb1.cell (p := ⟨w.heap.size + 2, 1, none⟩) (by first | omega | (simp; done) | (simp; omega) | (simp [World.setCell]; omega))).trans (by go_simp)
  have z1_2_1 : w1.frozen? ⟨w.heap.size + 2, 1, none⟩ = false := (hb1.frozen (p := ⟨w.heap.size + 2, 1, none⟩) (by first | omega | (simp; done) | (simp; omega) | (simp [World.setCell]; omega))).trans (by go_simp)
  have x1_2_2 : w1.cell? ⟨w.heap.size + 2, 2, none⟩ = some (.slice none 0 0) := (hb1.cell (p := ⟨w.heap.size + 2, 2, none⟩) (by first | omega | (simp; done) | (simp; omega) | (simp [World.setCell]; omega))).trans (by go_simp)
  have z1_2_2 : w1.frozen? ⟨w.heap.size + 2, 2, none⟩ = false := (hb1.frozen (p := ⟨w.heap.size + 2, 2, none⟩) (by first | omega | (simp; done) | (simp; omega) | (simp [World.setCell]; omega))).trans (by go_simp)
  have x1_2_3 : w1.cell? ⟨w.heap.size + 2, 3, none⟩ = some (.bool false) := (hb1.cell (p := ⟨w.heap.size + 2, 3, none⟩) (by first | omega | (simp; done) | (simp; omega) | (simp [World.setCell]; omega))).trans (by go_simp)
  have z1_2_3 : w1.frozen? ⟨w.heap.size + 2, 3, none⟩ = false := (hb1.frozen (p := ⟨w.heap.size + 2, 3, none⟩) (by first | omega | (simp; done) | (simp; omega) | (simp [World.setCell]; omega))).trans (by go_simp)
  have x1_2_4 : w1.cell? ⟨w.heap.size + 2, 4, none⟩ = some (.slice none 0 0) := (hb1.cell (p := ⟨w.heap.size + 2, 4, none⟩) (by first | omega | (simp; done) | (simp; omega) | (simp [World.setCell]; omega))).trans (by go_simp)
  have z1_2_4 : w1.frozen? ⟨w.heap.size + 2, 4, none⟩ = false := (hb1.frozen (p := ⟨w.heap.size + 2, 4, none⟩) (by first | omega | (simp; done) | (simp; omega) | (simp [World.setCell]; omega))).trans (by go_simp)
  have x1_2_5 : w1.cell? ⟨w.heap.size + 2, 5, none⟩ = some (.slice none 0 0) := (hb1.cell (p := ⟨w.heap.size + 2, 5, none⟩) (by first | omega | (simp; done) | (simp; omega) | (simp [World.setCell]; omega))).trans (by go_simp)
  have z1_2_5 : w1.frozen? ⟨w.heap.size + 2, 5, none⟩ = false := (hb1.frozen (p := ⟨w.heap.size + 2, 5, none⟩) (by first | omega | (simp; done) | (simp; omega) | (simp [World.setCell]; omega))).trans (by go_simp)
  have HG1 := Lib.hid (show w1.heap[w.heap.size + 1]? = some (.cells #[.string ⟨#[]⟩, .string ⟨#[]⟩, .slice none 0 0, .bool false, .slice none 0 0, .slice none 0 0] 45) from (hb1.block _ (by first | omega | (simp; done) | (simp; omega) | (simp [World.setCell]; omega))).trans (by (repeat (refine blk_other (by simp) ?_)); exact blk_alloc (by simp) (blk_new (by simp))))
  have HB1 := Lib.hid hbw1
  have HSZ1 := Lib.hid hsz1
  have HLO1 := Lib.hid hlo1
  clear hb1 hbw1 hsz1 hlo1
  go_wp2_with fail
  refine (HT1.out _ (Nat.le_trans hhi (Below.size ((by repeat (first | (with_reducible exact HB1.out) | (with_reducible exact Below.refl _ _) | (refine Below.setCell ?_ (by simp <;> omega) _) | (refine Below.alloc ?_ (by simp <;> omega) _)) : Below w.heap.size w _)))) (HS4.out.later ((by repeat (first | (with_reducible exact HB1.out) | (with_reducible exact Below.refl _ _) | (refine Below.setCell ?_ (by simp <;> omega) _) | (refine Below.alloc ?_ (by simp <;> omega) _)) : Below w.heap.size w _)) hhi)).mono ?_
  rintro e w2 ⟨a4r, c4r, rfl, ho2, hb2⟩
  have hsz2 : w.heap.size + 2 < w2.heap.size := Nat.lt_of_lt_of_le (by have h := HSZ1.out; first | (with_reducible exact h) | (simp; done) | (simp; omega) | (simp [World.setCell]; omega)) hb2.size
  have hlo2 : w1.heap.size ≤ w2.heap.size := Nat.le_trans (by first | (with_reducible exact Nat.le_refl _) | (simp; done) | (simp; omega) | (simp [World.setCell]; omega)) hb2.size
  have hbw2 : Below w.heap.size w w2 := Below.trans ((by repeat (first | (with_reducible exact HB1.out) | (with_reducible exact Below.refl _ _) | (refine Below.setCell ?_ (by simp <;> omega) _) | (refine Below.alloc ?_ (by simp <;> omega) _)) : Below w.heap.size w _)) (hb2.mono (Below.size ((by repeat (first | (with_reducible exact HB1.out) | (with_reducible exact Below.refl _ _) | (refine Below.setCell ?_ (by simp <;> omega) _) | (refine Below.alloc ?_ (by simp <;> omega) _)) : Below w.heap.size w _))))
  have HO1_2 := Lib.hid (HO1_1.out.kept (Kept.trans (by repeat (first | (with_reducible exact Kept.refl) | (refine Kept.put ?_ (by rintro ⟨h1, h2⟩; dsimp only at h1; have h3 := HSZ0.out; omega)))) (Kept.of_below_all hb2)))
  clear HO1_1
  have HO2_2 := Lib.hid (ho2.sub (F' := fun y => w1.heap.size ≤ y ∧ y < w2.heap.size) (fun y hy => ⟨Nat.le_trans (by first | (with_reducible exact Nat.le_refl _) | (simp; done) | (simp; omega) | (simp [World.setCell]; done) | (simp [World.setCell]; omega)) hy.1, hy.2⟩))
  clear ho2
  have hsp := HSZ1.out
  have x2_0_5 : w2.cell? ⟨w.heap.size, 5, none⟩ = some (.slice a5 x.fContributions.length c5) := (hb2.cell (p := ⟨w.heap.size, 5, none⟩) (by first | omega | (simp; done) | (simp; omega) | (simp [World.setCell]; omega))).trans (by go_simp)
  have x2_1_0 : w2.cell? ⟨w.heap.size + 1, 0, none⟩ = some (.string ⟨#[]⟩) := (hb2.cell (p := ⟨w.heap.size + 1, 0, none⟩) (by first | omega | (simp; done) | (simp; omega) | (simp [World.setCell]; omega))).trans (by go_simp)
  have z2_1_0 : w2.frozen? ⟨w.heap.size + 1, 0, none⟩ = false := (hb2.frozen (p := ⟨w.heap.size + 1, 0, none⟩) (by first | omega | (simp; done) | (simp; omega) | (simp [World.setCell]; omega))).trans (by go_simp)
  have x2_1_1 : w2.cell? ⟨w.heap.size + 1, 1, none⟩ = some (.string ⟨#[]⟩) := (hb2.cell (p := ⟨w.heap.size + 1, 1, none⟩) (by first | omega | (simp; done) | (simp; omega) | (simp [World.setCell]; omega))).trans (by go_simp)
  have z2_1_1 : w2.frozen? ⟨w.heap.size + 1, 1, none⟩ = false := (hb2.frozen (p := ⟨w.heap.size + 1, 1, none⟩) (by first | omega | (simp; done) | (simp; omega) | (simp [World.setCell]; omega))).trans (by go_simp)
  have x2_1_2 : w2.cell? ⟨w.heap.size + 1, 2, none⟩ = some (.slice none 0 0) := (hb2.cell (p := ⟨w.heap.size + 1, 2, none⟩) (by first | omega | (simp; done) | (simp; omega) | (simp [World.setCell]; omega))).trans (by go_simp)
  have z2_1_2 : w2.frozen? ⟨w.heap.size + 1, 2, none⟩ = false := (hb2.frozen (p := ⟨w.heap.size + 1, 2, none⟩) (by first | omega | (simp; done) | (simp; omega) | (simp [World.setCell]; omega))).trans (by go_simp)
  have x2_1_3 : w2.cell? ⟨w.heap.size + 1, 3, none⟩ = some (.bool false) := (hb2.cell (p := ⟨w.heap.size + 1, 3, none⟩) (by first | omega | (simp; done) | (simp; omega) | (simp [World.setCell]; omega))).trans (by go_simp)
  have z2_1_3 : w2.frozen? ⟨w.heap.size + 1, 3, none⟩ = false := (hb2.frozen (p := ⟨w.heap.size + 1, 3, none⟩) (by first | omega | (simp; done) | (simp; omega) | (simp [World.setCell]; omega))).trans (by go_simp)
  have x2_1_4 : w2.cell? ⟨w.heap.size + 1, 4, none⟩ = some (.slice none 0 0) := (hb2.cell (p := ⟨w.heap.size + 1, 4, none⟩) (by first | omega | (simp; done) | (simp; omega) | (simp [World.setCell]; omega))).trans (by go_simp)
  have z2_1_4 : w2.frozen? ⟨w.heap.size + 1, 4, none⟩ = false := (hb2.frozen (p := ⟨w.heap.size + 1, 4, none⟩) (by first | omega | (simp; done) | (simp; omega) | (simp [World.setCell]; omega))).trans (by go_simp)
  have x2_1_5 : w2.cell? ⟨w.heap.size + 1, 5, none⟩ = some (.slice none 0 0) := (hb2.cell (p := ⟨w.heap.size + 1, 5, none⟩) (by first | omega | (simp; done) | (simp; omega) | (simp [World.setCell]; omega))).trans (by go_simp)
  have z2_1_5 : w2.frozen? ⟨w.heap.size + 1, 5, none⟩ = false := (hb2.frozen (p := ⟨w.heap.size + 1, 5, none⟩) (by first | omega | (simp; done) | (simp; omega) | (simp [World.setCell]; omega))).trans (by go_simp)
  have x2_2_0 : w2.cell? ⟨w.heap.size + 2, 0, none⟩ = some (.string x.fName) := (hb2.cell (p := ⟨w.heap.size + 2, 0, none⟩) (by first | omega | (simp; done) | (simp; omega) | (simp [World.setCell]; omega))).trans (by go_simp)
  have z2_2_0 : w2.frozen? ⟨w.heap.size + 2, 0, none⟩ = false := (hb2.frozen (p := ⟨w.heap.size + 2, 0, none⟩) (by first | omega | (simp; done) | (simp; omega) | (simp [World.setCell]; omega))).trans (by go_simp)
  have x2_2_1 : w2.cell? ⟨w.heap.size + 2, 1, none⟩ = some (.string x.fLeft) := (hb2.cell (p := ⟨w.heap.size + 2, 1, none⟩) (by first | omega | (simp; done) | (simp; omega) | (simp [World.setCell]; omega))).trans (by go_simp)
  have z2_2_1 : w2.frozen? ⟨w.heap.size + 2, 1, none⟩ = false := (hb2.frozen (p := ⟨w.heap.size + 2, 1, none⟩) (by first | omega | (simp; done) | (simp; omega) | (simp [World.setCell]; omega))).trans (by go_simp)
  have x2_2_2 : w2.cell? ⟨w.heap.size + 2, 2, none⟩ = some (.slice a2r x.fRight.length c2r) := (hb2.cell (p := ⟨w.heap.size + 2, 2, none⟩) (by first | omega | (simp; done) | (simp; omega) | (simp [World.setCell]; omega))).trans (by go_simp)
  have z2_2_2 : w2.frozen? ⟨w.heap.size + 2, 2, none⟩ = false := (hb2.frozen (p := ⟨w.heap.size + 2, 2, none⟩) (by first | omega | (simp; done) | (simp; omega) | (simp [World.setCell]; omega))).trans (by go_simp)
  have x2_2_3 : w2.cell? ⟨w.heap.size + 2, 3, none⟩ = some (.bool x.fLiteral) := (hb2.cell (p := ⟨w.heap.size + 2, 3, none⟩) (by first | omega | (simp; done) | (simp; omega) | (simp [World.setCell]; omega))).trans (by go_simp)
  have z2_2_3 : w2.frozen? ⟨w.heap.size + 2, 3, none⟩ = false := (hb2.frozen (p := ⟨w.heap.size + 2, 3, none⟩) (by first | omega | (simp; done) | (simp; omega) | (simp [World.setCell]; omega))).trans (by go_simp)
  have x2_2_4 : w2.cell? ⟨w.heap.size + 2, 4, none⟩ = some (.slice none 0 0) := (hb2.cell (p := ⟨w.heap.size + 2, 4, none⟩) (by first | omega | (simp; done) | (simp; omega) | (simp [World.setCell]; omega))).trans (by go_simp)
  have z2_2_4 : w2.frozen? ⟨w.heap.size + 2, 4, none⟩ = false := (hb2.frozen (p := ⟨w.heap.size + 2, 4, none⟩) (by first | omega | (simp; done) | (simp; omega) | (simp [World.setCell]; omega))).trans (by go_simp)
  have x2_2_5 : w2.cell? ⟨w.heap.size + 2, 5, none⟩ = some (.slice none 0 0) := (hb2.cell (p := ⟨w.heap.size + 2, 5, none⟩) (by first | omega | (simp; done) | (simp; omega) | (simp [World.setCell]; omega))).trans (by go_simp)
  have z2_2_5 : w2.frozen? ⟨w.heap.size + 2, 5, none⟩ = false := (hb2.frozen (p := ⟨w.heap.size + 2, 5, none⟩) (by first | omega | (simp; done) | (simp; omega) | (simp [World.setCell]; omega))).trans (by go_simp)
  have HG2 := Lib.hid (show w2.heap[w.heap.size + 1]? = some (.cells #[.string ⟨#[]⟩, .string ⟨#[]⟩, .slice none 0 0, .bool false, .slice none 0 0, .slice none 0 0] 45) from (hb2.block _ (by first | omega | (simp; done) | (simp; omega) | (simp [World.setCell]; omega))).trans (by repeat (first | (with_reducible exact HG1.out) | (refine blk_other (by simp) ?_))))
  have HB2 := Lib.hid hbw2
  have HSZ2 := Lib.hid hsz2
  have HLO2 := Lib.hid hlo2
  clear hb2 hbw2 hsz2 hlo2 hsp
  clear x1_0_3 x1_0_4 x1_0_5 x1_1_0 x1_1_1 x1_1_2 x1_1_3 x1_1_4 x1_1_5 x1_2_0 x1_2_1 x1_2_2 x1_2_3 x1_2_4 x1_2_5 z1_1_0 z1_1_1 z1_1_2 z1_1_3 z1_1_4 z1_1_5 z1_2_0 z1_2_1 z1_2_2 z1_2_3 z1_2_4 z1_2_5
  go_wp2_with fail
  refine (HT2.out _ (Nat.le_trans hhi (Below.size ((by repeat (first | (with_reducible exact HB2.out) | (with_reducible exact Below.refl _ _) | (refine Below.setCell ?_ (by simp <;> omega) _) | (refine Below.alloc ?_ (by simp <;> omega) _)) : Below w.heap.size w _)))) (HS5.out.later ((by repeat (first | (with_reducible exact HB2.out) | (with_reducible exact Below.refl _ _) | (refine Below.setCell ?_ (by simp <;> omega) _) | (refine Below.alloc ?_ (by simp <;> omega) _)) : Below w.heap.size w _)) hhi)).mono ?_
  rintro e w3 ⟨a5r, c5r, rfl, ho3, hb3⟩
  have hsz3 : w.heap.size + 2 < w3.heap.size := Nat.lt_of_lt_of_le (by have h := HSZ2.out; first | (with_reducible exact h) | (simp; done) | (simp; omega) | (simp [World.setCell]; omega)) hb3.size
  have hlo3 : w2.heap.size ≤ w3.heap.size := Nat.le_trans (by first | (with_reducible exact Nat.le_refl _) | (simp; done) | (simp; omega) | (simp [World.setCell]; omega)) hb3.size
  have hbw3 : Below w.heap.size w w3 := Below.trans ((by repeat (first | (with_reducible exact HB2.out) | (with_reducible exact Below.refl _ _) | (refine Below.setCell ?_ (by simp <;> omega) _) | (refine Below.alloc ?_ (by simp <;> omega) _)) : Below w.heap.size w _)) (hb3.mono (Below.size ((by repeat (first | (with_reducible exact HB2.out) | (with_reducible exact Below.refl _ _) | (refine Below.setCell ?_ (by simp <;> omega) _) | (refine Below.alloc ?_ (by simp <;> omega) _)) : Below w.heap.size w _))))
  have HO1_3 := Lib.hid (HO1_2.out.kept (Kept.trans (by repeat (first | (with_reducible exact Kept.refl) | (refine Kept.put ?_ (by rintro ⟨h1, h2⟩; dsimp only at h1; have h3 := HSZ0.out; omega)))) (Kept.of_below_all hb3)))
  clear HO1_2
  have HO2_3 := Lib.hid (HO2_2.out.kept (Kept.trans (by repeat (first | (with_reducible exact Kept.refl) | (refine Kept.put ?_ (by rintro ⟨h1, h2⟩; dsimp only at h1; have h3 := HSZ1.out; omega)))) (Kept.of_below_all hb3)))
  clear HO2_2
  have HO3_3 := Lib.hid (ho3.sub (F' := fun y => w2.heap.size ≤ y ∧ y < w3.heap.size) (fun y hy => ⟨Nat.le_trans (by first | (with_reducible exact Nat.le_refl _) | (simp; done) | (simp; omega) | (simp [World.setCell]; done) | (simp [World.setCell]; omega)) hy.1, hy.2⟩))
  clear ho3
  have hsp := HSZ2.out
  have x3_1_0 : w3.cell? ⟨w.heap.size + 1, 0, none⟩ = some (.string ⟨#[]⟩) := (hb3.cell (p := ⟨w.heap.size + 1, 0, none⟩) (by first | omega | (simp; done) | (simp; omega) | (simp [World.setCell]; omega))).trans (by go_simp)
  have z3_1_0 : w3.frozen? ⟨w.heap.size + 1, 0, none⟩ = false := (hb3.frozen (p := ⟨w.heap.size + 1, 0, none⟩) (by first | omega | (simp; done) | (simp; omega) | (simp [World.setCell]; omega))).trans (by go_simp)
  have x3_1_1 : w3.cell? ⟨w.heap.size + 1, 1, none⟩ = some (.string ⟨#[]⟩) := (hb3.cell (p := ⟨w.heap.size + 1, 1, none⟩) (by first | omega | (simp; done) | (simp; omega) | (simp [World.setCell]; omega))).trans (by go_simp)
  have z3_1_1 : w3.frozen? ⟨w.heap.size + 1, 1, none⟩ = false := (hb3.frozen (p := ⟨w.heap.size + 1, 1, none⟩) (by first | omega | (simp; done) | (simp; omega) | (simp [World.setCell]; omega))).trans (by go_simp)
  have x3_1_2 : w3.cell? ⟨w.heap.size + 1, 2, none⟩ = some (.slice none 0 0) := (hb3.cell (p := ⟨w.heap.size + 1, 2, none⟩) (by first | omega | (simp; done) | (simp; omega) | (simp [World.setCell]; omega))).trans (by go_simp)
  have z3_1_2 : w3.frozen? ⟨w.heap.size + 1, 2, none⟩ = false := (hb3.frozen (p := ⟨w.heap.size + 1, 2, none⟩) (by first | omega | (simp; done) | (simp; omega) | (simp [World.setCell]; omega))).trans (by go_simp)
  have x3_1_3 : w3.cell? ⟨w.heap.size + 1, 3, none⟩ = some (.bool false) := (hb3.cell (p := ⟨w.heap.size + 1, 3, none⟩) (by first | omega | (simp; done) | (simp; omega) | (simp [World.setCell]; omega))).trans (by go_simp)
  have z3_1_3 : w3.frozen? ⟨w.heap.size + 1, 3, none⟩ = false := (hb3.frozen (p := ⟨w.heap.size + 1, 3, none⟩) (by first | omega | (simp; done) | (simp; omega) | (simp [World.setCell]; omega))).trans (by go_simp)
  have x3_1_4 : w3.cell? ⟨w.heap.size + 1, 4, none⟩ = some (.slice none 0 0) := (hb3.cell (p := ⟨w.heap.size + 1, 4, none⟩) (by first | omega | (simp; done) | (simp; omega) | (simp [World.setCell]; omega))).trans (by go_simp)
  have z3_1_4 : w3.frozen? ⟨w.heap.size + 1, 4, none⟩ = false := (hb3.frozen (p := ⟨w.heap.size + 1, 4, none⟩) (by first | omega | (simp; done) | (simp; omega) | (simp [World.setCell]; omega))).trans (by go_simp)
  have x3_1_5 : w3.cell? ⟨w.heap.size + 1, 5, none⟩ = some (.slice none 0 0) := (hb3.cell (p := ⟨w.heap.size + 1, 5, none⟩) (by first | omega | (simp; done) | (simp; omega) | (simp [World.setCell]; omega))).trans (by go_simp)
  have z3_1_5 : w3.frozen? ⟨w.heap.size + 1, 5, none⟩ = false := (hb3.frozen (p := ⟨w.heap.size + 1, 5, none⟩) (by first | omega | (simp; done) | (simp; omega) | (simp [World.setCell]; omega))).trans (by go_simp)
  have x3_2_0 : w3.cell? ⟨w.heap.size + 2, 0, none⟩ = some (.string x.fName) := (hb3.cell (p := ⟨w.heap.size + 2, 0, none⟩) (by first | omega | (simp; done) | (simp; omega) | (simp [World.setCell]; omega))).trans (by go_simp)
  have z3_2_0 : w3.frozen? ⟨w.heap.size + 2, 0, none⟩ = false := (hb3.frozen (p := ⟨w.heap.size + 2, 0, none⟩) (by first | omega | (simp; done) | (simp; omega) | (simp [World.setCell]; omega))).trans (by go_simp)
  have x3_2_1 : w3.cell? ⟨w.heap.size + 2, 1, none⟩ = some (.string x.fLeft) := (hb3.cell (p := ⟨w.heap.size + 2, 1, none⟩) (by first | omega | (simp; done) | (simp; omega) | (simp [World.setCell]; omega))).trans (by go_simp)
  have z3_2_1 : w3.frozen? ⟨w.heap.size + 2, 1, none⟩ = false := (hb3.frozen (p := ⟨w.heap.size + 2, 1, none⟩) (by first | omega | (simp; done) | (simp; omega) | (simp [World.setCell]; omega))).trans (by go_simp)
  have x3_2_2 : w3.cell? ⟨w.heap.size + 2, 2, none⟩ = some (.slice a2r x.fRight.length c2r) := (hb3.cell (p := ⟨w.heap.size + 2, 2, none⟩) (by first | omega | (simp; done) | (simp; omega) | (simp [World.setCell]; omega))).trans (by go_simp)
  have z3_2_2 : w3.frozen? ⟨w.heap.size + 2, 2, none⟩ = false := (hb3.frozen (p := ⟨w.heap.size + 2, 2, none⟩) (by first | omega | (simp; done) | (simp; omega) | (simp [World.setCell]; omega))).trans (by go_simp)
  have x3_2_3 : w3.cell? ⟨w.heap.size + 2, 3, none⟩ = some (.bool x.fLiteral) := (hb3.cell (p := ⟨w.heap.size + 2, 3, none⟩) (by first | omega | (simp; done) | (simp; omega) | (simp [World.setCell]; omega))).trans (by go_simp)
  have z3_2_3 : w3.frozen? ⟨w.heap.size + 2, 3, none⟩ = false := (hb3.frozen (p := ⟨w.heap.size + 2, 3, none⟩) (by first | omega | (simp; done) | (simp; omega) | (simp [World.setCell]; omega))).trans (by go_simp)
  have x3_2_4 : w3.cell? ⟨w.heap.size + 2, 4, none⟩ = some (.slice a4r x.fEquations.length c4r) := (hb3.cell (p := ⟨w.heap.size + 2, 4, none⟩) (by first | omega | (simp; done) | (simp; omega) | (simp [World.setCell]; omega))).trans (by go_simp)
  have z3_2_4 : w3.frozen? ⟨w.heap.size + 2, 4, none⟩ = false := (hb3.frozen (p := ⟨w.heap.size + 2, 4, none⟩) (by first | omega | (simp; done) | (simp; omega) | (simp [World.setCell]; omega))).trans (by go_simp)
  have x3_2_5 : w3.cell? ⟨w.heap.size + 2, 5, none⟩ = some (.slice none 0 0) := (hb3.cell (p := ⟨w.heap.size + 2, 5, none⟩) (by first | omega | (simp; done) | (simp; omega) | (simp [World.setCell]; omega))).trans (by go_simp)
  have z3_2_5 : w3.frozen? ⟨w.heap.size + 2, 5, none⟩ = false := (hb3.frozen (p := ⟨w.heap.size + 2, 5, none⟩) (by first | omega | (simp; done) | (simp; omega) | (simp [World.setCell]; omega))).trans (by go_simp)
  have HG3 := Lib.hid (show w3.heap[w.heap.size + 1]? = some (.cells #[.string ⟨#[]⟩, .string ⟨#[]⟩, .slice none 0 0, .bool false, .slice none 0 0, .slice none 0 0] 45) from (hb3.block _ (by first | omega | (simp; done) | (simp; omega) | (simp [World.setCell]; omega))).trans (by repeat (first | (with_reducible exact HG2.out) | (refine blk_other (by simp) ?_))))
  have HB3 := Lib.hid hbw3
  have HSZ3 := Lib.hid hsz3
  have HLO3 := Lib.hid hlo3
  clear hb3 hbw3 hsz3 hlo3 hsp
  clear x2_0_5 x2_1_0 x2_1_1 x2_1_2 x2_1_3 x2_1_4 x2_1_5 x2_2_0 x2_2_1 x2_2_2 x2_2_3 x2_2_4 x2_2_5 z2_1_0 z2_1_1 z2_1_2 z2_1_3 z2_1_4 z2_1_5 z2_2_0 z2_2_1 z2_2_2 z2_2_3 z2_2_4 z2_2_5
  go_wp2
  refine bodyPost_ret (v := .agg #[.string x.fName, .string x.fLeft, .slice a2r x.fRight.length c2r, .bool x.fLiteral, .slice a4r x.fEquations.length c4r, .slice a5r x.fContributions.length c5r]) (results_cell_row Tryz.results8 _ _ (w.heap.size + 1) 45 #[.string x.fName, .string x.fLeft, .slice a2r x.fRight.length c2r, .bool x.fLiteral, .slice a4r x.fEquations.length c4r, .slice a5r x.fContributions.length c5r] (0, 0) _ rfl (by refine Eq.trans (blk_set (cs := #[.string x.fName, .string x.fLeft, .slice a2r x.fRight.length c2r, .bool x.fLiteral, .slice a4r x.fEquations.length c4r, .slice none 0 0]) (t := 45) (fr := (0, 0)) ?_) rfl; refine Eq.trans (blk_set (cs := #[.string x.fName, .string x.fLeft, .slice a2r x.fRight.length c2r, .bool x.fLiteral, .slice none 0 0, .slice none 0 0]) (t := 45) (fr := (0, 0)) ?_) rfl; refine Eq.trans (blk_set (cs := #[.string x.fName, .string x.fLeft, .slice a2r x.fRight.length c2r, .bool false, .slice none 0 0, .slice none 0 0]) (t := 45) (fr := (0, 0)) ?_) rfl; refine Eq.trans (blk_set (cs := #[.string x.fName, .string x.fLeft, .slice none 0 0, .bool false, .slice none 0 0, .slice none 0 0]) (t := 45) (fr := (0, 0)) ?_) rfl; refine Eq.trans (blk_set (cs := #[.string x.fName, .string ⟨#[]⟩, .slice none 0 0, .bool false, .slice none 0 0, .slice none 0 0]) (t := 45) (fr := (0, 0)) ?_) rfl; refine Eq.trans (blk_set (cs := #[.string ⟨#[]⟩, .string ⟨#[]⟩, .slice none 0 0, .bool false, .slice none 0 0, .slice none 0 0]) (t := 45) (fr := (0, 0)) ?_) rfl; repeat (first | (with_reducible exact HG3.out) | (refine blk_other (by simp) ?_))) Tryz.underlying45 rfl rfl) rfl ⟨a2r, c2r, a4r, c4r, a5r, c5r, rfl, ?_, (by repeat (first | (with_reducible exact HB3.out) | (with_reducible exact Below.refl _ _) | (refine Below.setCell ?_ (by simp <;> omega) _) | (refine Below.alloc ?_ (by simp <;> omega) _)) : Below w.heap.size w _)⟩
  have ho1 := HO1_3.out
  clear HO1_3
  have ho2 := HO2_3.out
  clear HO2_3
  have ho3 := HO3_3.out
  clear HO3_3
  have q1 := HLO1.out
  have q2 := HLO2.out
  have q3 := HLO3.out
  skip
  skip
  skip
  have hkk : ∀ w9 : World, Kept (fun y => w.heap.size + 3 ≤ y) w3 w9 → OwnR w9 (fun y => w.heap.size ≤ y ∧ y < w3.heap.size) 6 x.ct (fun j => [.string x.fName, .string x.fLeft, .slice a2r x.fRight.length c2r, .bool x.fLiteral, .slice a4r x.fEquations.length c4r, .slice a5r x.fContributions.length c5r].getD j .nilFunc) := fun w9 hk => by
    refine OwnR.append (F1 := fun _ => False) (F2 := fun y => w.heap.size + 3 ≤ y ∧ y < w3.heap.size) (m := 2) (n := 4) ?_ ?_ (by intro y h1 h2; first | exact h1.elim | exact h2.elim | (have h3 := h1.2; have h4 := h2.1; omega)) (by intro y h1; first | exact h1.elim | (have h3 := h1.1; have h4 := h1.2; exact ⟨by omega, by omega⟩)) (by intro y h1; first | exact h1.elim | (have h3 := h1.1; have h4 := h1.2; exact ⟨by omega, by omega⟩))
    · skip
      refine OwnR.lits (F := fun _ => False) fun j hj => ?_
      match j, hj with
      | 0, _ => rfl
      | 1, _ => rfl
    · skip
      refine OwnR.append (F1 := fun y => w.heap.size + 3 ≤ y ∧ y < w1.heap.size) (F2 := fun y => w1.heap.size ≤ y ∧ y < w3.heap.size) (m := 1) (n := 3) ?_ ?_ (by intro y h1 h2; first | exact h1.elim | exact h2.elim | (have h3 := h1.2; have h4 := h2.1; omega)) (by intro y h1; first | exact h1.elim | (have h3 := h1.1; have h4 := h1.2; exact ⟨by omega, by omega⟩)) (by intro y h1; first | exact h1.elim | (have h3 := h1.1; have h4 := h1.2; exact ⟨by omega, by omega⟩))
      · skip
        exact OwnR.one (ho1.kept (hk.sub fun y hy => by have h := hy.1; omega))
      · skip
        refine OwnR.append (F1 := fun _ => False) (F2 := fun y => w1.heap.size ≤ y ∧ y < w3.heap.size) (m := 1) (n := 2) ?_ ?_ (by intro y h1 h2; first | exact h1.elim | exact h2.elim | (have h3 := h1.2; have h4 := h2.1; omega)) (by intro y h1; first | exact h1.elim | (have h3 := h1.1; have h4 := h1.2; exact ⟨by omega, by omega⟩)) (by intro y h1; first | exact h1.elim | (have h3 := h1.1; have h4 := h1.2; exact ⟨by omega, by omega⟩))
        · skip
          refine OwnR.lits (F := fun _ => False) fun j hj => ?_
          match j, hj with
          | 0, _ => rfl
        · skip
          refine OwnR.append (F1 := fun y => w1.heap.size ≤ y ∧ y < w2.heap.size) (F2 := fun y => w2.heap.size ≤ y ∧ y < w3.heap.size) (m := 1) (n := 1) ?_ ?_ (by intro y h1 h2; first | exact h1.elim | exact h2.elim | (have h3 := h1.2; have h4 := h2.1; omega)) (by intro y h1; first | exact h1.elim | (have h3 := h1.1; have h4 := h1.2; exact ⟨by omega, by omega⟩)) (by intro y h1; first | exact h1.elim | (have h3 := h1.1; have h4 := h1.2; exact ⟨by omega, by omega⟩))
          · skip
            exact OwnR.one (ho2.kept (hk.sub fun y hy => by have h := hy.1; omega))
          · skip
            exact OwnR.one (ho3.kept (hk.sub fun y hy => by have h := hy.1; omega))
  refine (hkk _ (by repeat (first | (with_reducible exact Kept.refl) | (refine Kept.put ?_ (by intro h1; dsimp only at h1; omega))))).sub (fun y hy => ⟨hy.1, Nat.lt_of_lt_of_le hy.2 (by simp)⟩)

theorem info_Rule : (Tryz.prog.info? 45).map (fun i => (i.zero, i.size, i.bytes)) = some (some (.agg #[.string ⟨#[]⟩, .string ⟨#[]⟩, .slice none 0 0, .bool false, .slice none 0 0, .slice none 0 0]), 6, 112) := by kernel_rfl

set_option maxHeartbeats 1600000 in
set_option maxRecDepth 100000 in
theorem laws_toRuleS {lo hi : Nat} {a : Option Addr} {cap : Nat} (l : List DRule) (hsz : lsz DRule.sz l ≤ 1048576) (w : World) (hhi : hi ≤ w.heap.size) (hs : Sl lo hi w 6 l.length (fun k => DRule.ct (l.getD k default)) a) :
    Calls Tryz.prog 29 #[.slice a l.length cap] w fun e w' => ∃ a' cap', e = .returned (.slice a' l.length cap') ∧ Own w' (fun x => w.heap.size ≤ x ∧ x < w'.heap.size) (.sl 6 l.length (fun k => DRule.ct (l.getD k default))) (.slice a' l.length cap') ∧ Below w.heap.size w w' := by
  have HS := Lib.hid hs
  clear hs
  have HW := Lib.hid hsz
  have hn : l.length ≤ 1048576 := by unfold lsz at hsz; omega
  clear hsz
  obtain ⟨i0, hi', hz0, hz1, hz2⟩ := info_parts info_Rule
  go_enter Tryz.func29, Tryz.ntmps29
  go_wp2_with (at_make; refine wpList_make_full _ rfl (.tmp 6) (.tmp 6) 38 rfl w.heap.size 45 i0 (.agg #[.string ⟨#[]⟩, .string ⟨#[]⟩, .slice none 0 0, .bool false, .slice none 0 0, .slice none 0 0]) 6 Tryz.underlying38 hi' hz0 hz1 .i64 .i64 (l.length : Int) (l.length : Int) l.length rfl rfl rfl rfl (by rw [hz2]; omega) (by unfold maxLen; omega) (Nat.le_refl _) ?_; intro w1 hown hgrow)
  have hb1 : Below w.heap.size w w1 := (Below.refl _ w).grown hgrow (Nat.le_refl _) (fun k hk => by cases hk)
  clear hgrow
  have hblk := (ownsRow_block hown).1
  go_loopw [4] (fun i wr => ∃ (k : Nat) (xs : List Value), k ≤ l.length ∧ i = .int .i64 (k : Int) ∧ wr.ownsRow w.heap.size 45 6 (.slice (some ⟨w.heap.size, 0, none⟩) l.length l.length) l.length xs ∧ Filled w.heap.size wr 6 k (fun k => DRule.ct (l.getD k default)) xs ∧ Below w.heap.size w wr) (fun i _ => l.length - (intOf i).toNat)
  case atStart => exact ⟨0, _, Nat.zero_le _, rfl, hown, Filled.zero hblk, hb1⟩
  case round =>
    clear hown hb1 hblk
    obtain ⟨k, xs, hk, rfl, hown, hfill, hb⟩ := hrel
    have hblk := ownsRow_block hown
    have HO := Lib.hid hown
    have HF := Lib.hid hfill
    have HB := Lib.hid hb
    clear hown hfill
    by_cases hlt : k < l.length
    · have hhr : hi ≤ wr.heap.size := Nat.le_trans hhi hb.size
      obtain ⟨b, off, rfl, hlo, hhi', hc⟩ := (HS.out.later (hb.mono hhi) (Nat.le_refl _)).at k hlt
      obtain ⟨a2, c2, a4, c4, a5, c5, hc0_, hc1_, hc2_, hc3_, hc4_, hc5_, hs2, hs4, hs5⟩ := DRule.open hc
      have hkn : k * 6 + 6 ≤ l.length * 6 := by omega
      have d0 := hblk.2.2.1 (k * 6) (by omega)
      have z0 := hblk.2.2.2 (k * 6)
      have d1 := hblk.2.2.1 (k * 6 + 1) (by omega)
      have z1 := hblk.2.2.2 (k * 6 + 1)
      have d2 := hblk.2.2.1 (k * 6 + 2) (by omega)
      have z2 := hblk.2.2.2 (k * 6 + 2)
      have d3 := hblk.2.2.1 (k * 6 + 3) (by omega)
      have z3 := hblk.2.2.2 (k * 6 + 3)
      have d4 := hblk.2.2.1 (k * 6 + 4) (by omega)
      have z4 := hblk.2.2.2 (k * 6 + 4)
      have d5 := hblk.2.2.1 (k * 6 + 5) (by omega)
      have z5 := hblk.2.2.2 (k * 6 + 5)
      have hsz := hblk.1
      clear hblk hb hc
      have hxs := szle_at (f := DRule.sz) l k hlt
      generalize hx : l.getD k default = x at *
      have HX := Lib.hid hx
      clear hx
      generalize xs.getD (k * 6) Value.nilFunc = v0 at d0
      generalize xs.getD (k * 6 + 1) Value.nilFunc = v1 at d1
      generalize xs.getD (k * 6 + 2) Value.nilFunc = v2 at d2
      generalize xs.getD (k * 6 + 3) Value.nilFunc = v3 at d3
      generalize xs.getD (k * 6 + 4) Value.nilFunc = v4 at d4
      generalize xs.getD (k * 6 + 5) Value.nilFunc = v5 at d5
      have HT := Lib.hid (laws_toRule (c2 := c2) (c4 := c4) (c5 := c5) x (by have h1 := HW.out; omega) wr hhr hs2 hs4 hs5)
      clear hxs hs2 hs4 hs5
      go_wp2_with fail
      refine HT.out.mono ?_
      rintro e w1 ⟨a2r, c2r, a4r, c4r, a5r, c5r, rfl, ho1, hb1⟩
      have HOR := Lib.hid ho1
      clear ho1
      have e0 := (hb1.cell (p := ⟨w.heap.size, k * 6, none⟩) hsz).trans d0
      have y0 := (hb1.frozen (p := ⟨w.heap.size, k * 6, none⟩) hsz).trans z0
      have e1 := (hb1.cell (p := ⟨w.heap.size, k * 6 + 1, none⟩) hsz).trans d1
      have y1 := (hb1.frozen (p := ⟨w.heap.size, k * 6 + 1, none⟩) hsz).trans z1
      have e2 := (hb1.cell (p := ⟨w.heap.size, k * 6 + 2, none⟩) hsz).trans d2
      have y2 := (hb1.frozen (p := ⟨w.heap.size, k * 6 + 2, none⟩) hsz).trans z2
      have e3 := (hb1.cell (p := ⟨w.heap.size, k * 6 + 3, none⟩) hsz).trans d3
      have y3 := (hb1.frozen (p := ⟨w.heap.size, k * 6 + 3, none⟩) hsz).trans z3
      have e4 := (hb1.cell (p := ⟨w.heap.size, k * 6 + 4, none⟩) hsz).trans d4
      have y4 := (hb1.frozen (p := ⟨w.heap.size, k * 6 + 4, none⟩) hsz).trans z4
      have e5 := (hb1.cell (p := ⟨w.heap.size, k * 6 + 5, none⟩) hsz).trans d5
      have y5 := (hb1.frozen (p := ⟨w.heap.size, k * 6 + 5, none⟩) hsz).trans z5
      have HB1 := Lib.hid hb1
      clear hb1 d0 z0 d1 z1 d2 z2 d3 z3 d4 z4 d5 z5
      go_wp2
      go_roundw
      case rel =>
        have hst := HF.out.stored HB1.out hsz (ownsRow_below HO.out HB1.out) hlt [.string x.fName, .string x.fLeft, .slice a2r x.fRight.length c2r, .bool x.fLiteral, .slice a4r x.fEquations.length c4r, .slice a5r x.fContributions.length c5r] rfl ((by rw [HX.out]; exact HOR.out))
        exact ⟨k + 1, _, by omega, by go_num, hst.1, hst.2, setCells_below (Nat.le_refl _) [_, _, _, _, _, _] _ (HB.out.trans (HB1.out.mono HB.out.size))⟩
      case measure => simp [intOf]; omega
    · obtain rfl : k = l.length := by omega
      go_wp2
      go_ret
      exact ⟨_, _, rfl, HF.out.own hblk.1 hblk.2.2.1 hblk.2.2.2, hb⟩

set_option maxHeartbeats 1600000 in
set_option maxRecDepth 100000 in
theorem laws_eqRule {lo hi lo2 hi2 : Nat} {a2 : Option Addr} {c2 : Nat} {a4 : Option Addr} {c4 : Nat} {a5 : Option Addr} {c5 : Nat} {a2q : Option Addr} {c2q : Nat} {a4q : Option Addr} {c4q : Nat} {a5q : Option Addr} {c5q : Nat} (x : DRule) (hsz : x.sz ≤ 1048576) (w : World) (hhi : hi ≤ w.heap.size) (hhi2 : hi2 ≤ w.heap.size) (hs2 : Sl lo hi w 1 x.fRight.length (fun k => ictS (x.fRight.getD k default)) a2) (hs4 : Sl lo hi w 9 x.fEquations.length (fun k => DEquation.ct (x.fEquations.getD k default)) a4) (hs5 : Sl lo hi w 16 x.fContributions.length (fun k => DContribution.ct (x.fContributions.getD k default)) a5) (hs2q : Sl lo2 hi2 w 1 x.fRight.length (fun k => ictS (x.fRight.getD k default)) a2q) (hs4q : Sl lo2 hi2 w 9 x.fEquations.length (fun k => DEquation.ct (x.fEquations.getD k default)) a4q) (hs5q : Sl lo2 hi2 w 16 x.fContributions.length (fun k => DContribution.ct (x.fContributions.getD k default)) a5q) :
    Calls Tryz.prog 12 #[.agg #[.string x.fName, .string x.fLeft, .slice a2 x.fRight.length c2, .bool x.fLiteral, .slice a4 x.fEquations.length c4, .slice a5 x.fContributions.length c5], .agg #[.string x.fName, .string x.fLeft, .slice a2q x.fRight.length c2q, .bool x.fLiteral, .slice a4q x.fEquations.length c4q, .slice a5q x.fContributions.length c5q]] w fun e w' => e = .returned (.bool true) ∧ Below w.heap.size w w' := by
  have HS2 := Lib.hid hs2
  have HS2q := Lib.hid hs2q
  have HS4 := Lib.hid hs4
  have HS4q := Lib.hid hs4q
  have HS5 := Lib.hid hs5
  have HS5q := Lib.hid hs5q
  clear hs2 hs2q hs4 hs4q hs5 hs5q
  have HW := Lib.hid hsz
  clear hsz
  have HB0 := Lib.hid (((Below.refl w.heap.size w).alloc (Nat.le_refl _) (.cells #[.string x.fName, .string x.fLeft, .slice a2 x.fRight.length c2, .bool x.fLiteral, .slice a4 x.fEquations.length c4, .slice a5 x.fContributions.length c5] 45)).alloc (by simp <;> omega) (.cells #[.string x.fName, .string x.fLeft, .slice a2q x.fRight.length c2q, .bool x.fLiteral, .slice a4q x.fEquations.length c4q, .slice a5q x.fContributions.length c5q] 45))
  have ht0 := fun (w' : World) (hhi : hi ≤ w'.heap.size) (hhi2 : hi2 ≤ w'.heap.size) (hs : Sl lo hi w' 1 x.fRight.length (fun k => ictS (x.fRight.getD k default)) a2) (hs2 : Sl lo2 hi2 w' 1 x.fRight.length (fun k => ictS (x.fRight.getD k default)) a2q) => laws_eqStringS (cap := c2) (cap2 := c2q) x.fRight (by have h := HW.out; unfold DRule.sz at h; omega) w' hhi hhi2 hs hs2
  have HT0 := Lib.hid ht0
  clear ht0
  have ht1 := fun (w' : World) (hhi : hi ≤ w'.heap.size) (hhi2 : hi2 ≤ w'.heap.size) (hs : Sl lo hi w' 9 x.fEquations.length (fun k => DEquation.ct (x.fEquations.getD k default)) a4) (hs2 : Sl lo2 hi2 w' 9 x.fEquations.length (fun k => DEquation.ct (x.fEquations.getD k default)) a4q) => laws_eqEquationS (cap := c4) (cap2 := c4q) x.fEquations (by have h := HW.out; unfold DRule.sz at h; omega) w' hhi hhi2 hs hs2
  have HT1 := Lib.hid ht1
  clear ht1
  have ht2 := fun (w' : World) (hhi : hi ≤ w'.heap.size) (hhi2 : hi2 ≤ w'.heap.size) (hs : Sl lo hi w' 16 x.fContributions.length (fun k => DContribution.ct (x.fContributions.getD k default)) a5) (hs2 : Sl lo2 hi2 w' 16 x.fContributions.length (fun k => DContribution.ct (x.fContributions.getD k default)) a5q) => laws_eqContributionS (cap := c5) (cap2 := c5q) x.fContributions (by have h := HW.out; unfold DRule.sz at h; omega) w' hhi hhi2 hs hs2
  have HT2 := Lib.hid ht2
  clear ht2
  go_enter Tryz.func12, Tryz.ntmps12
  go_wp2_with fail
  refine (HT0.out _ (Nat.le_trans hhi (HB0.out.size)) (Nat.le_trans hhi2 (HB0.out.size)) (HS2.out.later HB0.out hhi) (HS2q.out.later HB0.out hhi2)).mono ?_
  rintro e w1 ⟨rfl, hb1⟩
  have x1_0_3 : w1.cell? ⟨w.heap.size, 3, none⟩ = some (.bool x.fLiteral) := (hb1.cell (p := ⟨w.heap.size, 3, none⟩) (by first | omega | (simp; done) | (simp; omega) | (simp [World.setCell]; omega))).trans (by go_simp)
  have x1_0_4 : w1.cell? ⟨w.heap.size, 4, none⟩ = some (.slice a4 x.fEquations.length c4) := (hb1.cell (p := ⟨w.heap.size, 4, none⟩) (by first | omega | (simp; done) | (simp; omega) | (simp [World.setCell]; omega))).trans (by go_simp)
  have x1_0_5 : w1.cell? ⟨w.heap.size, 5, none⟩ = some (.slice a5 x.fContributions.length c5) := (hb1.cell (p := ⟨w.heap.size, 5, none⟩) (by first | omega | (simp; done) | (simp; omega) | (simp [World.setCell]; omega))).trans (by go_simp)
  have x1_1_3 : w1.cell? ⟨w.heap.size + 1, 3, none⟩ = some (.bool x.fLiteral) := (hb1.cell (p := ⟨w.heap.size + 1, 3, none⟩) (by first | omega | (simp; done) | (simp; omega) | (simp [World.setCell]; omega))).trans (by go_simp)
  have x1_1_4 : w1.cell? ⟨w.heap.size + 1, 4, none⟩ = some (.slice a4q x.fEquations.length c4q) := (hb1.cell (p := ⟨w.heap.size + 1, 4, none⟩) (by first | omega | (simp; done) | (simp; omega) | (simp [World.setCell]; omega))).trans (by go_simp)
  have x1_1_5 : w1.cell? ⟨w.heap.size + 1, 5, none⟩ = some (.slice a5q x.fContributions.length c5q) := (hb1.cell (p := ⟨w.heap.size + 1, 5, none⟩) (by first | omega | (simp; done) | (simp; omega) | (simp [World.setCell]; omega))).trans (by go_simp)
  have hsz1 : w.heap.size + 1 < w1.heap.size := Nat.lt_of_lt_of_le (by first | omega | (simp; done) | (simp; omega) | (simp [World.setCell]; omega)) hb1.size
  have HB1 := Lib.hid (HB0.out.trans (hb1.mono HB0.out.size))
  clear hb1
  go_wp2_with fail
  refine (HT1.out _ (Nat.le_trans hhi (HB1.out.size)) (Nat.le_trans hhi2 (HB1.out.size)) (HS4.out.later HB1.out hhi) (HS4q.out.later HB1.out hhi2)).mono ?_
  rintro e w2 ⟨rfl, hb2⟩
  have x2_0_5 : w2.cell? ⟨w.heap.size, 5, none⟩ = some (.slice a5 x.fContributions.length c5) := (hb2.cell (p := ⟨w.heap.size, 5, none⟩) (by first | omega | (simp; done) | (simp; omega) | (simp [World.setCell]; omega))).trans (by go_simp)
  have x2_1_5 : w2.cell? ⟨w.heap.size + 1, 5, none⟩ = some (.slice a5q x.fContributions.length c5q) := (hb2.cell (p := ⟨w.heap.size + 1, 5, none⟩) (by first | omega | (simp; done) | (simp; omega) | (simp [World.setCell]; omega))).trans (by go_simp)
  have hsz2 : w.heap.size + 1 < w2.heap.size := Nat.lt_of_lt_of_le (by first | omega | (simp; done) | (simp; omega) | (simp [World.setCell]; omega)) hb2.size
  have HB2 := Lib.hid (HB1.out.trans (hb2.mono HB1.out.size))
  clear hb2
  clear x1_0_3 x1_0_4 x1_0_5 x1_1_3 x1_1_4 x1_1_5 hsz1
  go_wp2_with fail
  refine (HT2.out _ (Nat.le_trans hhi (HB2.out.size)) (Nat.le_trans hhi2 (HB2.out.size)) (HS5.out.later HB2.out hhi) (HS5q.out.later HB2.out hhi2)).mono ?_
  rintro e w3 ⟨rfl, hb3⟩
  have HB3 := Lib.hid (HB2.out.trans (hb3.mono HB2.out.size))
  clear hb3
  clear x2_0_5 x2_1_5 hsz2
  go_wp2
  go_ret
  exact ⟨rfl, HB3.out⟩

set_option maxHeartbeats 1600000 in
set_option maxRecDepth 100000 in
theorem laws_eqRuleS {lo hi lo2 hi2 : Nat} {a a2 : Option Addr} {cap cap2 : Nat} (l : List DRule) (hsz : lsz DRule.sz l ≤ 1048576) (w : World) (hhi : hi ≤ w.heap.size) (hhi2 : hi2 ≤ w.heap.size) (hs : Sl lo hi w 6 l.length (fun k => DRule.ct (l.getD k default)) a) (hs2 : Sl lo2 hi2 w 6 l.length (fun k => DRule.ct (l.getD k default)) a2) :
    Calls Tryz.prog 41 #[.slice a l.length cap, .slice a2 l.length cap2] w fun e w' => e = .returned (.bool true) ∧ Below w.heap.size w w' := by
  have HS := Lib.hid hs
  have HS2 := Lib.hid hs2
  have HW := Lib.hid hsz
  have hn : l.length ≤ 1048576 := by unfold lsz at hsz; omega
  clear hs hs2 hsz
  go_enter Tryz.func41, Tryz.ntmps41
  go_wp2
  go_loopw [5] (fun i wr => ∃ k : Nat, k ≤ l.length ∧ i = .int .i64 (k : Int) ∧ Below w.heap.size w wr) (fun i _ => l.length - (intOf i).toNat)
  case atStart => exact ⟨0, Nat.zero_le _, rfl, Below.refl _ _⟩
  case round =>
    obtain ⟨k, hk, rfl, hb⟩ := hrel
    have HB := Lib.hid hb
    by_cases hlt : k < l.length
    · have hhr : hi ≤ wr.heap.size := Nat.le_trans hhi hb.size
      have hhr2 : hi2 ≤ wr.heap.size := Nat.le_trans hhi2 hb.size
      obtain ⟨b, off, rfl, _, hhi', hc⟩ := (HS.out.later (hb.mono hhi) (Nat.le_refl _)).at k hlt
      obtain ⟨b2, off2, rfl, _, hhi2', hc2⟩ := (HS2.out.later (hb.mono hhi2) (Nat.le_refl _)).at k hlt
      obtain ⟨a2, c2, a4, c4, a5, c5, hc0_, hc1_, hc2_, hc3_, hc4_, hc5_, hs2, hs4, hs5⟩ := DRule.open hc
      obtain ⟨a2q, c2q, a4q, c4q, a5q, c5q, hc0q_, hc1q_, hc2q_, hc3q_, hc4q_, hc5q_, hs2q, hs4q, hs5q⟩ := DRule.open hc2
      have hxs := szle_at (f := DRule.sz) l k hlt
      clear hb hc hc2
      generalize l.getD k default = x at *
      have HT := Lib.hid (fun (w' : World) (hw : Below wr.heap.size wr w') => laws_eqRule (c2 := c2) (c2q := c2q) (c4 := c4) (c4q := c4q) (c5 := c5) (c5q := c5q) x (by have h1 := HW.out; omega) w' (Nat.le_trans hhr hw.size) (Nat.le_trans hhr2 hw.size) (hs2.later hw hhr) (hs4.later hw hhr) (hs5.later hw hhr) (hs2q.later hw hhr2) (hs4q.later hw hhr2) (hs5q.later hw hhr2))
      clear hxs hs2 hs2q hs4 hs4q hs5 hs5q
      go_wp2_with fail
      go_region_with ((go_at_call 12; refine (HT.out _ (by first | exact Below.refl _ _ | exact (Below.refl _ _).drew | exact below_drewN (Below.refl _ _) _)).mono ?_; rintro e w1 ⟨rfl, hb1⟩))
      all_goals
        go_wp2
        go_roundw
        case rel =>
          refine ⟨k + 1, by omega, by go_num, ?_⟩
          have hb2 : Below wr.heap.size wr w1 := ⟨hb1.os, hb1.tape, hb1.output, hb1.size, hb1.block⟩
          repeat (first | exact HB.out.trans (hb2.mono HB.out.size) | apply Below.drew | refine below_drewN ?_ _)
        case measure => simp [intOf]; omega
    · go_wp2
      go_ret
      exact ⟨rfl, HB.out⟩
end Go.Proofs.YtnmepemmpeboeaaGreat
namespace Go.Proofs.YtnmepemmpeboeaaGreat
open Go.ChangeShapes Go.WideShapes Go.ChangeAt Go.RowKit Go.Deep

def inR (n a b : Int) : Bool := decide (a ≤ n) && decide (n ≤ b)
theorem inR_yes {n a b : Int} (h1 : a ≤ n) (h2 : n ≤ b) : inR n a b = true := by unfold inR; simp [h1, h2]
theorem inR_no {n a b : Int} (h : n < a ∨ b < n) : inR n a b = false := by unfold inR; simp; omega
set_option maxRecDepth 100000 in
theorem spec_l1In (n a b : Int) (w : World) :
    Calls Tryz.prog 57 #[.int .i64 n, .int .i64 a, .int .i64 b] w fun e w' => e = .returned (.bool (inR n a b)) ∧ w = w' := by
  by_cases h1 : a ≤ n
  · have FIN := Lib.hid (show inR n a b = decide (n ≤ b) by unfold inR; simp [h1])
    go_enter Tryz.func57, Tryz.ntmps57
    go_wp2
    go_ret
    exact ⟨ret_b (by rw [FIN.out]), rfl⟩
  · have FIN := Lib.hid (show inR n a b = false from inR_no (by omega))
    have h1' : n < a := by omega
    clear h1
    go_enter Tryz.func57, Tryz.ntmps57
    go_wp2
    go_ret
    exact ⟨ret_b (by rw [FIN.out]), rfl⟩
end Go.Proofs.YtnmepemmpeboeaaGreat
namespace Go.Proofs.YtnmepemmpeboeaaGreat
open Go.ChangeShapes Go.WideShapes Go.ChangeAt Go.RowKit Go.Deep

structure DAttribute where
  fName : ByteArray
  fType : Int
  fMode : Int
  fCircular : Bool
  deriving Inhabited

def DAttribute.ct (x : DAttribute) : Nat → Ct
  | 0 => .lit (.string x.fName)
  | 1 => .lit (.int .i64 x.fType)
  | 2 => .lit (.int .i64 x.fMode)
  | 3 => .lit (.bool x.fCircular)
  | _ => .lit .nilFunc

def DAttribute.ok (x : DAttribute) : Prop := okS x.fName ∧ okI x.fType ∧ okI x.fMode ∧ okB x.fCircular

def DAttribute.sz (x : DAttribute) : Nat := x.fName.size

theorem DAttribute.open {lo hi b o : Nat} {w : World} {x : DAttribute} (h : ∀ j, j < 4 → ∃ u, w.cell? ⟨b, o + j, none⟩ = some u ∧ Lies lo hi w (x.ct j) u) :
    w.cell? ⟨b, o, none⟩ = some (.string x.fName) ∧ w.cell? ⟨b, o + 1, none⟩ = some (.int .i64 x.fType) ∧ w.cell? ⟨b, o + 2, none⟩ = some (.int .i64 x.fMode) ∧ w.cell? ⟨b, o + 3, none⟩ = some (.bool x.fCircular) := by
  obtain ⟨u0, hc0, hl0⟩ := h 0 (by decide)
  obtain rfl := lies_lit hl0
  obtain ⟨u1, hc1, hl1⟩ := h 1 (by decide)
  obtain rfl := lies_lit hl1
  obtain ⟨u2, hc2, hl2⟩ := h 2 (by decide)
  obtain rfl := lies_lit hl2
  obtain ⟨u3, hc3, hl3⟩ := h 3 (by decide)
  obtain rfl := lies_lit hl3
  exact ⟨hc0, hc1, hc2, hc3⟩

theorem opens_attribute {H : Type} {enc : TypeId × Value → H} {w : World} (fuel : Nat) : Opens enc Tryz.prog w 165 4 DAttribute.ct DAttribute.ok fuel := by
  intro cs x h
  have hl := opens_len Tryz.underlying165 h
  obtain ⟨y0, k0, q0⟩ := opens_field Tryz.underlying165 h 0 _ rfl (ft := 9) (o := 0) (n := 1) rfl rfl (fun m _ => opens_string Tryz.underlying9 m) (by kernel_rfl)
  obtain ⟨y1, k1, q1⟩ := opens_field Tryz.underlying165 h 1 _ rfl (ft := 3) (o := 1) (n := 1) rfl rfl (fun m _ => opens_int Tryz.underlying3 m) (by kernel_rfl)
  obtain ⟨y2, k2, q2⟩ := opens_field Tryz.underlying165 h 2 _ rfl (ft := 3) (o := 2) (n := 1) rfl rfl (fun m _ => opens_int Tryz.underlying3 m) (by kernel_rfl)
  obtain ⟨y3, k3, q3⟩ := opens_field Tryz.underlying165 h 3 _ rfl (ft := 4) (o := 3) (n := 1) rfl rfl (fun m _ => opens_bool Tryz.underlying4 m) (by kernel_rfl)
  refine ⟨⟨y0, y1, y2, y3⟩, ⟨k0, k1, k2, k3⟩, hl.trans (by kernel_rfl), fun j hj => ?_⟩
  match j, hj with
  | 0, _ => exact q0 0 (by decide)
  | 1, _ => exact q1 0 (by decide)
  | 2, _ => exact q2 0 (by decide)
  | 3, _ => exact q3 0 (by decide)

set_option maxHeartbeats 1600000 in
set_option maxRecDepth 100000 in
theorem laws_szAttribute (x : DAttribute) (L : Int) (hL0 : 0 ≤ L) (hL1 : L ≤ 1048576) (hx : x.ok) (w : World) :
    Calls Tryz.prog 107 #[.agg #[.string x.fName, .int .i64 x.fType, .int .i64 x.fMode, .bool x.fCircular], .int .i64 L] w fun e w' => e = .returned (.int .i64 (szR L x.sz)) ∧ Below w.heap.size w w' := by
  have HX := Lib.hid hx
  clear hx
  have okName : x.fName.size ≤ 9223372036854775807 := HX.out.1
  have HB0 := Lib.hid ((Below.refl w.heap.size w).alloc (Nat.le_refl _) (.cells #[.string x.fName, .int .i64 x.fType, .int .i64 x.fMode, .bool x.fCircular] 165))
  by_cases h0 : L < ((x.fName.size : Nat) : Int)
  · skip
    have fin := Lib.hid (szR_gt (n := x.sz) (L := L) (by unfold DAttribute.sz; omega))
    go_enter Tryz.func107, Tryz.ntmps107
    go_wp2
    go_ret
    exact ⟨ret_i (by rw [fin.out]), HB0.out⟩
  · skip
    have fin := Lib.hid (szR_le (n := x.sz) (L := L) (by unfold DAttribute.sz; omega))
    go_enter Tryz.func107, Tryz.ntmps107
    go_wp2
    go_ret
    exact ⟨ret_i (by rw [fin.out]; unfold DAttribute.sz; omega), HB0.out⟩

set_option maxHeartbeats 1600000 in
set_option maxRecDepth 100000 in
theorem laws_szAttributeS {lo hi : Nat} {a : Option Addr} {cap : Nat} (l : List DAttribute) (L : Int) (hL0 : 0 ≤ L) (hL1 : L ≤ 1048576) (hok : okL DAttribute.ok l) (w : World) (hhi : hi ≤ w.heap.size) (hs : Sl lo hi w 4 l.length (fun k => DAttribute.ct (l.getD k default)) a) :
    Calls Tryz.prog 83 #[.slice a l.length cap, .int .i64 L] w fun e w' => e = .returned (.int .i64 (szR L (lsz DAttribute.sz l))) ∧ Below w.heap.size w w' := by
  have HS := Lib.hid hs
  have HK := Lib.hid hok
  have hn : l.length ≤ 9223372036854775807 := hok.1
  clear hs hok
  by_cases hlong : L < ((l.length : Nat) : Int)
  · have fin := Lib.hid (szR_gt (n := lsz DAttribute.sz l) (L := L) (by unfold lsz; omega))
    go_enter Tryz.func83, Tryz.ntmps83
    go_wp2
    go_ret
    exact ⟨ret_i fin.out.symm, Below.refl _ _⟩
  · go_enter Tryz.func83, Tryz.ntmps83
    go_wp2
    go_loopw [1, 5] (fun q i wr => ∃ k : Nat, k ≤ l.length ∧ i = .int .i64 (k : Int) ∧ q = .int .i64 (L - l.length - psz DAttribute.sz l k) ∧ (l.length : Int) + psz DAttribute.sz l k ≤ L ∧ Below w.heap.size w wr) (fun _ i _ => l.length - (intOf i).toNat)
    case atStart => exact ⟨0, Nat.zero_le _, rfl, by rw [psz_zero]; go_num, by rw [psz_zero]; omega, Below.refl _ _⟩
    case round =>
      obtain ⟨k, hk, rfl, rfl, hle, hb⟩ := hrel
      have HB := Lib.hid hb
      by_cases hlt : k < l.length
      · have hsu := Lib.hid (psz_succ DAttribute.sz l k hlt)
        have hle2 := Lib.hid (psz_le DAttribute.sz l (k + 1))
        have hokk := HK.out.at hlt
        have hhr : hi ≤ wr.heap.size := Nat.le_trans hhi hb.size
        obtain ⟨b, off, rfl, hlo, hhi', hc⟩ := (HS.out.later (hb.mono hhi) (Nat.le_refl _)).at k hlt
        clear hb
        obtain ⟨hc0_, hc1_, hc2_, hc3_⟩ := DAttribute.open hc
        clear hc
        generalize l.getD k default = x at *
        generalize psz DAttribute.sz l k = S at *
        have hZ := laws_szAttribute x (L - l.length - S) (by omega) (by omega) hokk wr
        by_cases hf : ((x.sz : Nat) : Int) ≤ L - l.length - S
        · rw [szR_le hf] at hZ
          have HZ := Lib.hid hZ
          clear hZ hokk
          go_wp2_with fail
          refine HZ.out.mono ?_
          rintro e w1 ⟨rfl, hb1⟩
          have HB1 := Lib.hid hb1
          clear hb1
          go_wp2
          go_roundw
          case rel => exact ⟨k + 1, by omega, by go_num, by rw [hsu.out]; go_num, by rw [hsu.out]; omega, HB.out.trans (HB1.out.mono HB.out.size)⟩
          case measure => simp [intOf]; omega
        · have fin := Lib.hid (szR_gt (n := lsz DAttribute.sz l) (L := L) (by have h1 := hsu.out; have h2 := hle2.out; omega))
          rw [szR_gt (by omega)] at hZ
          have HZ := Lib.hid hZ
          clear hZ hokk
          go_wp2_with fail
          refine HZ.out.mono ?_
          rintro e w1 ⟨rfl, hb1⟩
          have HB1 := Lib.hid hb1
          clear hb1
          go_wp2
          go_ret
          exact ⟨ret_i fin.out.symm, HB.out.trans (HB1.out.mono HB.out.size)⟩
      · obtain rfl : k = l.length := by omega
        have fin := Lib.hid (szR_le (n := lsz DAttribute.sz l) (L := L) (by unfold lsz; rw [psz_all] at hle; omega))
        have fin2 := Lib.hid (psz_all DAttribute.sz l)
        go_wp2
        go_ret
        exact ⟨ret_i (by rw [fin.out, fin2.out]; unfold lsz; omega), HB.out⟩

set_option maxHeartbeats 1600000 in
set_option maxRecDepth 100000 in
theorem laws_toAttribute (x : DAttribute) (w : World) :
    Calls Tryz.prog 111 #[.agg #[.string x.fName, .int .i64 x.fType, .int .i64 x.fMode, .bool x.fCircular]] w fun e w' => e = .returned (.agg #[.string x.fName, .int .i64 x.fType, .int .i64 x.fMode, .bool x.fCircular]) ∧ Below w.heap.size w w' := by
  go_enter Tryz.func111, Tryz.ntmps111
  go_wp2
  exact bodyPost_ret (v := .agg #[.string x.fName, .int .i64 x.fType, .int .i64 x.fMode, .bool x.fCircular]) (by simp [results, Tryz.results111, go_sem]) rfl ⟨rfl, by
    repeat (first | exact Below.refl _ _ | (refine Below.setCell ?_ (by simp <;> omega) _) | (refine Below.alloc ?_ (by simp <;> omega) _))⟩

theorem info_Attribute : (Tryz.prog.info? 106).map (fun i => (i.zero, i.size, i.bytes)) = some (some (.agg #[.string ⟨#[]⟩, .int .i64 0, .int .i64 0, .bool false]), 4, 40) := by kernel_rfl

set_option maxHeartbeats 1600000 in
set_option maxRecDepth 100000 in
theorem laws_toAttributeS {lo hi : Nat} {a : Option Addr} {cap : Nat} (l : List DAttribute) (hsz : lsz DAttribute.sz l ≤ 1048576) (w : World) (hhi : hi ≤ w.heap.size) (hs : Sl lo hi w 4 l.length (fun k => DAttribute.ct (l.getD k default)) a) :
    Calls Tryz.prog 88 #[.slice a l.length cap] w fun e w' => ∃ a' cap', e = .returned (.slice a' l.length cap') ∧ Own w' (fun x => w.heap.size ≤ x ∧ x < w'.heap.size) (.sl 4 l.length (fun k => DAttribute.ct (l.getD k default))) (.slice a' l.length cap') ∧ Below w.heap.size w w' := by
  have HS := Lib.hid hs
  clear hs
  have HW := Lib.hid hsz
  have hn : l.length ≤ 1048576 := by unfold lsz at hsz; omega
  clear hsz
  obtain ⟨i0, hi', hz0, hz1, hz2⟩ := info_parts info_Attribute
  go_enter Tryz.func88, Tryz.ntmps88
  go_wp2_with (at_make; refine wpList_make_full _ rfl (.tmp 6) (.tmp 6) 102 rfl w.heap.size 106 i0 (.agg #[.string ⟨#[]⟩, .int .i64 0, .int .i64 0, .bool false]) 4 Tryz.underlying102 hi' hz0 hz1 .i64 .i64 (l.length : Int) (l.length : Int) l.length rfl rfl rfl rfl (by rw [hz2]; omega) (by unfold maxLen; omega) (Nat.le_refl _) ?_; intro w1 hown hgrow)
  have hb1 : Below w.heap.size w w1 := (Below.refl _ w).grown hgrow (Nat.le_refl _) (fun k hk => by cases hk)
  clear hgrow
  have hblk := (ownsRow_block hown).1
  go_loopw [4] (fun i wr => ∃ (k : Nat) (xs : List Value), k ≤ l.length ∧ i = .int .i64 (k : Int) ∧ wr.ownsRow w.heap.size 106 4 (.slice (some ⟨w.heap.size, 0, none⟩) l.length l.length) l.length xs ∧ Filled w.heap.size wr 4 k (fun k => DAttribute.ct (l.getD k default)) xs ∧ Below w.heap.size w wr) (fun i _ => l.length - (intOf i).toNat)
  case atStart => exact ⟨0, _, Nat.zero_le _, rfl, hown, Filled.zero hblk, hb1⟩
  case round =>
    clear hown hb1 hblk
    obtain ⟨k, xs, hk, rfl, hown, hfill, hb⟩ := hrel
    have hblk := ownsRow_block hown
    have HO := Lib.hid hown
    have HF := Lib.hid hfill
    have HB := Lib.hid hb
    clear hown hfill
    by_cases hlt : k < l.length
    · have hhr : hi ≤ wr.heap.size := Nat.le_trans hhi hb.size
      obtain ⟨b, off, rfl, hlo, hhi', hc⟩ := (HS.out.later (hb.mono hhi) (Nat.le_refl _)).at k hlt
      obtain ⟨hc0_, hc1_, hc2_, hc3_⟩ := DAttribute.open hc
      have hkn : k * 4 + 4 ≤ l.length * 4 := by omega
      have d0 := hblk.2.2.1 (k * 4) (by omega)
      have z0 := hblk.2.2.2 (k * 4)
      have d1 := hblk.2.2.1 (k * 4 + 1) (by omega)
      have z1 := hblk.2.2.2 (k * 4 + 1)
      have d2 := hblk.2.2.1 (k * 4 + 2) (by omega)
      have z2 := hblk.2.2.2 (k * 4 + 2)
      have d3 := hblk.2.2.1 (k * 4 + 3) (by omega)
      have z3 := hblk.2.2.2 (k * 4 + 3)
      have hsz := hblk.1
      clear hblk hb hc
      generalize hx : l.getD k default = x at *
      have HX := Lib.hid hx
      clear hx
      generalize xs.getD (k * 4) Value.nilFunc = v0 at d0
      generalize xs.getD (k * 4 + 1) Value.nilFunc = v1 at d1
      generalize xs.getD (k * 4 + 2) Value.nilFunc = v2 at d2
      generalize xs.getD (k * 4 + 3) Value.nilFunc = v3 at d3
      have HT := Lib.hid (laws_toAttribute x wr)
      clear hkn
      go_wp2_with fail
      refine HT.out.mono ?_
      rintro e w1 ⟨rfl, hb1⟩
      have e0 := (hb1.cell (p := ⟨w.heap.size, k * 4, none⟩) hsz).trans d0
      have y0 := (hb1.frozen (p := ⟨w.heap.size, k * 4, none⟩) hsz).trans z0
      have e1 := (hb1.cell (p := ⟨w.heap.size, k * 4 + 1, none⟩) hsz).trans d1
      have y1 := (hb1.frozen (p := ⟨w.heap.size, k * 4 + 1, none⟩) hsz).trans z1
      have e2 := (hb1.cell (p := ⟨w.heap.size, k * 4 + 2, none⟩) hsz).trans d2
      have y2 := (hb1.frozen (p := ⟨w.heap.size, k * 4 + 2, none⟩) hsz).trans z2
      have e3 := (hb1.cell (p := ⟨w.heap.size, k * 4 + 3, none⟩) hsz).trans d3
      have y3 := (hb1.frozen (p := ⟨w.heap.size, k * 4 + 3, none⟩) hsz).trans z3
      have HB1 := Lib.hid hb1
      clear hb1 d0 z0 d1 z1 d2 z2 d3 z3
      go_wp2
      go_roundw
      case rel =>
        have hst := HF.out.stored HB1.out hsz (ownsRow_below HO.out HB1.out) hlt [.string x.fName, .int .i64 x.fType, .int .i64 x.fMode, .bool x.fCircular] rfl (OwnR.lits fun j hj => by
          rw [HX.out]
          match j, hj with
          | 0, _ => rfl
          | 1, _ => rfl
          | 2, _ => rfl
          | 3, _ => rfl)
        exact ⟨k + 1, _, by omega, by go_num, hst.1, hst.2, setCells_below (Nat.le_refl _) [_, _, _, _] _ (HB.out.trans (HB1.out.mono HB.out.size))⟩
      case measure => simp [intOf]; omega
    · obtain rfl : k = l.length := by omega
      go_wp2
      go_ret
      exact ⟨_, _, rfl, HF.out.own hblk.1 hblk.2.2.1 hblk.2.2.2, hb⟩

set_option maxHeartbeats 1600000 in
set_option maxRecDepth 100000 in
theorem laws_eqAttribute (x : DAttribute) (w : World) :
    Calls Tryz.prog 129 #[.agg #[.string x.fName, .int .i64 x.fType, .int .i64 x.fMode, .bool x.fCircular], .agg #[.string x.fName, .int .i64 x.fType, .int .i64 x.fMode, .bool x.fCircular]] w fun e w' => e = .returned (.bool true) ∧ Below w.heap.size w w' := by
  go_enter Tryz.func129, Tryz.ntmps129
  go_wp2
  go_ret
  exact ⟨rfl, by
    repeat (first | exact Below.refl _ _ | (refine Below.setCell ?_ (by simp <;> omega) _) | (refine Below.alloc ?_ (by simp <;> omega) _))⟩

set_option maxHeartbeats 1600000 in
set_option maxRecDepth 100000 in
theorem laws_eqAttributeS {lo hi lo2 hi2 : Nat} {a a2 : Option Addr} {cap cap2 : Nat} (l : List DAttribute) (hsz : lsz DAttribute.sz l ≤ 1048576) (w : World) (hhi : hi ≤ w.heap.size) (hhi2 : hi2 ≤ w.heap.size) (hs : Sl lo hi w 4 l.length (fun k => DAttribute.ct (l.getD k default)) a) (hs2 : Sl lo2 hi2 w 4 l.length (fun k => DAttribute.ct (l.getD k default)) a2) :
    Calls Tryz.prog 104 #[.slice a l.length cap, .slice a2 l.length cap2] w fun e w' => e = .returned (.bool true) ∧ Below w.heap.size w w' := by
  have HS := Lib.hid hs
  have HS2 := Lib.hid hs2
  have HW := Lib.hid hsz
  have hn : l.length ≤ 1048576 := by unfold lsz at hsz; omega
  clear hs hs2 hsz
  go_enter Tryz.func104, Tryz.ntmps104
  go_wp2
  go_loopw [5] (fun i wr => ∃ k : Nat, k ≤ l.length ∧ i = .int .i64 (k : Int) ∧ Below w.heap.size w wr) (fun i _ => l.length - (intOf i).toNat)
  case atStart => exact ⟨0, Nat.zero_le _, rfl, Below.refl _ _⟩
  case round =>
    obtain ⟨k, hk, rfl, hb⟩ := hrel
    have HB := Lib.hid hb
    by_cases hlt : k < l.length
    · have hhr : hi ≤ wr.heap.size := Nat.le_trans hhi hb.size
      have hhr2 : hi2 ≤ wr.heap.size := Nat.le_trans hhi2 hb.size
      obtain ⟨b, off, rfl, _, hhi', hc⟩ := (HS.out.later (hb.mono hhi) (Nat.le_refl _)).at k hlt
      obtain ⟨b2, off2, rfl, _, hhi2', hc2⟩ := (HS2.out.later (hb.mono hhi2) (Nat.le_refl _)).at k hlt
      obtain ⟨hc0_, hc1_, hc2_, hc3_⟩ := DAttribute.open hc
      obtain ⟨hc0q_, hc1q_, hc2q_, hc3q_⟩ := DAttribute.open hc2
      clear hb hc hc2
      generalize l.getD k default = x at *
      have HT := Lib.hid (fun (w' : World) => laws_eqAttribute x w')
      skip
      go_wp2_with fail
      go_region_with ((go_at_call 129; refine (HT.out _).mono ?_; rintro e w1 ⟨rfl, hb1⟩))
      all_goals
        go_wp2
        go_roundw
        case rel =>
          refine ⟨k + 1, by omega, by go_num, ?_⟩
          have hb2 : Below wr.heap.size wr w1 := ⟨hb1.os, hb1.tape, hb1.output, hb1.size, hb1.block⟩
          repeat (first | exact HB.out.trans (hb2.mono HB.out.size) | apply Below.drew | refine below_drewN ?_ _)
        case measure => simp [intOf]; omega
    · go_wp2
      go_ret
      exact ⟨rfl, HB.out⟩
end Go.Proofs.YtnmepemmpeboeaaGreat
namespace Go.Proofs.YtnmepemmpeboeaaGreat
open Go.ChangeShapes Go.WideShapes Go.ChangeAt Go.RowKit Go.Deep

structure DSymbol where
  fName : ByteArray
  fAttributes : List (DAttribute)
  deriving Inhabited

def DSymbol.ct (x : DSymbol) : Nat → Ct
  | 0 => .lit (.string x.fName)
  | 1 => .sl 4 x.fAttributes.length (fun k => DAttribute.ct (x.fAttributes.getD k default))
  | _ => .lit .nilFunc

def DSymbol.ok (x : DSymbol) : Prop := okS x.fName ∧ (okL DAttribute.ok) x.fAttributes

def DSymbol.sz (x : DSymbol) : Nat := x.fName.size + (lsz DAttribute.sz) x.fAttributes

theorem DSymbol.open {lo hi b o : Nat} {w : World} {x : DSymbol} (h : ∀ j, j < 2 → ∃ u, w.cell? ⟨b, o + j, none⟩ = some u ∧ Lies lo hi w (x.ct j) u) :
    ∃ a1 c1, w.cell? ⟨b, o, none⟩ = some (.string x.fName) ∧ w.cell? ⟨b, o + 1, none⟩ = some (.slice a1 x.fAttributes.length c1) ∧ Sl lo hi w 4 x.fAttributes.length (fun k => DAttribute.ct (x.fAttributes.getD k default)) a1 := by
  obtain ⟨u0, hc0, hl0⟩ := h 0 (by decide)
  obtain rfl := lies_lit hl0
  obtain ⟨u1, hc1, hl1⟩ := h 1 (by decide)
  obtain ⟨a1, c1, rfl, hs1⟩ := lies_sl hl1
  exact ⟨a1, c1, hc0, hc1, hs1⟩

theorem opens_symbol {H : Type} {enc : TypeId × Value → H} {w : World} (fuel : Nat) : Opens enc Tryz.prog w 91 2 DSymbol.ct DSymbol.ok fuel := by
  intro cs x h
  have hl := opens_len Tryz.underlying91 h
  obtain ⟨y0, k0, q0⟩ := opens_field Tryz.underlying91 h 0 _ rfl (ft := 9) (o := 0) (n := 1) rfl rfl (fun m _ => opens_string Tryz.underlying9 m) (by kernel_rfl)
  obtain ⟨y1, k1, q1⟩ := opens_field Tryz.underlying91 h 1 _ rfl (ft := 89) (o := 1) (n := 1) rfl rfl (fun m _ => (fun fuel => opens_slice Tryz.underlying89 (e := 165) (n := 4) (by kernel_rfl) (by decide) fuel (fun m _ => opens_attribute m)) m) (by kernel_rfl)
  refine ⟨⟨y0, y1⟩, ⟨k0, k1⟩, hl.trans (by kernel_rfl), fun j hj => ?_⟩
  match j, hj with
  | 0, _ => exact q0 0 (by decide)
  | 1, _ => exact q1 0 (by decide)

set_option maxHeartbeats 1600000 in
set_option maxRecDepth 100000 in
theorem laws_szSymbol {lo hi : Nat} {a1 : Option Addr} {c1 : Nat} (x : DSymbol) (L : Int) (hL0 : 0 ≤ L) (hL1 : L ≤ 1048576) (hx : x.ok) (w : World) (hhi : hi ≤ w.heap.size) (hs1 : Sl lo hi w 4 x.fAttributes.length (fun k => DAttribute.ct (x.fAttributes.getD k default)) a1) :
    Calls Tryz.prog 52 #[.agg #[.string x.fName, .slice a1 x.fAttributes.length c1], .int .i64 L] w fun e w' => e = .returned (.int .i64 (szR L x.sz)) ∧ Below w.heap.size w w' := by
  have HS1 := Lib.hid hs1
  clear hs1
  have HX := Lib.hid hx
  clear hx
  have okName : x.fName.size ≤ 9223372036854775807 := HX.out.1
  have HB0 := Lib.hid ((Below.refl w.heap.size w).alloc (Nat.le_refl _) (.cells #[.string x.fName, .slice a1 x.fAttributes.length c1] 91))
  by_cases h0 : L < ((x.fName.size : Nat) : Int)
  · skip
    have fin := Lib.hid (szR_gt (n := x.sz) (L := L) (by unfold DSymbol.sz; omega))
    go_enter Tryz.func52, Tryz.ntmps52
    go_wp2
    go_ret
    exact ⟨ret_i (by rw [fin.out]), HB0.out⟩
  · skip
    by_cases h1 : (L - (x.fName.size : Nat)) < (((lsz DAttribute.sz) x.fAttributes : Nat) : Int)
    · skip
      have hz0 := fun (w' : World) (hhi : hi ≤ w'.heap.size) (hs1 : Sl lo hi w' 4 x.fAttributes.length (fun k => DAttribute.ct (x.fAttributes.getD k default)) a1) => laws_szAttributeS (cap := c1) x.fAttributes (L - (x.fName.size : Nat)) (by omega) (by omega) HX.out.2 w' hhi hs1
      rw [szR_gt (by omega)] at hz0
      have HZ0 := Lib.hid hz0
      clear hz0
      have fin := Lib.hid (szR_gt (n := x.sz) (L := L) (by unfold DSymbol.sz; omega))
      go_enter Tryz.func52, Tryz.ntmps52
      go_wp2_with fail
      refine (HZ0.out _ (Nat.le_trans hhi HB0.out.size) (HS1.out.later HB0.out hhi)).mono ?_
      rintro e w1 ⟨rfl, hb1⟩
      have hsz1 : w.heap.size < w1.heap.size := Nat.lt_of_lt_of_le (by first | omega | (simp; done) | (simp; omega)) hb1.size
      have HB1 := Lib.hid (HB0.out.trans (hb1.mono HB0.out.size))
      clear hb1
      go_wp2
      go_ret
      exact ⟨ret_i (by rw [fin.out]), HB1.out⟩
    · skip
      have hz0 := fun (w' : World) (hhi : hi ≤ w'.heap.size) (hs1 : Sl lo hi w' 4 x.fAttributes.length (fun k => DAttribute.ct (x.fAttributes.getD k default)) a1) => laws_szAttributeS (cap := c1) x.fAttributes (L - (x.fName.size : Nat)) (by omega) (by omega) HX.out.2 w' hhi hs1
      rw [szR_le (by omega)] at hz0
      have HZ0 := Lib.hid hz0
      clear hz0
      have fin := Lib.hid (szR_le (n := x.sz) (L := L) (by unfold DSymbol.sz; omega))
      go_enter Tryz.func52, Tryz.ntmps52
      go_wp2_with fail
      refine (HZ0.out _ (Nat.le_trans hhi HB0.out.size) (HS1.out.later HB0.out hhi)).mono ?_
      rintro e w1 ⟨rfl, hb1⟩
      have hsz1 : w.heap.size < w1.heap.size := Nat.lt_of_lt_of_le (by first | omega | (simp; done) | (simp; omega)) hb1.size
      have HB1 := Lib.hid (HB0.out.trans (hb1.mono HB0.out.size))
      clear hb1
      go_wp2
      go_ret
      exact ⟨ret_i (by rw [fin.out]; unfold DSymbol.sz; omega), HB1.out⟩

set_option maxHeartbeats 1600000 in
set_option maxRecDepth 100000 in
theorem laws_szSymbolS {lo hi : Nat} {a : Option Addr} {cap : Nat} (l : List DSymbol) (L : Int) (hL0 : 0 ≤ L) (hL1 : L ≤ 1048576) (hok : okL DSymbol.ok l) (w : World) (hhi : hi ≤ w.heap.size) (hs : Sl lo hi w 2 l.length (fun k => DSymbol.ct (l.getD k default)) a) :
    Calls Tryz.prog 17 #[.slice a l.length cap, .int .i64 L] w fun e w' => e = .returned (.int .i64 (szR L (lsz DSymbol.sz l))) ∧ Below w.heap.size w w' := by
  have HS := Lib.hid hs
  have HK := Lib.hid hok
  have hn : l.length ≤ 9223372036854775807 := hok.1
  clear hs hok
  by_cases hlong : L < ((l.length : Nat) : Int)
  · have fin := Lib.hid (szR_gt (n := lsz DSymbol.sz l) (L := L) (by unfold lsz; omega))
    go_enter Tryz.func17, Tryz.ntmps17
    go_wp2
    go_ret
    exact ⟨ret_i fin.out.symm, Below.refl _ _⟩
  · go_enter Tryz.func17, Tryz.ntmps17
    go_wp2
    go_loopw [1, 5] (fun q i wr => ∃ k : Nat, k ≤ l.length ∧ i = .int .i64 (k : Int) ∧ q = .int .i64 (L - l.length - psz DSymbol.sz l k) ∧ (l.length : Int) + psz DSymbol.sz l k ≤ L ∧ Below w.heap.size w wr) (fun _ i _ => l.length - (intOf i).toNat)
    case atStart => exact ⟨0, Nat.zero_le _, rfl, by rw [psz_zero]; go_num, by rw [psz_zero]; omega, Below.refl _ _⟩
    case round =>
      obtain ⟨k, hk, rfl, rfl, hle, hb⟩ := hrel
      have HB := Lib.hid hb
      by_cases hlt : k < l.length
      · have hsu := Lib.hid (psz_succ DSymbol.sz l k hlt)
        have hle2 := Lib.hid (psz_le DSymbol.sz l (k + 1))
        have hokk := HK.out.at hlt
        have hhr : hi ≤ wr.heap.size := Nat.le_trans hhi hb.size
        obtain ⟨b, off, rfl, hlo, hhi', hc⟩ := (HS.out.later (hb.mono hhi) (Nat.le_refl _)).at k hlt
        clear hb
        obtain ⟨a1, c1, hc0_, hc1_, hs1⟩ := DSymbol.open hc
        clear hc
        generalize l.getD k default = x at *
        generalize psz DSymbol.sz l k = S at *
        have hZ := laws_szSymbol (c1 := c1) x (L - l.length - S) (by omega) (by omega) hokk wr hhr hs1
        by_cases hf : ((x.sz : Nat) : Int) ≤ L - l.length - S
        · rw [szR_le hf] at hZ
          have HZ := Lib.hid hZ
          clear hZ hokk hs1
          go_wp2_with fail
          refine HZ.out.mono ?_
          rintro e w1 ⟨rfl, hb1⟩
          have HB1 := Lib.hid hb1
          clear hb1
          go_wp2
          go_roundw
          case rel => exact ⟨k + 1, by omega, by go_num, by rw [hsu.out]; go_num, by rw [hsu.out]; omega, HB.out.trans (HB1.out.mono HB.out.size)⟩
          case measure => simp [intOf]; omega
        · have fin := Lib.hid (szR_gt (n := lsz DSymbol.sz l) (L := L) (by have h1 := hsu.out; have h2 := hle2.out; omega))
          rw [szR_gt (by omega)] at hZ
          have HZ := Lib.hid hZ
          clear hZ hokk hs1
          go_wp2_with fail
          refine HZ.out.mono ?_
          rintro e w1 ⟨rfl, hb1⟩
          have HB1 := Lib.hid hb1
          clear hb1
          go_wp2
          go_ret
          exact ⟨ret_i fin.out.symm, HB.out.trans (HB1.out.mono HB.out.size)⟩
      · obtain rfl : k = l.length := by omega
        have fin := Lib.hid (szR_le (n := lsz DSymbol.sz l) (L := L) (by unfold lsz; rw [psz_all] at hle; omega))
        have fin2 := Lib.hid (psz_all DSymbol.sz l)
        go_wp2
        go_ret
        exact ⟨ret_i (by rw [fin.out, fin2.out]; unfold lsz; omega), HB.out⟩

set_option maxHeartbeats 1600000 in
set_option maxRecDepth 100000 in
theorem laws_toSymbol {lo hi : Nat} {a1 : Option Addr} {c1 : Nat} (x : DSymbol) (hsz : x.sz ≤ 1048576) (w : World) (hhi : hi ≤ w.heap.size) (hs1 : Sl lo hi w 4 x.fAttributes.length (fun k => DAttribute.ct (x.fAttributes.getD k default)) a1) :
    Calls Tryz.prog 62 #[.agg #[.string x.fName, .slice a1 x.fAttributes.length c1]] w fun e w' => ∃ a1r c1r, e = .returned (.agg #[.string x.fName, .slice a1r x.fAttributes.length c1r]) ∧ OwnR w' (fun y => w.heap.size ≤ y ∧ y < w'.heap.size) 2 x.ct (fun j => [.string x.fName, .slice a1r x.fAttributes.length c1r].getD j .nilFunc) ∧ Below w.heap.size w w' := by
  have HS1 := Lib.hid hs1
  clear hs1
  have HW := Lib.hid hsz
  clear hsz
  have HB0 := Lib.hid (((((Below.refl w.heap.size w).alloc (Nat.le_refl _) (.cells #[.string x.fName, .slice a1 x.fAttributes.length c1] 91)).alloc (by simp <;> omega) (.cells #[.string ⟨#[]⟩, .slice none 0 0] 116))).alloc (by simp <;> omega) (.cells #[.string ⟨#[]⟩, .slice none 0 0] 116))
  have HSZ0 := Lib.hid (show w.heap.size + 2 < (((w.alloc (.cells #[.string x.fName, .slice a1 x.fAttributes.length c1] 91)).alloc (.cells #[.string ⟨#[]⟩, .slice none 0 0] 116)).alloc (.cells #[.string ⟨#[]⟩, .slice none 0 0] 116)).heap.size by simp)
  have ht0 := fun (w' : World) (hhi : hi ≤ w'.heap.size) (hs : Sl lo hi w' 4 x.fAttributes.length (fun k => DAttribute.ct (x.fAttributes.getD k default)) a1) => laws_toAttributeS (cap := c1) x.fAttributes (by have h := HW.out; unfold DSymbol.sz at h; omega) w' hhi hs
  have HT0 := Lib.hid ht0
  clear ht0
  go_enter Tryz.func62, Tryz.ntmps62
  go_wp2_with fail
  refine (HT0.out _ (Nat.le_trans hhi (Below.size ((by repeat (first | (with_reducible exact HB0.out) | (with_reducible exact Below.refl _ _) | (refine Below.setCell ?_ (by simp <;> omega) _) | (refine Below.alloc ?_ (by simp <;> omega) _)) : Below w.heap.size w _)))) (HS1.out.later ((by repeat (first | (with_reducible exact HB0.out) | (with_reducible exact Below.refl _ _) | (refine Below.setCell ?_ (by simp <;> omega) _) | (refine Below.alloc ?_ (by simp <;> omega) _)) : Below w.heap.size w _)) hhi)).mono ?_
  rintro e w1 ⟨a1r, c1r, rfl, ho1, hb1⟩
  have hsz1 : w.heap.size + 2 < w1.heap.size := Nat.lt_of_lt_of_le (by have h := HSZ0.out; first | (with_reducible exact h) | (simp; done) | (simp; omega) | (simp [World.setCell]; omega)) hb1.size
  have hlo1 : w.heap.size + 3 ≤ w1.heap.size := Nat.le_trans (by first | (with_reducible exact Nat.le_refl _) | (simp; done) | (simp; omega) | (simp [World.setCell]; omega)) hb1.size
  have hbw1 : Below w.heap.size w w1 := Below.trans ((by repeat (first | (with_reducible exact HB0.out) | (with_reducible exact Below.refl _ _) | (refine Below.setCell ?_ (by simp <;> omega) _) | (refine Below.alloc ?_ (by simp <;> omega) _)) : Below w.heap.size w _)) (hb1.mono (Below.size ((by repeat (first | (with_reducible exact HB0.out) | (with_reducible exact Below.refl _ _) | (refine Below.setCell ?_ (by simp <;> omega) _) | (refine Below.alloc ?_ (by simp <;> omega) _)) : Below w.heap.size w _))))
  have HO1_1 := Lib.hid (ho1.sub (F' := fun y => w.heap.size + 3 ≤ y ∧ y < w1.heap.size) (fun y hy => ⟨Nat.le_trans (by first | (with_reducible exact Nat.le_refl _) | (simp; done) | (simp; omega) | (simp [World.setCell]; done) | (simp [World.setCell]; omega)) hy.1, hy.2⟩))
  clear ho1
  have x1_1_0 : w1.cell? ⟨w.heap.size + 1, 0, none⟩ = some (.string ⟨#[]⟩) := (hb1.cell (p := ⟨w.heap.size + 1, 0, none⟩) (by first | omega | (simp; done) | (simp; omega) | (simp [World.setCell]; omega))).trans (by go_simp)
  have z1_1_0 : w1.frozen? ⟨w.heap.size + 1, 0, none⟩ = false := (hb1.frozen (p := ⟨w.heap.size + 1, 0, none⟩) (by first | omega | (simp; done) | (simp; omega) | (simp [World.setCell]; omega))).trans (by go_simp)
  have x1_1_1 : w1.cell? ⟨w.heap.size + 1, 1, none⟩ = some (.slice none 0 0) := (hb1.cell (p := ⟨w.heap.size + 1, 1, none⟩) (by first | omega | (simp; done) | (simp; omega) | (simp [World.setCell]; omega))).trans (by go_simp)
  have z1_1_1 : w1.frozen? ⟨w.heap.size + 1, 1, none⟩ = false := (hb1.frozen (p := ⟨w.heap.size + 1, 1, none⟩) (by first | omega | (simp; done) | (simp; omega) | (simp [World.setCell]; omega))).trans (by go_simp)
  have x1_2_0 : w1.cell? ⟨w.heap.size + 2, 0, none⟩ = some (.string x.fName) := (hb1.cell (p := ⟨w.heap.size + 2, 0, none⟩) (by first | omega | (simp; done) | (simp; omega) | (simp [World.setCell]; omega))).trans (by go_simp)
  have z1_2_0 : w1.frozen? ⟨w.heap.size + 2, 0, none⟩ = false := (hb1.frozen (p := ⟨w.heap.size + 2, 0, none⟩) (by first | omega | (simp; done) | (simp; omega) | (simp [World.setCell]; omega))).trans (by go_simp)
  have x1_2_1 : w1.cell? ⟨w.heap.size + 2, 1, none⟩ = some (.slice none 0 0) := (hb1.cell (p := ⟨w.heap.size + 2, 1, none⟩) (by first | omega | (simp; done) | (simp; omega) | (simp [World.setCell]; omega))).trans (by go_simp)
  have z1_2_1 : w1.frozen? ⟨w.heap.size + 2, 1, none⟩ = false := (hb1.frozen (p := ⟨w.heap.size + 2, 1, none⟩) (by first | omega | (simp; done) | (simp; omega) | (simp [World.setCell]; omega))).trans (by go_simp)
  have HG1 := Lib.hid (show w1.heap[w.heap.size + 1]? = some (.cells #[.string ⟨#[]⟩, .slice none 0 0] 116) from (hb1.block _ (by first | omega | (simp; done) | (simp; omega) | (simp [World.setCell]; omega))).trans (by (repeat (refine blk_other (by simp) ?_)); exact blk_alloc (by simp) (blk_new (by simp))))
  have HB1 := Lib.hid hbw1
  have HSZ1 := Lib.hid hsz1
  have HLO1 := Lib.hid hlo1
  clear hb1 hbw1 hsz1 hlo1
  go_wp2
  refine bodyPost_ret (v := .agg #[.string x.fName, .slice a1r x.fAttributes.length c1r]) (results_cell_row Tryz.results62 _ _ (w.heap.size + 1) 116 #[.string x.fName, .slice a1r x.fAttributes.length c1r] (0, 0) _ rfl (by refine Eq.trans (blk_set (cs := #[.string x.fName, .slice none 0 0]) (t := 116) (fr := (0, 0)) ?_) rfl; refine Eq.trans (blk_set (cs := #[.string ⟨#[]⟩, .slice none 0 0]) (t := 116) (fr := (0, 0)) ?_) rfl; repeat (first | (with_reducible exact HG1.out) | (refine blk_other (by simp) ?_))) Tryz.underlying116 rfl rfl) rfl ⟨a1r, c1r, rfl, ?_, (by repeat (first | (with_reducible exact HB1.out) | (with_reducible exact Below.refl _ _) | (refine Below.setCell ?_ (by simp <;> omega) _) | (refine Below.alloc ?_ (by simp <;> omega) _)) : Below w.heap.size w _)⟩
  have ho1 := HO1_1.out
  clear HO1_1
  have q1 := HLO1.out
  skip
  have hkk : ∀ w9 : World, Kept (fun y => w.heap.size + 3 ≤ y) w1 w9 → OwnR w9 (fun y => w.heap.size ≤ y ∧ y < w1.heap.size) 2 x.ct (fun j => [.string x.fName, .slice a1r x.fAttributes.length c1r].getD j .nilFunc) := fun w9 hk => by
    refine OwnR.append (F1 := fun _ => False) (F2 := fun y => w.heap.size + 3 ≤ y ∧ y < w1.heap.size) (m := 1) (n := 1) ?_ ?_ (by intro y h1 h2; first | exact h1.elim | exact h2.elim | (have h3 := h1.2; have h4 := h2.1; omega)) (by intro y h1; first | exact h1.elim | (have h3 := h1.1; have h4 := h1.2; exact ⟨by omega, by omega⟩)) (by intro y h1; first | exact h1.elim | (have h3 := h1.1; have h4 := h1.2; exact ⟨by omega, by omega⟩))
    · skip
      refine OwnR.lits (F := fun _ => False) fun j hj => ?_
      match j, hj with
      | 0, _ => rfl
    · skip
      exact OwnR.one (ho1.kept (hk.sub fun y hy => by have h := hy.1; omega))
  refine (hkk _ (by repeat (first | (with_reducible exact Kept.refl) | (refine Kept.put ?_ (by intro h1; dsimp only at h1; omega))))).sub (fun y hy => ⟨hy.1, Nat.lt_of_lt_of_le hy.2 (by simp)⟩)

theorem info_Symbol : (Tryz.prog.info? 116).map (fun i => (i.zero, i.size, i.bytes)) = some (some (.agg #[.string ⟨#[]⟩, .slice none 0 0]), 2, 40) := by kernel_rfl

set_option maxHeartbeats 1600000 in
set_option maxRecDepth 100000 in
theorem laws_toSymbolS {lo hi : Nat} {a : Option Addr} {cap : Nat} (l : List DSymbol) (hsz : lsz DSymbol.sz l ≤ 1048576) (w : World) (hhi : hi ≤ w.heap.size) (hs : Sl lo hi w 2 l.length (fun k => DSymbol.ct (l.getD k default)) a) :
    Calls Tryz.prog 28 #[.slice a l.length cap] w fun e w' => ∃ a' cap', e = .returned (.slice a' l.length cap') ∧ Own w' (fun x => w.heap.size ≤ x ∧ x < w'.heap.size) (.sl 2 l.length (fun k => DSymbol.ct (l.getD k default))) (.slice a' l.length cap') ∧ Below w.heap.size w w' := by
  have HS := Lib.hid hs
  clear hs
  have HW := Lib.hid hsz
  have hn : l.length ≤ 1048576 := by unfold lsz at hsz; omega
  clear hsz
  obtain ⟨i0, hi', hz0, hz1, hz2⟩ := info_parts info_Symbol
  go_enter Tryz.func28, Tryz.ntmps28
  go_wp2_with (at_make; refine wpList_make_full _ rfl (.tmp 6) (.tmp 6) 37 rfl w.heap.size 116 i0 (.agg #[.string ⟨#[]⟩, .slice none 0 0]) 2 Tryz.underlying37 hi' hz0 hz1 .i64 .i64 (l.length : Int) (l.length : Int) l.length rfl rfl rfl rfl (by rw [hz2]; omega) (by unfold maxLen; omega) (Nat.le_refl _) ?_; intro w1 hown hgrow)
  have hb1 : Below w.heap.size w w1 := (Below.refl _ w).grown hgrow (Nat.le_refl _) (fun k hk => by cases hk)
  clear hgrow
  have hblk := (ownsRow_block hown).1
  go_loopw [4] (fun i wr => ∃ (k : Nat) (xs : List Value), k ≤ l.length ∧ i = .int .i64 (k : Int) ∧ wr.ownsRow w.heap.size 116 2 (.slice (some ⟨w.heap.size, 0, none⟩) l.length l.length) l.length xs ∧ Filled w.heap.size wr 2 k (fun k => DSymbol.ct (l.getD k default)) xs ∧ Below w.heap.size w wr) (fun i _ => l.length - (intOf i).toNat)
  case atStart => exact ⟨0, _, Nat.zero_le _, rfl, hown, Filled.zero hblk, hb1⟩
  case round =>
    clear hown hb1 hblk
    obtain ⟨k, xs, hk, rfl, hown, hfill, hb⟩ := hrel
    have hblk := ownsRow_block hown
    have HO := Lib.hid hown
    have HF := Lib.hid hfill
    have HB := Lib.hid hb
    clear hown hfill
    by_cases hlt : k < l.length
    · have hhr : hi ≤ wr.heap.size := Nat.le_trans hhi hb.size
      obtain ⟨b, off, rfl, hlo, hhi', hc⟩ := (HS.out.later (hb.mono hhi) (Nat.le_refl _)).at k hlt
      obtain ⟨a1, c1, hc0_, hc1_, hs1⟩ := DSymbol.open hc
      have hkn : k * 2 + 2 ≤ l.length * 2 := by omega
      have d0 := hblk.2.2.1 (k * 2) (by omega)
      have z0 := hblk.2.2.2 (k * 2)
      have d1 := hblk.2.2.1 (k * 2 + 1) (by omega)
      have z1 := hblk.2.2.2 (k * 2 + 1)
      have hsz := hblk.1
      clear hblk hb hc
      have hxs := szle_at (f := DSymbol.sz) l k hlt
      generalize hx : l.getD k default = x at *
      have HX := Lib.hid hx
      clear hx
      generalize xs.getD (k * 2) Value.nilFunc = v0 at d0
      generalize xs.getD (k * 2 + 1) Value.nilFunc = v1 at d1
      have HT := Lib.hid (laws_toSymbol (c1 := c1) x (by have h1 := HW.out; omega) wr hhr hs1)
      clear hxs hs1
      go_wp2_with fail
      refine HT.out.mono ?_
      rintro e w1 ⟨a1r, c1r, rfl, ho1, hb1⟩
      have HOR := Lib.hid ho1
      clear ho1
      have e0 := (hb1.cell (p := ⟨w.heap.size, k * 2, none⟩) hsz).trans d0
      have y0 := (hb1.frozen (p := ⟨w.heap.size, k * 2, none⟩) hsz).trans z0
      have e1 := (hb1.cell (p := ⟨w.heap.size, k * 2 + 1, none⟩) hsz).trans d1
      have y1 := (hb1.frozen (p := ⟨w.heap.size, k * 2 + 1, none⟩) hsz).trans z1
      have HB1 := Lib.hid hb1
      clear hb1 d0 z0 d1 z1
      go_wp2
      go_roundw
      case rel =>
        have hst := HF.out.stored HB1.out hsz (ownsRow_below HO.out HB1.out) hlt [.string x.fName, .slice a1r x.fAttributes.length c1r] rfl ((by rw [HX.out]; exact HOR.out))
        exact ⟨k + 1, _, by omega, by go_num, hst.1, hst.2, setCells_below (Nat.le_refl _) [_, _] _ (HB.out.trans (HB1.out.mono HB.out.size))⟩
      case measure => simp [intOf]; omega
    · obtain rfl : k = l.length := by omega
      go_wp2
      go_ret
      exact ⟨_, _, rfl, HF.out.own hblk.1 hblk.2.2.1 hblk.2.2.2, hb⟩

set_option maxHeartbeats 1600000 in
set_option maxRecDepth 100000 in
theorem laws_eqSymbol {lo hi lo2 hi2 : Nat} {a1 : Option Addr} {c1 : Nat} {a1q : Option Addr} {c1q : Nat} (x : DSymbol) (hsz : x.sz ≤ 1048576) (w : World) (hhi : hi ≤ w.heap.size) (hhi2 : hi2 ≤ w.heap.size) (hs1 : Sl lo hi w 4 x.fAttributes.length (fun k => DAttribute.ct (x.fAttributes.getD k default)) a1) (hs1q : Sl lo2 hi2 w 4 x.fAttributes.length (fun k => DAttribute.ct (x.fAttributes.getD k default)) a1q) :
    Calls Tryz.prog 77 #[.agg #[.string x.fName, .slice a1 x.fAttributes.length c1], .agg #[.string x.fName, .slice a1q x.fAttributes.length c1q]] w fun e w' => e = .returned (.bool true) ∧ Below w.heap.size w w' := by
  have HS1 := Lib.hid hs1
  have HS1q := Lib.hid hs1q
  clear hs1 hs1q
  have HW := Lib.hid hsz
  clear hsz
  have HB0 := Lib.hid (((Below.refl w.heap.size w).alloc (Nat.le_refl _) (.cells #[.string x.fName, .slice a1 x.fAttributes.length c1] 116)).alloc (by simp <;> omega) (.cells #[.string x.fName, .slice a1q x.fAttributes.length c1q] 116))
  have ht0 := fun (w' : World) (hhi : hi ≤ w'.heap.size) (hhi2 : hi2 ≤ w'.heap.size) (hs : Sl lo hi w' 4 x.fAttributes.length (fun k => DAttribute.ct (x.fAttributes.getD k default)) a1) (hs2 : Sl lo2 hi2 w' 4 x.fAttributes.length (fun k => DAttribute.ct (x.fAttributes.getD k default)) a1q) => laws_eqAttributeS (cap := c1) (cap2 := c1q) x.fAttributes (by have h := HW.out; unfold DSymbol.sz at h; omega) w' hhi hhi2 hs hs2
  have HT0 := Lib.hid ht0
  clear ht0
  go_enter Tryz.func77, Tryz.ntmps77
  go_wp2_with fail
  refine (HT0.out _ (Nat.le_trans hhi (HB0.out.size)) (Nat.le_trans hhi2 (HB0.out.size)) (HS1.out.later HB0.out hhi) (HS1q.out.later HB0.out hhi2)).mono ?_
  rintro e w1 ⟨rfl, hb1⟩
  have HB1 := Lib.hid (HB0.out.trans (hb1.mono HB0.out.size))
  clear hb1
  go_wp2
  go_ret
  exact ⟨rfl, HB1.out⟩

set_option maxHeartbeats 1600000 in
set_option maxRecDepth 100000 in
theorem laws_eqSymbolS {lo hi lo2 hi2 : Nat} {a a2 : Option Addr} {cap cap2 : Nat} (l : List DSymbol) (hsz : lsz DSymbol.sz l ≤ 1048576) (w : World) (hhi : hi ≤ w.heap.size) (hhi2 : hi2 ≤ w.heap.size) (hs : Sl lo hi w 2 l.length (fun k => DSymbol.ct (l.getD k default)) a) (hs2 : Sl lo2 hi2 w 2 l.length (fun k => DSymbol.ct (l.getD k default)) a2) :
    Calls Tryz.prog 40 #[.slice a l.length cap, .slice a2 l.length cap2] w fun e w' => e = .returned (.bool true) ∧ Below w.heap.size w w' := by
  have HS := Lib.hid hs
  have HS2 := Lib.hid hs2
  have HW := Lib.hid hsz
  have hn : l.length ≤ 1048576 := by unfold lsz at hsz; omega
  clear hs hs2 hsz
  go_enter Tryz.func40, Tryz.ntmps40
  go_wp2
  go_loopw [5] (fun i wr => ∃ k : Nat, k ≤ l.length ∧ i = .int .i64 (k : Int) ∧ Below w.heap.size w wr) (fun i _ => l.length - (intOf i).toNat)
  case atStart => exact ⟨0, Nat.zero_le _, rfl, Below.refl _ _⟩
  case round =>
    obtain ⟨k, hk, rfl, hb⟩ := hrel
    have HB := Lib.hid hb
    by_cases hlt : k < l.length
    · have hhr : hi ≤ wr.heap.size := Nat.le_trans hhi hb.size
      have hhr2 : hi2 ≤ wr.heap.size := Nat.le_trans hhi2 hb.size
      obtain ⟨b, off, rfl, _, hhi', hc⟩ := (HS.out.later (hb.mono hhi) (Nat.le_refl _)).at k hlt
      obtain ⟨b2, off2, rfl, _, hhi2', hc2⟩ := (HS2.out.later (hb.mono hhi2) (Nat.le_refl _)).at k hlt
      obtain ⟨a1, c1, hc0_, hc1_, hs1⟩ := DSymbol.open hc
      obtain ⟨a1q, c1q, hc0q_, hc1q_, hs1q⟩ := DSymbol.open hc2
      have hxs := szle_at (f := DSymbol.sz) l k hlt
      clear hb hc hc2
      generalize l.getD k default = x at *
      have HT := Lib.hid (fun (w' : World) (hw : Below wr.heap.size wr w') => laws_eqSymbol (c1 := c1) (c1q := c1q) x (by have h1 := HW.out; omega) w' (Nat.le_trans hhr hw.size) (Nat.le_trans hhr2 hw.size) (hs1.later hw hhr) (hs1q.later hw hhr2))
      clear hxs hs1 hs1q
      go_wp2_with fail
      go_region_with ((go_at_call 77; refine (HT.out _ (by first | exact Below.refl _ _ | exact (Below.refl _ _).drew | exact below_drewN (Below.refl _ _) _)).mono ?_; rintro e w1 ⟨rfl, hb1⟩))
      all_goals
        go_wp2
        go_roundw
        case rel =>
          refine ⟨k + 1, by omega, by go_num, ?_⟩
          have hb2 : Below wr.heap.size wr w1 := ⟨hb1.os, hb1.tape, hb1.output, hb1.size, hb1.block⟩
          repeat (first | exact HB.out.trans (hb2.mono HB.out.size) | apply Below.drew | refine below_drewN ?_ _)
        case measure => simp [intOf]; omega
    · go_wp2
      go_ret
      exact ⟨rfl, HB.out⟩
end Go.Proofs.YtnmepemmpeboeaaGreat
namespace Go.Proofs.YtnmepemmpeboeaaGreat
open Go.ChangeShapes Go.WideShapes Go.ChangeAt Go.RowKit Go.Deep

structure DGrammar where
  fSymbols : List (DSymbol)
  fRules : List (DRule)
  deriving Inhabited

def DGrammar.ct (x : DGrammar) : Nat → Ct
  | 0 => .sl 2 x.fSymbols.length (fun k => DSymbol.ct (x.fSymbols.getD k default))
  | 1 => .sl 6 x.fRules.length (fun k => DRule.ct (x.fRules.getD k default))
  | _ => .lit .nilFunc

def DGrammar.ok (x : DGrammar) : Prop := (okL DSymbol.ok) x.fSymbols ∧ (okL DRule.ok) x.fRules

def DGrammar.sz (x : DGrammar) : Nat := (lsz DSymbol.sz) x.fSymbols + (lsz DRule.sz) x.fRules

theorem opens_grammar {H : Type} {enc : TypeId × Value → H} {w : World} (fuel : Nat) : Opens enc Tryz.prog w 25 2 DGrammar.ct DGrammar.ok fuel := by
  intro cs x h
  have hl := opens_len Tryz.underlying25 h
  obtain ⟨y0, k0, q0⟩ := opens_field Tryz.underlying25 h 0 _ rfl (ft := 22) (o := 0) (n := 1) rfl rfl (fun m _ => (fun fuel => opens_slice Tryz.underlying22 (e := 91) (n := 2) (by kernel_rfl) (by decide) fuel (fun m _ => opens_symbol m)) m) (by kernel_rfl)
  obtain ⟨y1, k1, q1⟩ := opens_field Tryz.underlying25 h 1 _ rfl (ft := 23) (o := 1) (n := 1) rfl rfl (fun m _ => (fun fuel => opens_slice Tryz.underlying23 (e := 30) (n := 6) (by kernel_rfl) (by decide) fuel (fun m _ => opens_rule m)) m) (by kernel_rfl)
  refine ⟨⟨y0, y1⟩, ⟨k0, k1⟩, hl.trans (by kernel_rfl), fun j hj => ?_⟩
  match j, hj with
  | 0, _ => exact q0 0 (by decide)
  | 1, _ => exact q1 0 (by decide)

open Go.WideElems Go.WideMaps in
set_option maxRecDepth 100000 in
theorem arg_grammar {H : Type} {enc : TypeId × Value → H} {W : World} {base : Nat} {v : Value} {d : DataW H} {p : List MemPlace} (hv : Value.okWide Tryz.prog W .any base 25 v) (h : DataW.Trod enc Tryz.prog W 0 (fun _ => true) true 25 v d p) :
    ∃ (x : DGrammar) (a0 : Option Addr) (c0 : Nat) (a1 : Option Addr) (c1 : Nat), v = .agg #[.slice a0 x.fSymbols.length c0, .slice a1 x.fRules.length c1] ∧ x.ok ∧ Sl 0 W.heap.size W 2 x.fSymbols.length (fun k => DSymbol.ct (x.fSymbols.getD k default)) a0 ∧ Sl 0 W.heap.size W 6 x.fRules.length (fun k => DRule.ct (x.fRules.getD k default)) a1 := by
  obtain ⟨cs, rfl, hsz⟩ := okWide_struct Tryz.underlying25 hv
  obtain ⟨fuel, hf⟩ := h
  obtain ⟨x, hx, hl, hj⟩ := opens_grammar fuel _ _ hf
  obtain ⟨l⟩ := cs
  match l, hl, hj with
  | [e0, e1], _, hj =>
    obtain ⟨u0, hu0, hl0⟩ := hj 0 (by decide)
    obtain ⟨a0, c0, rfl, hs0⟩ := lies_sl hl0
    obtain rfl : e0 = _ := Option.some.inj hu0
    obtain ⟨u1, hu1, hl1⟩ := hj 1 (by decide)
    obtain ⟨a1, c1, rfl, hs1⟩ := lies_sl hl1
    obtain rfl : e1 = _ := Option.some.inj hu1
    exact ⟨x, a0, c0, a1, c1, rfl, hx, hs0, hs1⟩

set_option maxHeartbeats 1600000 in
set_option maxRecDepth 100000 in
theorem laws_szGrammar {lo hi : Nat} {a0 : Option Addr} {c0 : Nat} {a1 : Option Addr} {c1 : Nat} (x : DGrammar) (L : Int) (hL0 : 0 ≤ L) (hL1 : L ≤ 1048576) (hx : x.ok) (w : World) (hhi : hi ≤ w.heap.size) (hs0 : Sl lo hi w 2 x.fSymbols.length (fun k => DSymbol.ct (x.fSymbols.getD k default)) a0) (hs1 : Sl lo hi w 6 x.fRules.length (fun k => DRule.ct (x.fRules.getD k default)) a1) :
    Calls Tryz.prog 4 #[.agg #[.slice a0 x.fSymbols.length c0, .slice a1 x.fRules.length c1], .int .i64 L] w fun e w' => e = .returned (.int .i64 (szR L x.sz)) ∧ Below w.heap.size w w' := by
  have HS0 := Lib.hid hs0
  have HS1 := Lib.hid hs1
  clear hs0 hs1
  have HX := Lib.hid hx
  clear hx
  have HB0 := Lib.hid ((Below.refl w.heap.size w).alloc (Nat.le_refl _) (.cells #[.slice a0 x.fSymbols.length c0, .slice a1 x.fRules.length c1] 25))
  by_cases h0 : L < (((lsz DSymbol.sz) x.fSymbols : Nat) : Int)
  · skip
    have hz0 := fun (w' : World) (hhi : hi ≤ w'.heap.size) (hs0 : Sl lo hi w' 2 x.fSymbols.length (fun k => DSymbol.ct (x.fSymbols.getD k default)) a0) => laws_szSymbolS (cap := c0) x.fSymbols L (by omega) (by omega) HX.out.1 w' hhi hs0
    rw [szR_gt (by omega)] at hz0
    have HZ0 := Lib.hid hz0
    clear hz0
    have fin := Lib.hid (szR_gt (n := x.sz) (L := L) (by unfold DGrammar.sz; omega))
    go_enter Tryz.func4, Tryz.ntmps4
    go_wp2_with fail
    refine (HZ0.out _ (Nat.le_trans hhi HB0.out.size) (HS0.out.later HB0.out hhi)).mono ?_
    rintro e w1 ⟨rfl, hb1⟩
    have hsz1 : w.heap.size < w1.heap.size := Nat.lt_of_lt_of_le (by first | omega | (simp; done) | (simp; omega)) hb1.size
    have HB1 := Lib.hid (HB0.out.trans (hb1.mono HB0.out.size))
    clear hb1
    go_wp2
    go_ret
    exact ⟨ret_i (by rw [fin.out]), HB1.out⟩
  · skip
    by_cases h1 : (L - ((lsz DSymbol.sz) x.fSymbols : Nat)) < (((lsz DRule.sz) x.fRules : Nat) : Int)
    · skip
      have hz0 := fun (w' : World) (hhi : hi ≤ w'.heap.size) (hs0 : Sl lo hi w' 2 x.fSymbols.length (fun k => DSymbol.ct (x.fSymbols.getD k default)) a0) => laws_szSymbolS (cap := c0) x.fSymbols L (by omega) (by omega) HX.out.1 w' hhi hs0
      rw [szR_le (by omega)] at hz0
      have HZ0 := Lib.hid hz0
      clear hz0
      have hz1 := fun (w' : World) (hhi : hi ≤ w'.heap.size) (hs1 : Sl lo hi w' 6 x.fRules.length (fun k => DRule.ct (x.fRules.getD k default)) a1) => laws_szRuleS (cap := c1) x.fRules (L - ((lsz DSymbol.sz) x.fSymbols : Nat)) (by omega) (by omega) HX.out.2 w' hhi hs1
      rw [szR_gt (by omega)] at hz1
      have HZ1 := Lib.hid hz1
      clear hz1
      have fin := Lib.hid (szR_gt (n := x.sz) (L := L) (by unfold DGrammar.sz; omega))
      go_enter Tryz.func4, Tryz.ntmps4
      go_wp2_with fail
      refine (HZ0.out _ (Nat.le_trans hhi HB0.out.size) (HS0.out.later HB0.out hhi)).mono ?_
      rintro e w1 ⟨rfl, hb1⟩
      have hsz1 : w.heap.size < w1.heap.size := Nat.lt_of_lt_of_le (by first | omega | (simp; done) | (simp; omega)) hb1.size
      have x1_0_1 : w1.cell? ⟨w.heap.size, 1, none⟩ = some (.slice a1 x.fRules.length c1) := (hb1.cell (p := ⟨w.heap.size, 1, none⟩) (by first | omega | (simp; done) | (simp; omega) | (simp [World.setCell]; omega))).trans (by go_simp)
      have HB1 := Lib.hid (HB0.out.trans (hb1.mono HB0.out.size))
      clear hb1
      go_wp2_with fail
      refine (HZ1.out _ (Nat.le_trans hhi HB1.out.size) (HS1.out.later HB1.out hhi)).mono ?_
      rintro e w2 ⟨rfl, hb2⟩
      have hsz2 : w.heap.size < w2.heap.size := Nat.lt_of_lt_of_le (by first | omega | (simp; done) | (simp; omega)) hb2.size
      have HB2 := Lib.hid (HB1.out.trans (hb2.mono HB1.out.size))
      clear hb2
      go_wp2
      go_ret
      exact ⟨ret_i (by rw [fin.out]), HB2.out⟩
    · skip
      have hz0 := fun (w' : World) (hhi : hi ≤ w'.heap.size) (hs0 : Sl lo hi w' 2 x.fSymbols.length (fun k => DSymbol.ct (x.fSymbols.getD k default)) a0) => laws_szSymbolS (cap := c0) x.fSymbols L (by omega) (by omega) HX.out.1 w' hhi hs0
      rw [szR_le (by omega)] at hz0
      have HZ0 := Lib.hid hz0
      clear hz0
      have hz1 := fun (w' : World) (hhi : hi ≤ w'.heap.size) (hs1 : Sl lo hi w' 6 x.fRules.length (fun k => DRule.ct (x.fRules.getD k default)) a1) => laws_szRuleS (cap := c1) x.fRules (L - ((lsz DSymbol.sz) x.fSymbols : Nat)) (by omega) (by omega) HX.out.2 w' hhi hs1
      rw [szR_le (by omega)] at hz1
      have HZ1 := Lib.hid hz1
      clear hz1
      have fin := Lib.hid (szR_le (n := x.sz) (L := L) (by unfold DGrammar.sz; omega))
      go_enter Tryz.func4, Tryz.ntmps4
      go_wp2_with fail
      refine (HZ0.out _ (Nat.le_trans hhi HB0.out.size) (HS0.out.later HB0.out hhi)).mono ?_
      rintro e w1 ⟨rfl, hb1⟩
      have hsz1 : w.heap.size < w1.heap.size := Nat.lt_of_lt_of_le (by first | omega | (simp; done) | (simp; omega)) hb1.size
      have x1_0_1 : w1.cell? ⟨w.heap.size, 1, none⟩ = some (.slice a1 x.fRules.length c1) := (hb1.cell (p := ⟨w.heap.size, 1, none⟩) (by first | omega | (simp; done) | (simp; omega) | (simp [World.setCell]; omega))).trans (by go_simp)
      have HB1 := Lib.hid (HB0.out.trans (hb1.mono HB0.out.size))
      clear hb1
      go_wp2_with fail
      refine (HZ1.out _ (Nat.le_trans hhi HB1.out.size) (HS1.out.later HB1.out hhi)).mono ?_
      rintro e w2 ⟨rfl, hb2⟩
      have hsz2 : w.heap.size < w2.heap.size := Nat.lt_of_lt_of_le (by first | omega | (simp; done) | (simp; omega)) hb2.size
      have HB2 := Lib.hid (HB1.out.trans (hb2.mono HB1.out.size))
      clear hb2
      go_wp2
      go_ret
      exact ⟨ret_i (by rw [fin.out]; unfold DGrammar.sz; omega), HB2.out⟩

set_option maxHeartbeats 1600000 in
set_option maxRecDepth 100000 in
theorem laws_toGrammar {lo hi : Nat} {a0 : Option Addr} {c0 : Nat} {a1 : Option Addr} {c1 : Nat} (x : DGrammar) (hsz : x.sz ≤ 1048576) (w : World) (hhi : hi ≤ w.heap.size) (hs0 : Sl lo hi w 2 x.fSymbols.length (fun k => DSymbol.ct (x.fSymbols.getD k default)) a0) (hs1 : Sl lo hi w 6 x.fRules.length (fun k => DRule.ct (x.fRules.getD k default)) a1) :
    Calls Tryz.prog 7 #[.agg #[.slice a0 x.fSymbols.length c0, .slice a1 x.fRules.length c1]] w fun e w' => ∃ a0r c0r a1r c1r, e = .returned (.agg #[.slice a0r x.fSymbols.length c0r, .slice a1r x.fRules.length c1r]) ∧ OwnR w' (fun y => w.heap.size ≤ y ∧ y < w'.heap.size) 2 x.ct (fun j => [.slice a0r x.fSymbols.length c0r, .slice a1r x.fRules.length c1r].getD j .nilFunc) ∧ Below w.heap.size w w' := by
  have HS0 := Lib.hid hs0
  have HS1 := Lib.hid hs1
  clear hs0 hs1
  have HW := Lib.hid hsz
  clear hsz
  have HB0 := Lib.hid (((((Below.refl w.heap.size w).alloc (Nat.le_refl _) (.cells #[.slice a0 x.fSymbols.length c0, .slice a1 x.fRules.length c1] 25)).alloc (by simp <;> omega) (.cells #[.slice none 0 0, .slice none 0 0] 40))).alloc (by simp <;> omega) (.cells #[.slice none 0 0, .slice none 0 0] 40))
  have HSZ0 := Lib.hid (show w.heap.size + 2 < (((w.alloc (.cells #[.slice a0 x.fSymbols.length c0, .slice a1 x.fRules.length c1] 25)).alloc (.cells #[.slice none 0 0, .slice none 0 0] 40)).alloc (.cells #[.slice none 0 0, .slice none 0 0] 40)).heap.size by simp)
  have ht0 := fun (w' : World) (hhi : hi ≤ w'.heap.size) (hs : Sl lo hi w' 2 x.fSymbols.length (fun k => DSymbol.ct (x.fSymbols.getD k default)) a0) => laws_toSymbolS (cap := c0) x.fSymbols (by have h := HW.out; unfold DGrammar.sz at h; omega) w' hhi hs
  have HT0 := Lib.hid ht0
  clear ht0
  have ht1 := fun (w' : World) (hhi : hi ≤ w'.heap.size) (hs : Sl lo hi w' 6 x.fRules.length (fun k => DRule.ct (x.fRules.getD k default)) a1) => laws_toRuleS (cap := c1) x.fRules (by have h := HW.out; unfold DGrammar.sz at h; omega) w' hhi hs
  have HT1 := Lib.hid ht1
  clear ht1
  go_enter Tryz.func7, Tryz.ntmps7
  go_wp2_with fail
  refine (HT0.out _ (Nat.le_trans hhi (Below.size ((by repeat (first | (with_reducible exact HB0.out) | (with_reducible exact Below.refl _ _) | (refine Below.setCell ?_ (by simp <;> omega) _) | (refine Below.alloc ?_ (by simp <;> omega) _)) : Below w.heap.size w _)))) (HS0.out.later ((by repeat (first | (with_reducible exact HB0.out) | (with_reducible exact Below.refl _ _) | (refine Below.setCell ?_ (by simp <;> omega) _) | (refine Below.alloc ?_ (by simp <;> omega) _)) : Below w.heap.size w _)) hhi)).mono ?_
  rintro e w1 ⟨a0r, c0r, rfl, ho1, hb1⟩
  have hsz1 : w.heap.size + 2 < w1.heap.size := Nat.lt_of_lt_of_le (by have h := HSZ0.out; first | (with_reducible exact h) | (simp; done) | (simp; omega) | (simp [World.setCell]; omega)) hb1.size
  have hlo1 : w.heap.size + 3 ≤ w1.heap.size := Nat.le_trans (by first | (with_reducible exact Nat.le_refl _) | (simp; done) | (simp; omega) | (simp [World.setCell]; omega)) hb1.size
  have hbw1 : Below w.heap.size w w1 := Below.trans ((by repeat (first | (with_reducible exact HB0.out) | (with_reducible exact Below.refl _ _) | (refine Below.setCell ?_ (by simp <;> omega) _) | (refine Below.alloc ?_ (by simp <;> omega) _)) : Below w.heap.size w _)) (hb1.mono (Below.size ((by repeat (first | (with_reducible exact HB0.out) | (with_reducible exact Below.refl _ _) | (refine Below.setCell ?_ (by simp <;> omega) _) | (refine Below.alloc ?_ (by simp <;> omega) _)) : Below w.heap.size w _))))
  have HO1_1 := Lib.hid (ho1.sub (F' := fun y => w.heap.size + 3 ≤ y ∧ y < w1.heap.size) (fun y hy => ⟨Nat.le_trans (by first | (with_reducible exact Nat.le_refl _) | (simp; done) | (simp; omega) | (simp [World.setCell]; done) | (simp [World.setCell]; omega)) hy.1, hy.2⟩))
  clear ho1
  have x1_0_1 : w1.cell? ⟨w.heap.size, 1, none⟩ = some (.slice a1 x.fRules.length c1) := (hb1.cell (p := ⟨w.heap.size, 1, none⟩) (by first | omega | (simp; done) | (simp; omega) | (simp [World.setCell]; omega))).trans (by go_simp)
  have x1_1_0 : w1.cell? ⟨w.heap.size + 1, 0, none⟩ = some (.slice none 0 0) := (hb1.cell (p := ⟨w.heap.size + 1, 0, none⟩) (by first | omega | (simp; done) | (simp; omega) | (simp [World.setCell]; omega))).trans (by go_simp)
  have z1_1_0 : w1.frozen? ⟨w.heap.size + 1, 0, none⟩ = false := (hb1.frozen (p := ⟨w.heap.size + 1, 0, none⟩) (by first | omega | (simp; done) | (simp; omega) | (simp [World.setCell]; omega))).trans (by go_simp)
  have x1_1_1 : w1.cell? ⟨w.heap.size + 1, 1, none⟩ = some (.slice none 0 0) := (hb1.cell (p := ⟨w.heap.size + 1, 1, none⟩) (by first | omega | (simp; done) | (simp; omega) | (simp [World.setCell]; omega))).trans (by go_simp)
  have z1_1_1 : w1.frozen? ⟨w.heap.size + 1, 1, none⟩ = false := (hb1.frozen (p := ⟨w.heap.size + 1, 1, none⟩) (by first | omega | (simp; done) | (simp; omega) | (simp [World.setCell]; omega))).trans (by go_simp)
  have x1_2_0 : w1.cell? ⟨w.heap.size + 2, 0, none⟩ = some (.slice none 0 0) := (hb1.cell (p := ⟨w.heap.size + 2, 0, none⟩) (by first | omega | (simp; done) | (simp; omega) | (simp [World.setCell]; omega))).trans (by go_simp)
  have z1_2_0 : w1.frozen? ⟨w.heap.size + 2, 0, none⟩ = false := (hb1.frozen (p := ⟨w.heap.size + 2, 0, none⟩) (by first | omega | (simp; done) | (simp; omega) | (simp [World.setCell]; omega))).trans (by go_simp)
  have x1_2_1 : w1.cell? ⟨w.heap.size + 2, 1, none⟩ = some (.slice none 0 0) := (hb1.cell (p := ⟨w.heap.size + 2, 1, none⟩) (by first | omega | (simp; done) | (simp; omega) | (simp [World.setCell]; omega))).trans (by go_simp)
  have z1_2_1 : w1.frozen? ⟨w.heap.size + 2, 1, none⟩ = false := (hb1.frozen (p := ⟨w.heap.size + 2, 1, none⟩) (by first | omega | (simp; done) | (simp; omega) | (simp [World.setCell]; omega))).trans (by go_simp)
  have HG1 := Lib.hid (show w1.heap[w.heap.size + 1]? = some (.cells #[.slice none 0 0, .slice none 0 0] 40) from (hb1.block _ (by first | omega | (simp; done) | (simp; omega) | (simp [World.setCell]; omega))).trans (by (repeat (refine blk_other (by simp) ?_)); exact blk_alloc (by simp) (blk_new (by simp))))
  have HB1 := Lib.hid hbw1
  have HSZ1 := Lib.hid hsz1
  have HLO1 := Lib.hid hlo1
  clear hb1 hbw1 hsz1 hlo1
  go_wp2_with fail
  refine (HT1.out _ (Nat.le_trans hhi (Below.size ((by repeat (first | (with_reducible exact HB1.out) | (with_reducible exact Below.refl _ _) | (refine Below.setCell ?_ (by simp <;> omega) _) | (refine Below.alloc ?_ (by simp <;> omega) _)) : Below w.heap.size w _)))) (HS1.out.later ((by repeat (first | (with_reducible exact HB1.out) | (with_reducible exact Below.refl _ _) | (refine Below.setCell ?_ (by simp <;> omega) _) | (refine Below.alloc ?_ (by simp <;> omega) _)) : Below w.heap.size w _)) hhi)).mono ?_
  rintro e w2 ⟨a1r, c1r, rfl, ho2, hb2⟩
  have hsz2 : w.heap.size + 2 < w2.heap.size := Nat.lt_of_lt_of_le (by have h := HSZ1.out; first | (with_reducible exact h) | (simp; done) | (simp; omega) | (simp [World.setCell]; omega)) hb2.size
  have hlo2 : w1.heap.size ≤ w2.heap.size := Nat.le_trans (by first | (with_reducible exact Nat.le_refl _) | (simp; done) | (simp; omega) | (simp [World.setCell]; omega)) hb2.size
  have hbw2 : Below w.heap.size w w2 := Below.trans ((by repeat (first | (with_reducible exact HB1.out) | (with_reducible exact Below.refl _ _) | (refine Below.setCell ?_ (by simp <;> omega) _) | (refine Below.alloc ?_ (by simp <;> omega) _)) : Below w.heap.size w _)) (hb2.mono (Below.size ((by repeat (first | (with_reducible exact HB1.out) | (with_reducible exact Below.refl _ _) | (refine Below.setCell ?_ (by simp <;> omega) _) | (refine Below.alloc ?_ (by simp <;> omega) _)) : Below w.heap.size w _))))
  have HO1_2 := Lib.hid (HO1_1.out.kept (Kept.trans (by repeat (first | (with_reducible exact Kept.refl) | (refine Kept.put ?_ (by rintro ⟨h1, h2⟩; dsimp only at h1; have h3 := HSZ0.out; omega)))) (Kept.of_below_all hb2)))
  clear HO1_1
  have HO2_2 := Lib.hid (ho2.sub (F' := fun y => w1.heap.size ≤ y ∧ y < w2.heap.size) (fun y hy => ⟨Nat.le_trans (by first | (with_reducible exact Nat.le_refl _) | (simp; done) | (simp; omega) | (simp [World.setCell]; done) | (simp [World.setCell]; omega)) hy.1, hy.2⟩))
  clear ho2
  have hsp := HSZ1.out
  have x2_1_0 : w2.cell? ⟨w.heap.size + 1, 0, none⟩ = some (.slice none 0 0) := (hb2.cell (p := ⟨w.heap.size + 1, 0, none⟩) (by first | omega | (simp; done) | (simp; omega) | (simp [World.setCell]; omega))).trans (by go_simp)
  have z2_1_0 : w2.frozen? ⟨w.heap.size + 1, 0, none⟩ = false := (hb2.frozen (p := ⟨w.heap.size + 1, 0, none⟩) (by first | omega | (simp; done) | (simp; omega) | (simp [World.setCell]; omega))).trans (by go_simp)
  have x2_1_1 : w2.cell? ⟨w.heap.size + 1, 1, none⟩ = some (.slice none 0 0) := (hb2.cell (p := ⟨w.heap.size + 1, 1, none⟩) (by first | omega | (simp; done) | (simp; omega) | (simp [World.setCell]; omega))).trans (by go_simp)
  have z2_1_1 : w2.frozen? ⟨w.heap.size + 1, 1, none⟩ = false := (hb2.frozen (p := ⟨w.heap.size + 1, 1, none⟩) (by first | omega | (simp; done) | (simp; omega) | (simp [World.setCell]; omega))).trans (by go_simp)
  have x2_2_0 : w2.cell? ⟨w.heap.size + 2, 0, none⟩ = some (.slice a0r x.fSymbols.length c0r) := (hb2.cell (p := ⟨w.heap.size + 2, 0, none⟩) (by first | omega | (simp; done) | (simp; omega) | (simp [World.setCell]; omega))).trans (by go_simp)
  have z2_2_0 : w2.frozen? ⟨w.heap.size + 2, 0, none⟩ = false := (hb2.frozen (p := ⟨w.heap.size + 2, 0, none⟩) (by first | omega | (simp; done) | (simp; omega) | (simp [World.setCell]; omega))).trans (by go_simp)
  have x2_2_1 : w2.cell? ⟨w.heap.size + 2, 1, none⟩ = some (.slice none 0 0) := (hb2.cell (p := ⟨w.heap.size + 2, 1, none⟩) (by first | omega | (simp; done) | (simp; omega) | (simp [World.setCell]; omega))).trans (by go_simp)
  have z2_2_1 : w2.frozen? ⟨w.heap.size + 2, 1, none⟩ = false := (hb2.frozen (p := ⟨w.heap.size + 2, 1, none⟩) (by first | omega | (simp; done) | (simp; omega) | (simp [World.setCell]; omega))).trans (by go_simp)
  have HG2 := Lib.hid (show w2.heap[w.heap.size + 1]? = some (.cells #[.slice none 0 0, .slice none 0 0] 40) from (hb2.block _ (by first | omega | (simp; done) | (simp; omega) | (simp [World.setCell]; omega))).trans (by repeat (first | (with_reducible exact HG1.out) | (refine blk_other (by simp) ?_))))
  have HB2 := Lib.hid hbw2
  have HSZ2 := Lib.hid hsz2
  have HLO2 := Lib.hid hlo2
  clear hb2 hbw2 hsz2 hlo2 hsp
  clear x1_0_1 x1_1_0 x1_1_1 x1_2_0 x1_2_1 z1_1_0 z1_1_1 z1_2_0 z1_2_1
  go_wp2
  refine bodyPost_ret (v := .agg #[.slice a0r x.fSymbols.length c0r, .slice a1r x.fRules.length c1r]) (results_cell_row Tryz.results7 _ _ (w.heap.size + 1) 40 #[.slice a0r x.fSymbols.length c0r, .slice a1r x.fRules.length c1r] (0, 0) _ rfl (by refine Eq.trans (blk_set (cs := #[.slice a0r x.fSymbols.length c0r, .slice none 0 0]) (t := 40) (fr := (0, 0)) ?_) rfl; refine Eq.trans (blk_set (cs := #[.slice none 0 0, .slice none 0 0]) (t := 40) (fr := (0, 0)) ?_) rfl; repeat (first | (with_reducible exact HG2.out) | (refine blk_other (by simp) ?_))) Tryz.underlying40 rfl rfl) rfl ⟨a0r, c0r, a1r, c1r, rfl, ?_, (by repeat (first | (with_reducible exact HB2.out) | (with_reducible exact Below.refl _ _) | (refine Below.setCell ?_ (by simp <;> omega) _) | (refine Below.alloc ?_ (by simp <;> omega) _)) : Below w.heap.size w _)⟩
  have ho1 := HO1_2.out
  clear HO1_2
  have ho2 := HO2_2.out
  clear HO2_2
  have q1 := HLO1.out
  have q2 := HLO2.out
  skip
  skip
  have hkk : ∀ w9 : World, Kept (fun y => w.heap.size + 3 ≤ y) w2 w9 → OwnR w9 (fun y => w.heap.size ≤ y ∧ y < w2.heap.size) 2 x.ct (fun j => [.slice a0r x.fSymbols.length c0r, .slice a1r x.fRules.length c1r].getD j .nilFunc) := fun w9 hk => by
    refine OwnR.append (F1 := fun y => w.heap.size + 3 ≤ y ∧ y < w1.heap.size) (F2 := fun y => w1.heap.size ≤ y ∧ y < w2.heap.size) (m := 1) (n := 1) ?_ ?_ (by intro y h1 h2; first | exact h1.elim | exact h2.elim | (have h3 := h1.2; have h4 := h2.1; omega)) (by intro y h1; first | exact h1.elim | (have h3 := h1.1; have h4 := h1.2; exact ⟨by omega, by omega⟩)) (by intro y h1; first | exact h1.elim | (have h3 := h1.1; have h4 := h1.2; exact ⟨by omega, by omega⟩))
    · skip
      exact OwnR.one (ho1.kept (hk.sub fun y hy => by have h := hy.1; omega))
    · skip
      exact OwnR.one (ho2.kept (hk.sub fun y hy => by have h := hy.1; omega))
  refine (hkk _ (by repeat (first | (with_reducible exact Kept.refl) | (refine Kept.put ?_ (by intro h1; dsimp only at h1; omega))))).sub (fun y hy => ⟨hy.1, Nat.lt_of_lt_of_le hy.2 (by simp)⟩)

set_option maxHeartbeats 1600000 in
set_option maxRecDepth 100000 in
theorem laws_eqGrammar {lo hi lo2 hi2 : Nat} {a0 : Option Addr} {c0 : Nat} {a1 : Option Addr} {c1 : Nat} {a0q : Option Addr} {c0q : Nat} {a1q : Option Addr} {c1q : Nat} (x : DGrammar) (hsz : x.sz ≤ 1048576) (w : World) (hhi : hi ≤ w.heap.size) (hhi2 : hi2 ≤ w.heap.size) (hs0 : Sl lo hi w 2 x.fSymbols.length (fun k => DSymbol.ct (x.fSymbols.getD k default)) a0) (hs1 : Sl lo hi w 6 x.fRules.length (fun k => DRule.ct (x.fRules.getD k default)) a1) (hs0q : Sl lo2 hi2 w 2 x.fSymbols.length (fun k => DSymbol.ct (x.fSymbols.getD k default)) a0q) (hs1q : Sl lo2 hi2 w 6 x.fRules.length (fun k => DRule.ct (x.fRules.getD k default)) a1q) :
    Calls Tryz.prog 11 #[.agg #[.slice a0 x.fSymbols.length c0, .slice a1 x.fRules.length c1], .agg #[.slice a0q x.fSymbols.length c0q, .slice a1q x.fRules.length c1q]] w fun e w' => e = .returned (.bool true) ∧ Below w.heap.size w w' := by
  have HS0 := Lib.hid hs0
  have HS0q := Lib.hid hs0q
  have HS1 := Lib.hid hs1
  have HS1q := Lib.hid hs1q
  clear hs0 hs0q hs1 hs1q
  have HW := Lib.hid hsz
  clear hsz
  have HB0 := Lib.hid (((Below.refl w.heap.size w).alloc (Nat.le_refl _) (.cells #[.slice a0 x.fSymbols.length c0, .slice a1 x.fRules.length c1] 40)).alloc (by simp <;> omega) (.cells #[.slice a0q x.fSymbols.length c0q, .slice a1q x.fRules.length c1q] 40))
  have ht0 := fun (w' : World) (hhi : hi ≤ w'.heap.size) (hhi2 : hi2 ≤ w'.heap.size) (hs : Sl lo hi w' 2 x.fSymbols.length (fun k => DSymbol.ct (x.fSymbols.getD k default)) a0) (hs2 : Sl lo2 hi2 w' 2 x.fSymbols.length (fun k => DSymbol.ct (x.fSymbols.getD k default)) a0q) => laws_eqSymbolS (cap := c0) (cap2 := c0q) x.fSymbols (by have h := HW.out; unfold DGrammar.sz at h; omega) w' hhi hhi2 hs hs2
  have HT0 := Lib.hid ht0
  clear ht0
  have ht1 := fun (w' : World) (hhi : hi ≤ w'.heap.size) (hhi2 : hi2 ≤ w'.heap.size) (hs : Sl lo hi w' 6 x.fRules.length (fun k => DRule.ct (x.fRules.getD k default)) a1) (hs2 : Sl lo2 hi2 w' 6 x.fRules.length (fun k => DRule.ct (x.fRules.getD k default)) a1q) => laws_eqRuleS (cap := c1) (cap2 := c1q) x.fRules (by have h := HW.out; unfold DGrammar.sz at h; omega) w' hhi hhi2 hs hs2
  have HT1 := Lib.hid ht1
  clear ht1
  go_enter Tryz.func11, Tryz.ntmps11
  go_wp2_with fail
  refine (HT0.out _ (Nat.le_trans hhi (HB0.out.size)) (Nat.le_trans hhi2 (HB0.out.size)) (HS0.out.later HB0.out hhi) (HS0q.out.later HB0.out hhi2)).mono ?_
  rintro e w1 ⟨rfl, hb1⟩
  have x1_0_1 : w1.cell? ⟨w.heap.size, 1, none⟩ = some (.slice a1 x.fRules.length c1) := (hb1.cell (p := ⟨w.heap.size, 1, none⟩) (by first | omega | (simp; done) | (simp; omega) | (simp [World.setCell]; omega))).trans (by go_simp)
  have x1_1_1 : w1.cell? ⟨w.heap.size + 1, 1, none⟩ = some (.slice a1q x.fRules.length c1q) := (hb1.cell (p := ⟨w.heap.size + 1, 1, none⟩) (by first | omega | (simp; done) | (simp; omega) | (simp [World.setCell]; omega))).trans (by go_simp)
  have hsz1 : w.heap.size + 1 < w1.heap.size := Nat.lt_of_lt_of_le (by first | omega | (simp; done) | (simp; omega) | (simp [World.setCell]; omega)) hb1.size
  have HB1 := Lib.hid (HB0.out.trans (hb1.mono HB0.out.size))
  clear hb1
  go_wp2_with fail
  refine (HT1.out _ (Nat.le_trans hhi (HB1.out.size)) (Nat.le_trans hhi2 (HB1.out.size)) (HS1.out.later HB1.out hhi) (HS1q.out.later HB1.out hhi2)).mono ?_
  rintro e w2 ⟨rfl, hb2⟩
  have HB2 := Lib.hid (HB1.out.trans (hb2.mono HB1.out.size))
  clear hb2
  clear x1_0_1 x1_1_1 hsz1
  go_wp2
  go_ret
  exact ⟨rfl, HB2.out⟩
end Go.Proofs.YtnmepemmpeboeaaGreat
namespace Go.Proofs.YtnmepemmpeboeaaGreat
open Go.ChangeShapes Go.WideShapes Go.ChangeAt Go.RowKit Go.Deep

/-- The symbol at a position of a rule. -/
def symbolAt (x : DRule) (pos : Int) : ByteArray := if pos = 0 then x.fLeft else if 1 ≤ pos ∧ pos ≤ x.fRight.length then x.fRight.getD (pos.toNat - 1) default else ⟨#[]⟩
theorem ret_str {a b : ByteArray} (h : a = b) : Ending.returned (Value.string a) = .returned (.string b) := by rw [h]

set_option maxHeartbeats 1600000 in
set_option maxRecDepth 100000 in
theorem spec_SymbolAt {lo hi : Nat} {a2 a4 a5 : Option Addr} {c0_0 c0_1 c0_2 : Nat} (x : DRule) (_ : x.ok) (hsz : x.sz ≤ 1048576) (pos : Int) (hp : okI pos) (w : World) (hhi : hi ≤ w.heap.size) (hs2 : Sl lo hi w 1 x.fRight.length (fun k => ictS (x.fRight.getD k default)) a2) (_ : Sl lo hi w 9 x.fEquations.length (fun k => DEquation.ct (x.fEquations.getD k default)) a4) (_ : Sl lo hi w 16 x.fContributions.length (fun k => DContribution.ct (x.fContributions.getD k default)) a5) :
    Calls Tryz.prog 56 #[.agg #[.string x.fName, .string x.fLeft, .slice a2 x.fRight.length c0_0, .bool x.fLiteral, .slice a4 x.fEquations.length c0_1, .slice a5 x.fContributions.length c0_2], .int .i64 pos] w fun e w' => e = .returned (.string (symbolAt x pos)) ∧ Below w.heap.size w w' := by
  have hn : x.fRight.length ≤ 1048576 := by unfold DRule.sz lsz at hsz; omega
  have hp1 : -9223372036854775808 ≤ pos ∧ pos ≤ 9223372036854775807 := hp
  have HB := Lib.hid ((Below.refl w.heap.size w).alloc (Nat.le_refl _) (.cells #[.string x.fName, .string x.fLeft, .slice a2 x.fRight.length c0_0, .bool x.fLiteral, .slice a4 x.fEquations.length c0_1, .slice a5 x.fContributions.length c0_2] 45))
  have HS := Lib.hid (hs2.later HB.out hhi)
  clear hs2 hp hsz
  by_cases h0 : pos = 0
  · have FIN := Lib.hid (show x.fLeft = symbolAt x pos by unfold symbolAt; rw [if_pos h0])
    subst h0
    go_enter Tryz.func56, Tryz.ntmps56
    go_wp2
    go_ret
    exact ⟨ret_str FIN.out, HB.out⟩
  · have e0 : (pos == 0) = false := beq_eq_false_iff_ne.2 h0
    by_cases h1 : 1 ≤ pos ∧ pos ≤ x.fRight.length
    · obtain ⟨k, rfl⟩ : ∃ k : Nat, pos = (k : Int) + 1 := ⟨(pos - 1).toNat, by omega⟩
      have hk : k < x.fRight.length := by omega
      have FIN := Lib.hid (show x.fRight.getD k default = symbolAt x ((k : Int) + 1) by unfold symbolAt; rw [if_neg h0, if_pos h1, show ((k : Int) + 1).toNat - 1 = k by omega])
      obtain ⟨b, off, rfl, _, _, hc⟩ := HS.out.at k hk
      obtain ⟨u, hu, hl⟩ := hc 0 (by decide)
      obtain rfl := lies_lit hl
      rw [Nat.mul_one, Nat.add_zero] at hu
      have HI := Lib.hid (show ∀ w', Calls Tryz.prog 57 #[.int .i64 ((k : Int) + 1), .int .i64 1, .int .i64 (x.fRight.length : Int)] w' fun e w'' => e = .returned (.bool true) ∧ w' = w'' from fun w' => by have h := spec_l1In ((k : Int) + 1) 1 (x.fRight.length : Int) w'; rw [inR_yes h1.1 h1.2] at h; exact h)
      clear h0 h1 hc hl HS
      generalize x.fRight.getD k default = v at *
      go_enter Tryz.func56, Tryz.ntmps56
      go_wp2_with fail
      refine (HI.out _).mono ?_
      rintro e w1 ⟨rfl, rfl⟩
      go_wp2
      go_ret
      exact ⟨ret_str FIN.out, HB.out⟩
    · have FIN := Lib.hid (show (⟨#[]⟩ : ByteArray) = symbolAt x pos by unfold symbolAt; rw [if_neg h0, if_neg h1])
      have HI := Lib.hid (show ∀ w', Calls Tryz.prog 57 #[.int .i64 pos, .int .i64 1, .int .i64 (x.fRight.length : Int)] w' fun e w'' => e = .returned (.bool false) ∧ w' = w'' from fun w' => by have h := spec_l1In pos 1 (x.fRight.length : Int) w'; rw [inR_no (by omega)] at h; exact h)
      clear h0 h1 HS
      go_enter Tryz.func56, Tryz.ntmps56
      go_wp2_with fail
      refine (HI.out _).mono ?_
      rintro e w1 ⟨rfl, rfl⟩
      go_wp2
      go_ret
      exact ⟨ret_str FIN.out, HB.out⟩

set_option maxHeartbeats 1600000 in
set_option maxRecDepth 100000 in
theorem impl_hasPosition {a2 a4 a5 : Option Addr} {c0_0 c0_1 c0_2 : Nat} (x : DRule) (_ : x.fRight.length ≤ 1048576) (pos : Int) (w : World) :
    Calls Tryz.prog 94 #[.agg #[.string x.fName, .string x.fLeft, .slice a2 x.fRight.length c0_0, .bool x.fLiteral, .slice a4 x.fEquations.length c0_1, .slice a5 x.fContributions.length c0_2], .int .i64 pos] w fun e w' => e = .returned (.bool (inR pos 0 x.fRight.length)) ∧ Below w.heap.size w w' := by
  have HB := Lib.hid ((Below.refl w.heap.size w).alloc (Nat.le_refl _) (.cells #[.string x.fName, .string x.fLeft, .slice a2 x.fRight.length c0_0, .bool x.fLiteral, .slice a4 x.fEquations.length c0_1, .slice a5 x.fContributions.length c0_2] 45))
  by_cases h0 : 0 ≤ pos
  · have FIN := Lib.hid (show decide (pos ≤ (x.fRight.length : Int)) = inR pos 0 x.fRight.length by unfold inR; rw [decide_eq_true h0, Bool.true_and])
    go_enter Tryz.func94, Tryz.ntmps94
    go_wp2
    go_ret
    exact ⟨ret_b FIN.out, HB.out⟩
  · have FIN := Lib.hid (inR_no (n := pos) (a := 0) (b := x.fRight.length) (Or.inl (by omega)))
    have h1 : pos < 0 := by omega
    clear h0
    go_enter Tryz.func94, Tryz.ntmps94
    go_wp2
    go_ret
    exact ⟨ret_b FIN.out.symm, HB.out⟩

set_option maxHeartbeats 1600000 in
set_option maxRecDepth 100000 in
theorem impl_SymbolAt {lo hi : Nat} {a2 a4 a5 : Option Addr} {c0_0 c0_1 c0_2 : Nat} (x : DRule) (_ : x.ok) (hsz : x.sz ≤ 1048576) (pos : Int) (hp : okI pos) (w : World) (hhi : hi ≤ w.heap.size) (hs2 : Sl lo hi w 1 x.fRight.length (fun k => ictS (x.fRight.getD k default)) a2) (_ : Sl lo hi w 9 x.fEquations.length (fun k => DEquation.ct (x.fEquations.getD k default)) a4) (_ : Sl lo hi w 16 x.fContributions.length (fun k => DContribution.ct (x.fContributions.getD k default)) a5) :
    Calls Tryz.prog 66 #[.agg #[.string x.fName, .string x.fLeft, .slice a2 x.fRight.length c0_0, .bool x.fLiteral, .slice a4 x.fEquations.length c0_1, .slice a5 x.fContributions.length c0_2], .int .i64 pos] w fun e w' => e = .returned (.string (symbolAt x pos)) ∧ Below w.heap.size w w' := by
  have hn : x.fRight.length ≤ 1048576 := by unfold DRule.sz lsz at hsz; omega
  have hp1 : -9223372036854775808 ≤ pos ∧ pos ≤ 9223372036854775807 := hp
  have HB := Lib.hid ((Below.refl w.heap.size w).alloc (Nat.le_refl _) (.cells #[.string x.fName, .string x.fLeft, .slice a2 x.fRight.length c0_0, .bool x.fLiteral, .slice a4 x.fEquations.length c0_1, .slice a5 x.fContributions.length c0_2] 45))
  have HS := Lib.hid (hs2.later HB.out hhi)
  have HP := Lib.hid (fun W => impl_hasPosition (a2 := a2) (a4 := a4) (a5 := a5) (c0_0 := c0_0) (c0_1 := c0_1) (c0_2 := c0_2) x hn pos W)
  clear hs2 hp hsz
  by_cases h0 : pos = 0
  · have FIN := Lib.hid (show x.fLeft = symbolAt x pos by unfold symbolAt; rw [if_pos h0])
    rw [inR_yes (by omega) (by omega)] at HP
    subst h0
    go_enter Tryz.func66, Tryz.ntmps66
    go_wp2_with fail
    refine (HP.out _).mono ?_
    rintro e w1 ⟨rfl, hb1⟩
    have p1 : w1.cell? ⟨w.heap.size, 1, none⟩ = some (.string x.fLeft) := (hb1.cell (p := ⟨w.heap.size, 1, none⟩) (by simp)).trans (by go_simp)
    have HB1 := Lib.hid (HB.out.trans (hb1.mono HB.out.size))
    clear hb1
    go_wp2
    go_ret
    exact ⟨ret_str FIN.out, HB1.out⟩
  · have e0 : (pos == 0) = false := beq_eq_false_iff_ne.2 h0
    by_cases h1 : 1 ≤ pos ∧ pos ≤ x.fRight.length
    · obtain ⟨k, rfl⟩ : ∃ k : Nat, pos = (k : Int) + 1 := ⟨(pos - 1).toNat, by omega⟩
      have hk : k < x.fRight.length := by omega
      have FIN := Lib.hid (show x.fRight.getD k default = symbolAt x ((k : Int) + 1) by unfold symbolAt; rw [if_neg h0, if_pos h1, show ((k : Int) + 1).toNat - 1 = k by omega])
      obtain ⟨b, off, rfl, _, hbh, hc⟩ := HS.out.at k hk
      obtain ⟨u, hu, hl⟩ := hc 0 (by decide)
      obtain rfl := lies_lit hl
      rw [Nat.mul_one, Nat.add_zero] at hu
      have HU := Lib.hid hu
      rw [inR_yes (by omega) (by omega)] at HP
      clear h0 h1 hc hl HS hu
      generalize x.fRight.getD k default = v at *
      go_enter Tryz.func66, Tryz.ntmps66
      go_wp2_with fail
      refine (HP.out _).mono ?_
      rintro e w1 ⟨rfl, hb1⟩
      have p1 : w1.cell? ⟨w.heap.size, 2, none⟩ = some (.slice (some ⟨b, off, none⟩) x.fRight.length c0_0) := (hb1.cell (p := ⟨w.heap.size, 2, none⟩) (by simp)).trans (by go_simp)
      have p2 : w1.cell? ⟨b, off + k, none⟩ = some (.string v) := (hb1.cell (p := ⟨b, off + k, none⟩) (by simp; omega)).trans HU.out
      have HB1 := Lib.hid (HB.out.trans (hb1.mono HB.out.size))
      clear hb1
      go_wp2
      go_ret
      exact ⟨ret_str FIN.out, HB1.out⟩
    · have FIN := Lib.hid (show (⟨#[]⟩ : ByteArray) = symbolAt x pos by unfold symbolAt; rw [if_neg h0, if_neg h1])
      rw [inR_no (by omega)] at HP
      clear h0 h1 HS
      go_enter Tryz.func66, Tryz.ntmps66
      go_wp2_with fail
      refine (HP.out _).mono ?_
      rintro e w1 ⟨rfl, hb1⟩
      have HB1 := Lib.hid (HB.out.trans (hb1.mono HB.out.size))
      clear hb1
      go_wp2
      go_ret
      exact ⟨ret_str FIN.out, HB1.out⟩
end Go.Proofs.YtnmepemmpeboeaaGreat
