/-
  The type Attribute of the laws: its data, and the contracts of the laws' own helpers on it.
-/
import Derived.Test.YticchgfhmfjknaaTSz
import Derived.WalkSpells
import Derived.WalkSmall
import Derived.WalkLawsBesides
import Derived.SliceStrings
import Derived.Deep.QuietTactic
import Derived.Deep.RegionWith
import Derived.BigQuiet
import Derived.Outline
import Derived.Laws.Rows
namespace Go.Proofs.Yticchgfhmfjknaa
open Go.ChangeShapes Go.WideShapes Go.ChangeAt Go.RowKit Go.Deep

structure DAttribute where
  fName : ByteArray
  fType : Int
  fMode : Int
  fCircular : Bool
  deriving Inhabited

def DAttribute.ct (x : DAttribute) : Nat → Ct
  | 0 => .lit (.string x.fName)
  | 1 => .lit (.int .i64 x.fType)
  | 2 => .lit (.int .i64 x.fMode)
  | 3 => .lit (.bool x.fCircular)
  | _ => .lit .nilFunc

def DAttribute.ok (x : DAttribute) : Prop := okS x.fName ∧ okI x.fType ∧ okI x.fMode ∧ okB x.fCircular

def DAttribute.sz (x : DAttribute) : Nat := x.fName.size

theorem DAttribute.open {lo hi b o : Nat} {w : World} {x : DAttribute} (h : ∀ j, j < 4 → ∃ u, w.cell? ⟨b, o + j, none⟩ = some u ∧ Lies lo hi w (x.ct j) u) :
    w.cell? ⟨b, o, none⟩ = some (.string x.fName) ∧ w.cell? ⟨b, o + 1, none⟩ = some (.int .i64 x.fType) ∧ w.cell? ⟨b, o + 2, none⟩ = some (.int .i64 x.fMode) ∧ w.cell? ⟨b, o + 3, none⟩ = some (.bool x.fCircular) := by
  obtain ⟨u0, hc0, hl0⟩ := h 0 (by decide)
  obtain rfl := lies_lit hl0
  obtain ⟨u1, hc1, hl1⟩ := h 1 (by decide)
  obtain rfl := lies_lit hl1
  obtain ⟨u2, hc2, hl2⟩ := h 2 (by decide)
  obtain rfl := lies_lit hl2
  obtain ⟨u3, hc3, hl3⟩ := h 3 (by decide)
  obtain rfl := lies_lit hl3
  exact ⟨hc0, hc1, hc2, hc3⟩

theorem opens_attribute {H : Type} {enc : TypeId × Value → H} {w : World} (fuel : Nat) : Opens enc Try.prog w 132 4 DAttribute.ct DAttribute.ok fuel := by
  intro cs x h
  have hl := opens_len Try.underlying132 h
  obtain ⟨y0, k0, q0⟩ := opens_field Try.underlying132 h 0 _ rfl (ft := 9) (o := 0) (n := 1) rfl rfl (fun m _ => opens_string Try.underlying9 m) (by kernel_rfl)
  obtain ⟨y1, k1, q1⟩ := opens_field Try.underlying132 h 1 _ rfl (ft := 3) (o := 1) (n := 1) rfl rfl (fun m _ => opens_int Try.underlying3 m) (by kernel_rfl)
  obtain ⟨y2, k2, q2⟩ := opens_field Try.underlying132 h 2 _ rfl (ft := 3) (o := 2) (n := 1) rfl rfl (fun m _ => opens_int Try.underlying3 m) (by kernel_rfl)
  obtain ⟨y3, k3, q3⟩ := opens_field Try.underlying132 h 3 _ rfl (ft := 4) (o := 3) (n := 1) rfl rfl (fun m _ => opens_bool Try.underlying4 m) (by kernel_rfl)
  refine ⟨⟨y0, y1, y2, y3⟩, ⟨k0, k1, k2, k3⟩, hl.trans (by kernel_rfl), fun j hj => ?_⟩
  match j, hj with
  | 0, _ => exact q0 0 (by decide)
  | 1, _ => exact q1 0 (by decide)
  | 2, _ => exact q2 0 (by decide)
  | 3, _ => exact q3 0 (by decide)

open Go.WideElems Go.WideMaps in
set_option maxRecDepth 100000 in
theorem arg_attribute {H : Type} {enc : TypeId × Value → H} {W : World} {base : Nat} {v : Value} {d : DataW H} {p : List MemPlace} (hv : Value.okWide Try.prog W .any base 132 v) (h : DataW.Trod enc Try.prog W 0 (fun _ => true) true 132 v d p) :
    ∃ (x : DAttribute), v = .agg #[.string x.fName, .int .i64 x.fType, .int .i64 x.fMode, .bool x.fCircular] ∧ x.ok := by
  obtain ⟨cs, rfl, hsz⟩ := okWide_struct Try.underlying132 hv
  obtain ⟨fuel, hf⟩ := h
  obtain ⟨x, hx, hl, hj⟩ := opens_attribute fuel _ _ hf
  obtain ⟨l⟩ := cs
  match l, hl, hj with
  | [e0, e1, e2, e3], _, hj =>
    obtain ⟨u0, hu0, hl0⟩ := hj 0 (by decide)
    obtain rfl := lies_lit hl0
    obtain rfl : e0 = _ := Option.some.inj hu0
    obtain ⟨u1, hu1, hl1⟩ := hj 1 (by decide)
    obtain rfl := lies_lit hl1
    obtain rfl : e1 = _ := Option.some.inj hu1
    obtain ⟨u2, hu2, hl2⟩ := hj 2 (by decide)
    obtain rfl := lies_lit hl2
    obtain rfl : e2 = _ := Option.some.inj hu2
    obtain ⟨u3, hu3, hl3⟩ := hj 3 (by decide)
    obtain rfl := lies_lit hl3
    obtain rfl : e3 = _ := Option.some.inj hu3
    exact ⟨x, rfl, hx⟩

open Go.WideElems Go.WideMaps in
theorem arg_attributeS {H : Type} {enc : TypeId × Value → H} {W : World} {v : Value} {d : DataW H} {p : List MemPlace} {a0 : Option Addr} {len cap : Nat} (hv : v = .slice a0 len cap) (h : DataW.Trod enc Try.prog W 0 (fun _ => true) true 87 v d p) :
    ∃ (l : List DAttribute) (a : Option Addr) (cap : Nat), v = .slice a l.length cap ∧ okL DAttribute.ok l ∧ Sl 0 W.heap.size W 4 l.length (fun k => DAttribute.ct (l.getD k default)) a := by
  subst hv
  obtain ⟨fuel, hf⟩ := h
  obtain ⟨x, hx, hl, hj⟩ := opens_slice Try.underlying87 (e := 132) (n := 4) (by kernel_rfl) (by decide) fuel (fun m _ => opens_attribute m) _ _ hf
  obtain ⟨u0, hu0, hl0⟩ := hj 0 (by decide)
  obtain ⟨a, c, rfl, hs⟩ := lies_sl hl0
  exact ⟨x, a, c, Option.some.inj hu0, hx, hs⟩

set_option maxHeartbeats 1600000 in
set_option maxRecDepth 100000 in
theorem laws_szAttribute (x : DAttribute) (L : Int) (hL0 : 0 ≤ L) (hL1 : L ≤ 1048576) (hx : x.ok) (w : World) :
    Calls Try.prog 74 #[.agg #[.string x.fName, .int .i64 x.fType, .int .i64 x.fMode, .bool x.fCircular], .int .i64 L] w fun e w' => e = .returned (.int .i64 (szR L x.sz)) ∧ Below w.heap.size w w' := by
  have HX := Lib.hid hx
  clear hx
  have okName : x.fName.size ≤ 9223372036854775807 := HX.out.1
  have HB0 := Lib.hid ((Below.refl w.heap.size w).alloc (Nat.le_refl _) (.cells #[.string x.fName, .int .i64 x.fType, .int .i64 x.fMode, .bool x.fCircular] 132))
  by_cases h0 : L < ((x.fName.size : Nat) : Int)
  · skip
    have fin := Lib.hid (szR_gt (n := x.sz) (L := L) (by unfold DAttribute.sz; omega))
    go_enter Try.func74, Try.ntmps74
    go_wp2
    go_ret
    exact ⟨ret_i (by rw [fin.out]), HB0.out⟩
  · skip
    have fin := Lib.hid (szR_le (n := x.sz) (L := L) (by unfold DAttribute.sz; omega))
    go_enter Try.func74, Try.ntmps74
    go_wp2
    go_ret
    exact ⟨ret_i (by rw [fin.out]; unfold DAttribute.sz; omega), HB0.out⟩

set_option maxHeartbeats 1600000 in
set_option maxRecDepth 100000 in
theorem laws_szAttributeS {lo hi : Nat} {a : Option Addr} {cap : Nat} (l : List DAttribute) (L : Int) (hL0 : 0 ≤ L) (hL1 : L ≤ 1048576) (hok : okL DAttribute.ok l) (w : World) (hhi : hi ≤ w.heap.size) (hs : Sl lo hi w 4 l.length (fun k => DAttribute.ct (l.getD k default)) a) :
    Calls Try.prog 64 #[.slice a l.length cap, .int .i64 L] w fun e w' => e = .returned (.int .i64 (szR L (lsz DAttribute.sz l))) ∧ Below w.heap.size w w' := by
  have HS := Lib.hid hs
  have HK := Lib.hid hok
  have hn : l.length ≤ 9223372036854775807 := hok.1
  clear hs hok
  by_cases hlong : L < ((l.length : Nat) : Int)
  · have fin := Lib.hid (szR_gt (n := lsz DAttribute.sz l) (L := L) (by unfold lsz; omega))
    go_enter Try.func64, Try.ntmps64
    go_wp2
    go_ret
    exact ⟨ret_i fin.out.symm, Below.refl _ _⟩
  · go_enter Try.func64, Try.ntmps64
    go_wp2
    go_loopw [1, 5] (fun q i wr => ∃ k : Nat, k ≤ l.length ∧ i = .int .i64 (k : Int) ∧ q = .int .i64 (L - l.length - psz DAttribute.sz l k) ∧ (l.length : Int) + psz DAttribute.sz l k ≤ L ∧ Below w.heap.size w wr) (fun _ i _ => l.length - (intOf i).toNat)
    case atStart => exact ⟨0, Nat.zero_le _, rfl, by rw [psz_zero]; go_num, by rw [psz_zero]; omega, Below.refl _ _⟩
    case round =>
      obtain ⟨k, hk, rfl, rfl, hle, hb⟩ := hrel
      have HB := Lib.hid hb
      by_cases hlt : k < l.length
      · have hsu := Lib.hid (psz_succ DAttribute.sz l k hlt)
        have hle2 := Lib.hid (psz_le DAttribute.sz l (k + 1))
        have hokk := HK.out.at hlt
        have hhr : hi ≤ wr.heap.size := Nat.le_trans hhi hb.size
        obtain ⟨b, off, rfl, hlo, hhi', hc⟩ := (HS.out.later (hb.mono hhi) (Nat.le_refl _)).at k hlt
        clear hb
        obtain ⟨hc0_, hc1_, hc2_, hc3_⟩ := DAttribute.open hc
        clear hc
        generalize l.getD k default = x at *
        generalize psz DAttribute.sz l k = S at *
        have hZ := laws_szAttribute x (L - l.length - S) (by omega) (by omega) hokk wr
        by_cases hf : ((x.sz : Nat) : Int) ≤ L - l.length - S
        · rw [szR_le hf] at hZ
          have HZ := Lib.hid hZ
          clear hZ hokk
          go_wp2_with fail
          refine HZ.out.mono ?_
          rintro e w1 ⟨rfl, hb1⟩
          have HB1 := Lib.hid hb1
          clear hb1
          go_wp2
          go_roundw
          case rel => exact ⟨k + 1, by omega, by go_num, by rw [hsu.out]; go_num, by rw [hsu.out]; omega, HB.out.trans (HB1.out.mono HB.out.size)⟩
          case measure => simp [intOf]; omega
        · have fin := Lib.hid (szR_gt (n := lsz DAttribute.sz l) (L := L) (by have h1 := hsu.out; have h2 := hle2.out; omega))
          rw [szR_gt (by omega)] at hZ
          have HZ := Lib.hid hZ
          clear hZ hokk
          go_wp2_with fail
          refine HZ.out.mono ?_
          rintro e w1 ⟨rfl, hb1⟩
          have HB1 := Lib.hid hb1
          clear hb1
          go_wp2
          go_ret
          exact ⟨ret_i fin.out.symm, HB.out.trans (HB1.out.mono HB.out.size)⟩
      · obtain rfl : k = l.length := by omega
        have fin := Lib.hid (szR_le (n := lsz DAttribute.sz l) (L := L) (by unfold lsz; rw [psz_all] at hle; omega))
        have fin2 := Lib.hid (psz_all DAttribute.sz l)
        go_wp2
        go_ret
        exact ⟨ret_i (by rw [fin.out, fin2.out]; unfold lsz; omega), HB.out⟩

set_option maxHeartbeats 1600000 in
set_option maxRecDepth 100000 in
theorem laws_toAttribute (x : DAttribute) (w : World) :
    Calls Try.prog 76 #[.agg #[.string x.fName, .int .i64 x.fType, .int .i64 x.fMode, .bool x.fCircular]] w fun e w' => e = .returned (.agg #[.string x.fName, .int .i64 x.fType, .int .i64 x.fMode, .bool x.fCircular]) ∧ Below w.heap.size w w' := by
  go_enter Try.func76, Try.ntmps76
  go_wp2
  exact bodyPost_ret (v := .agg #[.string x.fName, .int .i64 x.fType, .int .i64 x.fMode, .bool x.fCircular]) (by simp [results, Try.results76, go_sem]) rfl ⟨rfl, by
    repeat (first | exact Below.refl _ _ | (refine Below.setCell ?_ (by simp <;> omega) _) | (refine Below.alloc ?_ (by simp <;> omega) _))⟩

theorem info_Attribute : (Try.prog.info? 66).map (fun i => (i.zero, i.size, i.bytes)) = some (some (.agg #[.string ⟨#[]⟩, .int .i64 0, .int .i64 0, .bool false]), 4, 40) := by kernel_rfl

set_option maxHeartbeats 1600000 in
set_option maxRecDepth 100000 in
theorem laws_toAttributeS {lo hi : Nat} {a : Option Addr} {cap : Nat} (l : List DAttribute) (hsz : lsz DAttribute.sz l ≤ 1048576) (w : World) (hhi : hi ≤ w.heap.size) (hs : Sl lo hi w 4 l.length (fun k => DAttribute.ct (l.getD k default)) a) :
    Calls Try.prog 67 #[.slice a l.length cap] w fun e w' => ∃ a' cap', e = .returned (.slice a' l.length cap') ∧ Own w' (fun x => w.heap.size ≤ x ∧ x < w'.heap.size) (.sl 4 l.length (fun k => DAttribute.ct (l.getD k default))) (.slice a' l.length cap') ∧ Below w.heap.size w w' := by
  have HS := Lib.hid hs
  clear hs
  have HW := Lib.hid hsz
  have hn : l.length ≤ 1048576 := by unfold lsz at hsz; omega
  clear hsz
  obtain ⟨i0, hi', hz0, hz1, hz2⟩ := info_parts info_Attribute
  go_enter Try.func67, Try.ntmps67
  go_wp2_with (at_make; refine wpList_make_full _ rfl (.tmp 6) (.tmp 6) 57 rfl w.heap.size 66 i0 (.agg #[.string ⟨#[]⟩, .int .i64 0, .int .i64 0, .bool false]) 4 Try.underlying57 hi' hz0 hz1 .i64 .i64 (l.length : Int) (l.length : Int) l.length rfl rfl rfl rfl (by rw [hz2]; omega) (by unfold maxLen; omega) (Nat.le_refl _) ?_; intro w1 hown hgrow)
  have hb1 : Below w.heap.size w w1 := (Below.refl _ w).grown hgrow (Nat.le_refl _) (fun k hk => by cases hk)
  clear hgrow
  have hblk := (ownsRow_block hown).1
  go_loopw [4] (fun i wr => ∃ (k : Nat) (xs : List Value), k ≤ l.length ∧ i = .int .i64 (k : Int) ∧ wr.ownsRow w.heap.size 66 4 (.slice (some ⟨w.heap.size, 0, none⟩) l.length l.length) l.length xs ∧ Filled w.heap.size wr 4 k (fun k => DAttribute.ct (l.getD k default)) xs ∧ Below w.heap.size w wr) (fun i _ => l.length - (intOf i).toNat)
  case atStart => exact ⟨0, _, Nat.zero_le _, rfl, hown, Filled.zero hblk, hb1⟩
  case round =>
    clear hown hb1 hblk
    obtain ⟨k, xs, hk, rfl, hown, hfill, hb⟩ := hrel
    have hblk := ownsRow_block hown
    have HO := Lib.hid hown
    have HF := Lib.hid hfill
    have HB := Lib.hid hb
    clear hown hfill
    by_cases hlt : k < l.length
    · have hhr : hi ≤ wr.heap.size := Nat.le_trans hhi hb.size
      obtain ⟨b, off, rfl, hlo, hhi', hc⟩ := (HS.out.later (hb.mono hhi) (Nat.le_refl _)).at k hlt
      obtain ⟨hc0_, hc1_, hc2_, hc3_⟩ := DAttribute.open hc
      have hkn : k * 4 + 4 ≤ l.length * 4 := by omega
      have d0 := hblk.2.2.1 (k * 4) (by omega)
      have z0 := hblk.2.2.2 (k * 4)
      have d1 := hblk.2.2.1 (k * 4 + 1) (by omega)
      have z1 := hblk.2.2.2 (k * 4 + 1)
      have d2 := hblk.2.2.1 (k * 4 + 2) (by omega)
      have z2 := hblk.2.2.2 (k * 4 + 2)
      have d3 := hblk.2.2.1 (k * 4 + 3) (by omega)
      have z3 := hblk.2.2.2 (k * 4 + 3)
      have hsz := hblk.1
      clear hblk hb hc
      generalize hx : l.getD k default = x at *
      have HX := Lib.hid hx
      clear hx
      generalize xs.getD (k * 4) Value.nilFunc = v0 at d0
      generalize xs.getD (k * 4 + 1) Value.nilFunc = v1 at d1
      generalize xs.getD (k * 4 + 2) Value.nilFunc = v2 at d2
      generalize xs.getD (k * 4 + 3) Value.nilFunc = v3 at d3
      have HT := Lib.hid (laws_toAttribute x wr)
      clear hkn
      go_wp2_with fail
      refine HT.out.mono ?_
      rintro e w1 ⟨rfl, hb1⟩
      have e0 := (hb1.cell (p := ⟨w.heap.size, k * 4, none⟩) hsz).trans d0
      have y0 := (hb1.frozen (p := ⟨w.heap.size, k * 4, none⟩) hsz).trans z0
      have e1 := (hb1.cell (p := ⟨w.heap.size, k * 4 + 1, none⟩) hsz).trans d1
      have y1 := (hb1.frozen (p := ⟨w.heap.size, k * 4 + 1, none⟩) hsz).trans z1
      have e2 := (hb1.cell (p := ⟨w.heap.size, k * 4 + 2, none⟩) hsz).trans d2
      have y2 := (hb1.frozen (p := ⟨w.heap.size, k * 4 + 2, none⟩) hsz).trans z2
      have e3 := (hb1.cell (p := ⟨w.heap.size, k * 4 + 3, none⟩) hsz).trans d3
      have y3 := (hb1.frozen (p := ⟨w.heap.size, k * 4 + 3, none⟩) hsz).trans z3
      have HB1 := Lib.hid hb1
      clear hb1 d0 z0 d1 z1 d2 z2 d3 z3
      go_wp2
      go_roundw
      case rel =>
        have hst := HF.out.stored HB1.out hsz (ownsRow_below HO.out HB1.out) hlt [.string x.fName, .int .i64 x.fType, .int .i64 x.fMode, .bool x.fCircular] rfl (OwnR.lits fun j hj => by
          rw [HX.out]
          match j, hj with
          | 0, _ => rfl
          | 1, _ => rfl
          | 2, _ => rfl
          | 3, _ => rfl)
        exact ⟨k + 1, _, by omega, by go_num, hst.1, hst.2, setCells_below (Nat.le_refl _) [_, _, _, _] _ (HB.out.trans (HB1.out.mono HB.out.size))⟩
      case measure => simp [intOf]; omega
    · obtain rfl : k = l.length := by omega
      go_wp2
      go_ret
      exact ⟨_, _, rfl, HF.out.own hblk.1 hblk.2.2.1 hblk.2.2.2, hb⟩

set_option maxHeartbeats 1600000 in
set_option maxRecDepth 100000 in
theorem laws_eqAttribute (x : DAttribute) (w : World) :
    Calls Try.prog 78 #[.agg #[.string x.fName, .int .i64 x.fType, .int .i64 x.fMode, .bool x.fCircular], .agg #[.string x.fName, .int .i64 x.fType, .int .i64 x.fMode, .bool x.fCircular]] w fun e w' => e = .returned (.bool true) ∧ Below w.heap.size w w' := by
  go_enter Try.func78, Try.ntmps78
  go_wp2
  go_ret
  exact ⟨rfl, by
    repeat (first | exact Below.refl _ _ | (refine Below.setCell ?_ (by simp <;> omega) _) | (refine Below.alloc ?_ (by simp <;> omega) _))⟩

set_option maxHeartbeats 1600000 in
set_option maxRecDepth 100000 in
theorem laws_eqAttributeS {lo hi lo2 hi2 : Nat} {a a2 : Option Addr} {cap cap2 : Nat} (l : List DAttribute) (hsz : lsz DAttribute.sz l ≤ 1048576) (w : World) (hhi : hi ≤ w.heap.size) (hhi2 : hi2 ≤ w.heap.size) (hs : Sl lo hi w 4 l.length (fun k => DAttribute.ct (l.getD k default)) a) (hs2 : Sl lo2 hi2 w 4 l.length (fun k => DAttribute.ct (l.getD k default)) a2) :
    Calls Try.prog 72 #[.slice a l.length cap, .slice a2 l.length cap2] w fun e w' => e = .returned (.bool true) ∧ Below w.heap.size w w' := by
  have HS := Lib.hid hs
  have HS2 := Lib.hid hs2
  have HW := Lib.hid hsz
  have hn : l.length ≤ 1048576 := by unfold lsz at hsz; omega
  clear hs hs2 hsz
  go_enter Try.func72, Try.ntmps72
  go_wp2
  go_loopw [5] (fun i wr => ∃ k : Nat, k ≤ l.length ∧ i = .int .i64 (k : Int) ∧ Below w.heap.size w wr) (fun i _ => l.length - (intOf i).toNat)
  case atStart => exact ⟨0, Nat.zero_le _, rfl, Below.refl _ _⟩
  case round =>
    obtain ⟨k, hk, rfl, hb⟩ := hrel
    have HB := Lib.hid hb
    by_cases hlt : k < l.length
    · have hhr : hi ≤ wr.heap.size := Nat.le_trans hhi hb.size
      have hhr2 : hi2 ≤ wr.heap.size := Nat.le_trans hhi2 hb.size
      obtain ⟨b, off, rfl, _, hhi', hc⟩ := (HS.out.later (hb.mono hhi) (Nat.le_refl _)).at k hlt
      obtain ⟨b2, off2, rfl, _, hhi2', hc2⟩ := (HS2.out.later (hb.mono hhi2) (Nat.le_refl _)).at k hlt
      obtain ⟨hc0_, hc1_, hc2_, hc3_⟩ := DAttribute.open hc
      obtain ⟨hc0q_, hc1q_, hc2q_, hc3q_⟩ := DAttribute.open hc2
      clear hb hc hc2
      generalize l.getD k default = x at *
      have HT := Lib.hid (fun (w' : World) => laws_eqAttribute x w')
      skip
      go_wp2_with fail
      go_region_with ((go_at_call 78; refine (HT.out _).mono ?_; rintro e w1 ⟨rfl, hb1⟩))
      all_goals
        go_wp2
        go_roundw
        case rel =>
          refine ⟨k + 1, by omega, by go_num, ?_⟩
          have hb2 : Below wr.heap.size wr w1 := ⟨hb1.os, hb1.tape, hb1.output, hb1.size, hb1.block⟩
          repeat (first | exact HB.out.trans (hb2.mono HB.out.size) | apply Below.drew | refine below_drewN ?_ _)
        case measure => simp [intOf]; omega
    · go_wp2
      go_ret
      exact ⟨rfl, HB.out⟩
end Go.Proofs.Yticchgfhmfjknaa
