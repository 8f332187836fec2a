/-
  The type Occurrence of the laws: its data, and the contracts of the laws' own helpers on it.
-/
import Derived.Test.YticchgfhmfjknaaTSz
import Derived.WalkSpells
import Derived.WalkSmall
import Derived.WalkLawsBesides
import Derived.SliceStrings
import Derived.Deep.QuietTactic
import Derived.Deep.RegionWith
import Derived.BigQuiet
import Derived.Outline
import Derived.Laws.Rows
namespace Go.Proofs.Yticchgfhmfjknaa
open Go.ChangeShapes Go.WideShapes Go.ChangeAt Go.RowKit Go.Deep

structure DOccurrence where
  fPos : Int
  fName : ByteArray
  deriving Inhabited

def DOccurrence.ct (x : DOccurrence) : Nat → Ct
  | 0 => .lit (.int .i64 x.fPos)
  | 1 => .lit (.string x.fName)
  | _ => .lit .nilFunc

def DOccurrence.ok (x : DOccurrence) : Prop := okI x.fPos ∧ okS x.fName

def DOccurrence.sz (x : DOccurrence) : Nat := x.fName.size

theorem DOccurrence.open {lo hi b o : Nat} {w : World} {x : DOccurrence} (h : ∀ j, j < 2 → ∃ u, w.cell? ⟨b, o + j, none⟩ = some u ∧ Lies lo hi w (x.ct j) u) :
    w.cell? ⟨b, o, none⟩ = some (.int .i64 x.fPos) ∧ w.cell? ⟨b, o + 1, none⟩ = some (.string x.fName) := by
  obtain ⟨u0, hc0, hl0⟩ := h 0 (by decide)
  obtain rfl := lies_lit hl0
  obtain ⟨u1, hc1, hl1⟩ := h 1 (by decide)
  obtain rfl := lies_lit hl1
  exact ⟨hc0, hc1⟩

theorem opens_occurrence {H : Type} {enc : TypeId × Value → H} {w : World} (fuel : Nat) : Opens enc Try.prog w 91 2 DOccurrence.ct DOccurrence.ok fuel := by
  intro cs x h
  have hl := opens_len Try.underlying91 h
  obtain ⟨y0, k0, q0⟩ := opens_field Try.underlying91 h 0 _ rfl (ft := 3) (o := 0) (n := 1) rfl rfl (fun m _ => opens_int Try.underlying3 m) (by kernel_rfl)
  obtain ⟨y1, k1, q1⟩ := opens_field Try.underlying91 h 1 _ rfl (ft := 9) (o := 1) (n := 1) rfl rfl (fun m _ => opens_string Try.underlying9 m) (by kernel_rfl)
  refine ⟨⟨y0, y1⟩, ⟨k0, k1⟩, hl.trans (by kernel_rfl), fun j hj => ?_⟩
  match j, hj with
  | 0, _ => exact q0 0 (by decide)
  | 1, _ => exact q1 0 (by decide)

open Go.WideElems Go.WideMaps in
set_option maxRecDepth 100000 in
theorem arg_occurrence {H : Type} {enc : TypeId × Value → H} {W : World} {base : Nat} {v : Value} {d : DataW H} {p : List MemPlace} (hv : Value.okWide Try.prog W .any base 91 v) (h : DataW.Trod enc Try.prog W 0 (fun _ => true) true 91 v d p) :
    ∃ (x : DOccurrence), v = .agg #[.int .i64 x.fPos, .string x.fName] ∧ x.ok := by
  obtain ⟨cs, rfl, hsz⟩ := okWide_struct Try.underlying91 hv
  obtain ⟨fuel, hf⟩ := h
  obtain ⟨x, hx, hl, hj⟩ := opens_occurrence fuel _ _ hf
  obtain ⟨l⟩ := cs
  match l, hl, hj with
  | [e0, e1], _, hj =>
    obtain ⟨u0, hu0, hl0⟩ := hj 0 (by decide)
    obtain rfl := lies_lit hl0
    obtain rfl : e0 = _ := Option.some.inj hu0
    obtain ⟨u1, hu1, hl1⟩ := hj 1 (by decide)
    obtain rfl := lies_lit hl1
    obtain rfl : e1 = _ := Option.some.inj hu1
    exact ⟨x, rfl, hx⟩

set_option maxHeartbeats 1600000 in
set_option maxRecDepth 100000 in
theorem laws_szOccurrence (x : DOccurrence) (L : Int) (hL0 : 0 ≤ L) (hL1 : L ≤ 1048576) (hx : x.ok) (w : World) :
    Calls Try.prog 65 #[.agg #[.int .i64 x.fPos, .string x.fName], .int .i64 L] w fun e w' => e = .returned (.int .i64 (szR L x.sz)) ∧ Below w.heap.size w w' := by
  have HX := Lib.hid hx
  clear hx
  have okName : x.fName.size ≤ 9223372036854775807 := HX.out.2
  have HB0 := Lib.hid ((Below.refl w.heap.size w).alloc (Nat.le_refl _) (.cells #[.int .i64 x.fPos, .string x.fName] 91))
  by_cases h0 : L < ((x.fName.size : Nat) : Int)
  · skip
    have fin := Lib.hid (szR_gt (n := x.sz) (L := L) (by unfold DOccurrence.sz; omega))
    go_enter Try.func65, Try.ntmps65
    go_wp2
    go_ret
    exact ⟨ret_i (by rw [fin.out]), HB0.out⟩
  · skip
    have fin := Lib.hid (szR_le (n := x.sz) (L := L) (by unfold DOccurrence.sz; omega))
    go_enter Try.func65, Try.ntmps65
    go_wp2
    go_ret
    exact ⟨ret_i (by rw [fin.out]; unfold DOccurrence.sz; omega), HB0.out⟩

set_option maxHeartbeats 1600000 in
set_option maxRecDepth 100000 in
theorem laws_toOccurrence (x : DOccurrence) (w : World) :
    Calls Try.prog 68 #[.agg #[.int .i64 x.fPos, .string x.fName]] w fun e w' => e = .returned (.agg #[.int .i64 x.fPos, .string x.fName]) ∧ Below w.heap.size w w' := by
  go_enter Try.func68, Try.ntmps68
  go_wp2
  exact bodyPost_ret (v := .agg #[.int .i64 x.fPos, .string x.fName]) (by simp [results, Try.results68, go_sem]) rfl ⟨rfl, by
    repeat (first | exact Below.refl _ _ | (refine Below.setCell ?_ (by simp <;> omega) _) | (refine Below.alloc ?_ (by simp <;> omega) _))⟩

theorem info_Occurrence : (Try.prog.info? 64).map (fun i => (i.zero, i.size, i.bytes)) = some (some (.agg #[.int .i64 0, .string ⟨#[]⟩]), 2, 24) := by kernel_rfl

set_option maxHeartbeats 1600000 in
set_option maxRecDepth 100000 in
theorem laws_eqOccurrence (x : DOccurrence) (w : World) :
    Calls Try.prog 33 #[.agg #[.int .i64 x.fPos, .string x.fName], .agg #[.int .i64 x.fPos, .string x.fName]] w fun e w' => e = .returned (.bool true) ∧ Below w.heap.size w w' := by
  go_enter Try.func33, Try.ntmps33
  go_wp2
  go_ret
  exact ⟨rfl, by
    repeat (first | exact Below.refl _ _ | (refine Below.setCell ?_ (by simp <;> omega) _) | (refine Below.alloc ?_ (by simp <;> omega) _))⟩

set_option maxHeartbeats 1600000 in
set_option maxRecDepth 100000 in
theorem laws_eqOccurrenceS {lo hi lo2 hi2 : Nat} {a a2 : Option Addr} {cap cap2 : Nat} (l : List DOccurrence) (hsz : lsz DOccurrence.sz l ≤ 1048576) (w : World) (hhi : hi ≤ w.heap.size) (hhi2 : hi2 ≤ w.heap.size) (hs : Sl lo hi w 2 l.length (fun k => DOccurrence.ct (l.getD k default)) a) (hs2 : Sl lo2 hi2 w 2 l.length (fun k => DOccurrence.ct (l.getD k default)) a2) :
    Calls Try.prog 10 #[.slice a l.length cap, .slice a2 l.length cap2] w fun e w' => e = .returned (.bool true) ∧ Below w.heap.size w w' := by
  have HS := Lib.hid hs
  have HS2 := Lib.hid hs2
  have HW := Lib.hid hsz
  have hn : l.length ≤ 1048576 := by unfold lsz at hsz; omega
  clear hs hs2 hsz
  go_enter Try.func10, Try.ntmps10
  go_wp2
  go_loopw [5] (fun i wr => ∃ k : Nat, k ≤ l.length ∧ i = .int .i64 (k : Int) ∧ Below w.heap.size w wr) (fun i _ => l.length - (intOf i).toNat)
  case atStart => exact ⟨0, Nat.zero_le _, rfl, Below.refl _ _⟩
  case round =>
    obtain ⟨k, hk, rfl, hb⟩ := hrel
    have HB := Lib.hid hb
    by_cases hlt : k < l.length
    · have hhr : hi ≤ wr.heap.size := Nat.le_trans hhi hb.size
      have hhr2 : hi2 ≤ wr.heap.size := Nat.le_trans hhi2 hb.size
      obtain ⟨b, off, rfl, _, hhi', hc⟩ := (HS.out.later (hb.mono hhi) (Nat.le_refl _)).at k hlt
      obtain ⟨b2, off2, rfl, _, hhi2', hc2⟩ := (HS2.out.later (hb.mono hhi2) (Nat.le_refl _)).at k hlt
      obtain ⟨hc0_, hc1_⟩ := DOccurrence.open hc
      obtain ⟨hc0q_, hc1q_⟩ := DOccurrence.open hc2
      clear hb hc hc2
      generalize l.getD k default = x at *
      have HT := Lib.hid (fun (w' : World) => laws_eqOccurrence x w')
      skip
      go_wp2_with fail
      go_region_with ((go_at_call 33; refine (HT.out _).mono ?_; rintro e w1 ⟨rfl, hb1⟩))
      all_goals
        go_wp2
        go_roundw
        case rel =>
          refine ⟨k + 1, by omega, by go_num, ?_⟩
          have hb2 : Below wr.heap.size wr w1 := ⟨hb1.os, hb1.tape, hb1.output, hb1.size, hb1.block⟩
          repeat (first | exact HB.out.trans (hb2.mono HB.out.size) | apply Below.drew | refine below_drewN ?_ _)
        case measure => simp [intOf]; omega
    · go_wp2
      go_ret
      exact ⟨rfl, HB.out⟩
end Go.Proofs.Yticchgfhmfjknaa
