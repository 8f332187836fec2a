/-
  The program's mustParse, ParseNumber and ParseInt (package impl): strconv.Atoi by the shelf's contract, the numeral compared, a panic that a deferred literal recovers.
-/
import Derived.Test.YtgpmmlbinmdfmaaGreatDoorItoa
import Derived.Test.YtgpmmlbinmdfmaaGreatDoorNum
import Derived.Test.YtgpmmlbinmdfmaaGreatDoorShelfAtoi
import Derived.Lib.AtoiErrMem
import Derived.Defers
import Derived.Recover
import Derived.WalkLawsBesides
import Derived.Lib.Hide
import Derived.Deep.QuietTactic
import Derived.BigQuiet
namespace Go.Proofs.YtgpmmlbinmdfmaaGreatDoor
open Go.ChangeShapes Go.WideShapes Go.ChangeAt Go.RowKit
open Go.Lib Num

/-- strconv.Atoi at a string that spells an int. -/
theorem atoi_ok (s : ByteArray) (hs : s.size ≤ 140737488351232) (v : Int) (h : atoiAll s.data.toList = .ok v) (w : World) :
    Calls Tryz.prog 74 #[.string s] w fun e w' => e = .returned (.tuple #[.int .i64 v, .nilIface]) ∧ Below w.heap.size w w' :=
  (Any.strconv_Atoi_ok Tryz.laysC172 s (by omega) v h w).mono fun e w' ⟨he, hw⟩ => ⟨he, by
    rcases hw with rfl | ⟨t, rfl⟩
    · exact Below.refl _ _
    · exact bytesWorld_below _ _ _⟩

/-- .. and at one that does not: an error, and the number 0 or the nearest int. -/
theorem atoi_no (s : ByteArray) (hs : s.size ≤ 140737488351232) (h : ∀ v, atoiAll s.data.toList ≠ .ok v) (w : World) {t1 t2 : TypeId} {p1 p2 : Value}
    (v1 : w.var? Tryz.prog "strconv.ErrSyntax" = some #[.iface t1 p1]) (v2 : w.var? Tryz.prog "strconv.ErrRange" = some #[.iface t2 p2]) :
    Calls Tryz.prog 74 #[.string s] w fun e w' => ∃ (n : Int) (a : Addr), e = .returned (.tuple #[.int .i64 n, .iface 103 (.pointer (some a))]) ∧ Below w.heap.size w w' := by
  cases hc : atoiAll s.data.toList with
  | ok v => exact absurd hc (h v)
  | _ =>
    first
      | exact (Any.strconv_Atoi_syntax_var Tryz.laysC172 s (by omega) hc t1 p1 w v1).mono fun e w' ⟨N, he, _, _, hb⟩ => ⟨_, _, he, hb⟩
      | exact (Any.strconv_Atoi_range_var Tryz.laysC172 s (by omega) hc t2 p2 w v2).mono fun e w' ⟨N, he, _, _, hb⟩ => ⟨_, _, he, hb⟩

/-- What the walk needs of a world: the library's table and its two errors. -/
structure Lib3 (w : World) : Prop where
  pow : Pow w
  syn : ∃ (t : TypeId) (p : Value), w.var? Tryz.prog "strconv.ErrSyntax" = some #[.iface t p]
  rng : ∃ (t : TypeId) (p : Value), w.var? Tryz.prog "strconv.ErrRange" = some #[.iface t p]

theorem var_lt {W : World} {g : Nat} {n : String} {cs : Array Value} (hg : Tryz.prog.globalNamed n = some g) (h : W.var? Tryz.prog n = some cs) : g < W.heap.size := by
  unfold World.var? at h
  rw [hg, Option.bind_some] at h
  rcases Nat.lt_or_ge g W.heap.size with h' | h'
  · exact h'
  · rw [Array.getElem?_eq_none h'] at h; simp at h
theorem gSyn : Tryz.prog.globalNamed "strconv.ErrSyntax" = some 4 := by kernel_rfl
theorem gRng : Tryz.prog.globalNamed "strconv.ErrRange" = some 5 := by kernel_rfl
theorem Lib3.below {W W' : World} (h : Lib3 W) (hb : Below W.heap.size W W') : Lib3 W' :=
  ⟨h.pow.below hb, h.syn.imp fun _ ⟨p, hp⟩ => ⟨p, var?_below hb gSyn (var_lt gSyn hp) hp⟩, h.rng.imp fun _ ⟨p, hp⟩ => ⟨p, var?_below hb gRng (var_lt gRng hp) hp⟩⟩

set_option maxHeartbeats 400000 in
set_option maxRecDepth 100000 in
theorem must_ok (s : ByteArray) (low high v : Int) (hs : s.size ≤ 140737488351232) (h : atoiAll s.data.toList = .ok v) (hlo : low ≤ v) (hhi : v ≤ high) (hv0 : -9223372036854775808 ≤ v) (hv1 : v ≤ 9223372036854775807) (hq : (itoa v == s.toList) = true) (w : World) (ht : Lib3 w) :
    Calls Tryz.prog 56 #[.string s, .int .i64 low, .int .i64 high] w fun e w' => e = .returned (.int .i64 v) ∧ Below w.heap.size w w' := by
  have HA := Lib.hid (atoi_ok s hs v h w)
  have HT := Lib.hid ht
  clear h ht
  go_enter Tryz.func56, Tryz.ntmps56
  go_wp2_with (go_at_call 74; refine HA.out.mono ?_; rintro e w1 ⟨rfl, hb1⟩)
  refine (impl_FormatInt v hv0 hv1 w1 (HT.out.below hb1).pow).mono ?_
  rintro e w2 ⟨rfl, hb2⟩
  go_wp2
  go_ret
  exact ⟨rfl, hb1.trans (hb2.mono hb1.size)⟩

/-- What mustParse's panic carries. -/
def Bad (e : Ending) : Prop := ∃ pv : Value, e = .panicked [{ v := .iface 9 pv, recovered := false }]

set_option maxHeartbeats 400000 in
set_option maxRecDepth 100000 in
theorem must_text (s : ByteArray) (low high v : Int) (hs : s.size ≤ 140737488351232) (h : atoiAll s.data.toList = .ok v) (hlo : low ≤ v) (hhi : v ≤ high) (hv0 : -9223372036854775808 ≤ v) (hv1 : v ≤ 9223372036854775807) (hq : (itoa v == s.toList) = false) (w : World) (ht : Lib3 w) :
    Calls Tryz.prog 56 #[.string s, .int .i64 low, .int .i64 high] w fun e w' => Bad e ∧ Below w.heap.size w w' := by
  have HA := Lib.hid (atoi_ok s hs v h w)
  have HT := Lib.hid ht
  clear h ht
  go_enter Tryz.func56, Tryz.ntmps56
  go_wp2_with (go_at_call 74; refine HA.out.mono ?_; rintro e w1 ⟨rfl, hb1⟩)
  refine (impl_FormatInt v hv0 hv1 w1 (HT.out.below hb1).pow).mono ?_
  rintro e w2 ⟨rfl, hb2⟩
  go_wp2
  exact ⟨rfl, ⟨_, rfl⟩, hb1.trans (hb2.mono hb1.size)⟩

set_option maxHeartbeats 400000 in
set_option maxRecDepth 100000 in
theorem must_low (s : ByteArray) (low high v : Int) (hs : s.size ≤ 140737488351232) (h : atoiAll s.data.toList = .ok v) (hlo : v < low ∨ high < v) (w : World) :
    Calls Tryz.prog 56 #[.string s, .int .i64 low, .int .i64 high] w fun e w' => Bad e ∧ Below w.heap.size w w' := by
  have HA := Lib.hid (atoi_ok s hs v h w)
  clear h
  go_enter Tryz.func56, Tryz.ntmps56
  go_wp2_with (go_at_call 74; refine HA.out.mono ?_; rintro e w1 ⟨rfl, hb1⟩)
  all_goals exact ⟨rfl, ⟨_, rfl⟩, hb1⟩

set_option maxHeartbeats 400000 in
set_option maxRecDepth 100000 in
theorem must_err (s : ByteArray) (low high : Int) (hs : s.size ≤ 140737488351232) (h : ∀ v, atoiAll s.data.toList ≠ .ok v) (w : World) (ht : Lib3 w) :
    Calls Tryz.prog 56 #[.string s, .int .i64 low, .int .i64 high] w fun e w' => Bad e ∧ Below w.heap.size w w' := by
  obtain ⟨t1, p1, v1⟩ := ht.syn
  obtain ⟨t2, p2, v2⟩ := ht.rng
  have HA := Lib.hid (atoi_no s hs h w v1 v2)
  clear h ht v1 v2
  go_enter Tryz.func56, Tryz.ntmps56
  go_wp2_with (go_at_call 74; refine HA.out.mono ?_; rintro e w1 ⟨n, a, rfl, hb1⟩)
  exact ⟨rfl, ⟨_, rfl⟩, hb1⟩
end Go.Proofs.YtgpmmlbinmdfmaaGreatDoor
