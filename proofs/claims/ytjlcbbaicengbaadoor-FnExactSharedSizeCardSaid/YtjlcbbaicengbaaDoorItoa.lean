/-
  The program's FormatInt (package impl): strconv.Itoa, by the shelf's contract, in any world that holds the table of powers of ten.
-/
import Derived.Test.YtjlcbbaicengbaaDoorKit
import Derived.Test.YtjlcbbaicengbaaDoorShelfItoa
import Derived.WalkSpells
import Derived.WalkSmall
import Derived.MakeChecks
import Derived.Stop.LaidErr
namespace Go.Proofs.YtjlcbbaicengbaaDoor
open Go.ChangeShapes Go.WideShapes Go.ChangeAt Go.RowKit
open Go.Lib

/-- The table of powers of ten holds what its initialiser lays. -/
def Pow (W : World) : Prop := TabIs Tryd.prog W "internal/strconv.uint64pow10" .u64 pow10Tab
theorem gPow : Tryd.prog.globalNamed "internal/strconv.uint64pow10" = some 0 := by kernel_rfl
theorem gPowType : (Tryd.prog.globals[0]?).map (·.type) = some 85 := by kernel_rfl
theorem pow_lt {W : World} (h : Pow W) : 0 < W.heap.size := by
  unfold Pow TabIs World.var? at h
  rw [gPow, Option.bind_some] at h
  rcases Nat.lt_or_ge 0 W.heap.size with h' | h'
  · exact h'
  · rw [Array.getElem?_eq_none h'] at h; simp at h
theorem Pow.below {W W' : World} (h : Pow W) (hb : Below W.heap.size W W') : Pow W' := var?_below hb gPow (pow_lt h) h
theorem pow_of {rest : List (String × DataW Unit)} {W : World} (h : laidMet Tryd.prog (("internal/strconv.uint64pow10", tabData .u64 pow10Tab) :: rest) W) : Pow W :=
  tabIs_of_head gPow gPowType Tryd.underlying85 Tryd.underlying75 (by kernel_rfl) (by kernel_rfl) h

theorem below_grow (w : World) (k : Nat) (os : Array Obj) : Below w.heap.size w (Sort.grow (w.drewN k) os) := by
  refine (below_drewN (Below.refl _ w) k).trans ⟨rfl, rfl, rfl, ?_, fun i hi => Sort.heap_grow_old _ _ ?_⟩
  · rw [Sort.size_grow]; omega
  · have e : (w.drewN k).heap = w.heap := rfl
    rw [e]; exact hi

/-- FormatInt of package impl yields the decimal numeral, for every int. -/
theorem impl_FormatInt (n : Int) (h0 : -9223372036854775808 ≤ n) (h1 : n ≤ 9223372036854775807) (w : World) (ht : Pow w) :
    Calls Tryd.prog 25 #[.int .i64 n] w fun e w' => e = .returned (.string ⟨(itoa n).toArray⟩) ∧ Below w.heap.size w w' := by
  have hI : Calls Tryd.prog 33 #[.int .i64 n] w fun e w' => e = .returned (.string ⟨(itoa n).toArray⟩) ∧ Below w.heap.size w w' :=
    (Tryd.strconv_Itoa n h0 h1 w ht).mono fun e w' ⟨he, k, os, hw⟩ => ⟨he, by rw [hw]; exact below_grow w k os⟩
  go_enter Tryd.func25, Tryd.ntmps25
  go_wp2_with (go_at_call 33; refine hI.mono ?_; rintro e w' ⟨rfl, hb⟩)
  go_ret
  exact ⟨rfl, hb⟩
end Go.Proofs.YtjlcbbaicengbaaDoor
