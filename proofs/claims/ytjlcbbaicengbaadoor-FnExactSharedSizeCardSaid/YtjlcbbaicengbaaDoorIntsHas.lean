/-
  Whether a number is in a list, in the model and in the program.
-/
import Derived.Test.YtjlcbbaicengbaaDoorTInt
import Derived.Test.YtjlcbbaicengbaaDoorIdx
namespace Go.Proofs.YtjlcbbaicengbaaDoor
open Go.ChangeShapes Go.WideShapes Go.ChangeAt Go.RowKit Go.Deep

def PInt (x : Int) : Int → Bool := fun y => decide (y = x)
def hasI (l : List Int) (x : Int) : Bool := decide (0 ≤ idxI (PInt x) l)
theorem hasI_at {l : List Int} {x : Int} {k : Nat} (hk : k < l.length) (h : l.getD k default = x) (hn : noneBelow (PInt x) l k) : hasI l x = true := by
  unfold hasI; rw [idxI_at (p := PInt x) hk (by unfold PInt; exact decide_eq_true h) hn]; exact decide_eq_true (by omega)
theorem hasI_none {l : List Int} {x : Int} (h : noneBelow (PInt x) l l.length) : hasI l x = false := by
  unfold hasI; rw [idxI_none h]; rfl

set_option maxHeartbeats 1600000 in
set_option maxRecDepth 100000 in
theorem spec_l1HasInt {lo hi cap : Nat} {a : Option Addr} (l : List Int) (hn : l.length ≤ 1048576) (x : Int) (w : World) (hs : Sl lo hi w 1 l.length (fun k => ictI (l.getD k default)) a) :
    Calls Tryd.prog 20 #[.slice a l.length cap, .int .i64 x] w fun e w' => e = .returned (.bool (hasI l x)) ∧ w = w' := by
  have HS := Lib.hid hs
  clear hs
  go_enter Tryd.func20, Tryd.ntmps20
  go_wp2
  go_loop [5] (fun i => ∃ k : Nat, k ≤ l.length ∧ i = .int .i64 (k : Int) ∧ noneBelow (PInt x) l k) (fun i => l.length - (intOf i).toNat)
  case atStart => exact ⟨0, Nat.zero_le _, rfl, noneBelow_zero _ _⟩
  case round =>
    obtain ⟨k, hk, rfl, hno⟩ := hrel
    have HN := Lib.hid hno
    clear hno
    by_cases hlt : k < l.length
    · obtain ⟨b, off, rfl, _, _, hc⟩ := HS.out.at k hlt
      rw [Nat.mul_one] at hc
      have hc0 := open_Int hc
      clear hc
      by_cases h1 : l.getD k default = x
      · have fin := Lib.hid (hasI_at hlt h1 HN.out)
        rw [h1] at hc0
        clear h1
        go_wp2
        go_ret
        exact ⟨ret_b (by rw [fin.out]), rfl⟩
      · have HN2 := Lib.hid (noneBelow_succ HN.out (k := k) (show PInt x (l.getD k default) = false from decide_eq_false h1))
        have e2 : (l.getD k default == x) = false := beq_eq_false_iff_ne.2 h1
        have e3 : (x == l.getD k default) = false := beq_eq_false_iff_ne.2 (Ne.symm h1)
        clear h1
        generalize l.getD k default = z at *
        go_wp2
        go_round
        case rel => exact ⟨k + 1, by omega, by go_num, HN2.out⟩
        case measure => simp [intOf]; omega
    · obtain rfl : k = l.length := by omega
      have fin := Lib.hid (hasI_none HN.out)
      go_wp2
      go_ret
      exact ⟨ret_b (by rw [fin.out]), rfl⟩
end Go.Proofs.YtjlcbbaicengbaaDoor
