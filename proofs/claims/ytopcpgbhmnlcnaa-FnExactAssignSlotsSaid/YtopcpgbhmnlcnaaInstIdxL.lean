/-
  InstanceIndex, in the model and in the program.
-/
import Derived.Test.YtopcpgbhmnlcnaaTInstance
import Derived.Test.YtopcpgbhmnlcnaaIdx
import Derived.Lib.Strings
namespace Go.Proofs.Ytopcpgbhmnlcnaa
open Go.ChangeShapes Go.WideShapes Go.ChangeAt Go.RowKit Go.Deep

theorem toList_injI {x y : ByteArray} (h : x.toList = y.toList) : x = y := by
  rw [Lib.toList_data, Lib.toList_data] at h
  cases x; cases y
  simp only at h
  rw [ByteArray.mk.injEq]
  exact Array.toList_inj.1 h

def PInstance (x y : DInstance) : Bool := y.fNode == x.fNode && y.fName.toList == x.fName.toList
theorem PInstance_yes {x y : DInstance} (h1 : y.fNode = x.fNode) (h2 : y.fName = x.fName) : PInstance x y = true := by unfold PInstance; rw [h1, h2]; simp
theorem PInstance_no1 {x y : DInstance} (h1 : y.fNode ≠ x.fNode) : PInstance x y = false := by unfold PInstance; simp [h1]
theorem PInstance_no2 {x y : DInstance} (h1 : y.fName ≠ x.fName) : PInstance x y = false := by
  unfold PInstance
  rw [show (y.fName.toList == x.fName.toList) = false from beq_eq_false_iff_ne.2 (fun e => h1 (toList_injI e)), Bool.and_false]
def indexInstance (l : List DInstance) (x : DInstance) : Int := idxI (PInstance x) l

set_option maxHeartbeats 1600000 in
set_option maxRecDepth 100000 in
theorem spec_InstanceIndex {lo hi : Nat} {a0 : Option Addr} {c0_0 : Nat} (l : List DInstance) (hn : l.length ≤ 1048576) (x : DInstance) (w : World) (hhi : hi ≤ w.heap.size) (hs : Sl lo hi w 2 l.length (fun k => DInstance.ct (l.getD k default)) a0) :
    Calls Try.prog 39 #[.slice a0 l.length c0_0, .agg #[.int .i64 x.fNode, .string x.fName]] w fun e w' => e = .returned (.int .i64 (indexInstance l x)) ∧ Below w.heap.size w w' := by
  have HB := Lib.hid ((Below.refl w.heap.size w).alloc (Nat.le_refl _) (.cells #[.int .i64 x.fNode, .string x.fName] 51))
  have HS := Lib.hid (hs.later HB.out hhi)
  clear hs
  go_enter Try.func39, Try.ntmps39
  go_wp2
  go_loopw [5] (fun i wr => ∃ k : Nat, k ≤ l.length ∧ i = .int .i64 (k : Int) ∧ noneBelow (PInstance x) l k ∧ ∃ n, wr = (w.alloc (.cells #[.int .i64 x.fNode, .string x.fName] 51)).drewN n) (fun i _ => l.length - (intOf i).toNat)
  case atStart => exact ⟨0, Nat.zero_le _, rfl, noneBelow_zero _ _, 0, rfl⟩
  case round =>
    obtain ⟨k, hk, rfl, hno, nd, rfl⟩ := hrel
    have HN := Lib.hid hno
    clear hno
    by_cases hlt : k < l.length
    · obtain ⟨b, off, rfl, _, _, hc⟩ := HS.out.at k hlt
      obtain ⟨hc0, hc1⟩ := DInstance.open hc
      clear hc
      by_cases h1 : (l.getD k default).fNode = x.fNode
      · by_cases h2 : (l.getD k default).fName = x.fName
        · have fin := Lib.hid (idxI_at (p := PInstance x) hlt (PInstance_yes h1 h2) HN.out)
          rw [h1] at hc0
          rw [h2] at hc1
          clear h1 h2
          go_wp2
          go_quiet (fail)
          go_wp2
          go_ret
          exact ⟨ret_i (by unfold indexInstance; rw [fin.out]), below_drewN (below_drewN HB.out _) _⟩
        · have HN2 := Lib.hid (noneBelow_succ HN.out (k := k) (PInstance_no2 h2))
          rw [h1] at hc0
          have e2 : ((l.getD k default).fName.toList == x.fName.toList) = false := beq_eq_false_iff_ne.2 (fun e => h2 (toList_injI e))
          have e3 : (x.fName.toList == (l.getD k default).fName.toList) = false := beq_eq_false_iff_ne.2 (fun e => h2 (toList_injI e).symm)
          clear h1 h2
          generalize (l.getD k default).fName = q at *
          go_wp2
          go_quiet (fail)
          go_wp2
          go_roundw
          case rel => exact ⟨k + 1, by omega, by go_num, HN2.out, _, rfl⟩
          case measure => simp [intOf]; omega
      · have HN2 := Lib.hid (noneBelow_succ HN.out (k := k) (PInstance_no1 h1))
        have e2 : ((l.getD k default).fNode == x.fNode) = false := beq_eq_false_iff_ne.2 h1
        have e3 : (x.fNode == (l.getD k default).fNode) = false := beq_eq_false_iff_ne.2 (Ne.symm h1)
        clear h1
        generalize (l.getD k default).fNode = z at *
        generalize (l.getD k default).fName = q at *
        go_wp2
        go_quiet (fail)
        go_wp2
        go_roundw
        case rel => exact ⟨k + 1, by omega, by go_num, HN2.out, _, rfl⟩
        case measure => simp [intOf]; omega
    · obtain rfl : k = l.length := by omega
      have fin := Lib.hid (idxI_none (p := PInstance x) HN.out)
      go_wp2
      go_ret
      exact ⟨ret_i (by unfold indexInstance; rw [fin.out]), below_drewN HB.out _⟩
end Go.Proofs.Ytopcpgbhmnlcnaa
