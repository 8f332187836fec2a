/-
  l11HasAt, in the model and in the program.
-/
import Derived.Test.YtamilmhnkiepmaaTOccurrence
import Derived.Test.YtamilmhnkiepmaaIdx
import Derived.Lib.Strings
namespace Go.Proofs.Ytamilmhnkiepmaa
open Go.ChangeShapes Go.WideShapes Go.ChangeAt Go.RowKit Go.Deep

theorem toList_inj' {x y : ByteArray} (h : x.toList = y.toList) : x = y := by
  rw [Lib.toList_data, Lib.toList_data] at h
  cases x; cases y
  simp only at h
  rw [ByteArray.mk.injEq]
  exact Array.toList_inj.1 h

def POccurrence (x y : DOccurrence) : Bool := y.fPos == x.fPos && y.fName.toList == x.fName.toList
theorem POccurrence_yes {x y : DOccurrence} (h1 : y.fPos = x.fPos) (h2 : y.fName = x.fName) : POccurrence x y = true := by unfold POccurrence; rw [h1, h2]; simp
theorem POccurrence_no1 {x y : DOccurrence} (h1 : y.fPos ≠ x.fPos) : POccurrence x y = false := by unfold POccurrence; simp [h1]
theorem POccurrence_no2 {x y : DOccurrence} (h1 : y.fName ≠ x.fName) : POccurrence x y = false := by
  unfold POccurrence
  rw [show (y.fName.toList == x.fName.toList) = false from beq_eq_false_iff_ne.2 (fun e => h1 (toList_inj' e)), Bool.and_false]
def indexOccurrence (l : List DOccurrence) (x : DOccurrence) : Int := idxI (POccurrence x) l

/-- Whether the list holds the occurrence. -/
def hasAt (l : List DOccurrence) (x : DOccurrence) : Bool := l.any (POccurrence x)
theorem hasAt_yes {l : List DOccurrence} {x : DOccurrence} {k : Nat} (hk : k < l.length) (h : POccurrence x (l.getD k default) = true) : hasAt l x = true := by
  rw [List.getD_eq_getElem?_getD, List.getElem?_eq_getElem hk] at h
  exact List.any_eq_true.2 ⟨l[k], List.getElem_mem _, h⟩
theorem hasAt_no {l : List DOccurrence} {x : DOccurrence} (h : noneBelow (POccurrence x) l l.length) : hasAt l x = false := by
  unfold hasAt
  rw [List.any_eq_false]
  intro a ha
  obtain ⟨k, hk, rfl⟩ := List.getElem_of_mem ha
  have := h k hk
  rw [List.getD_eq_getElem?_getD, List.getElem?_eq_getElem hk] at this
  simpa using this
theorem hasAt_idx (l : List DOccurrence) (x : DOccurrence) : decide (0 ≤ indexOccurrence l x) = hasAt l x := by
  unfold indexOccurrence hasAt idxI
  cases h : l.findIdx? (POccurrence x) with
  | none =>
    rw [List.findIdx?_eq_none_iff] at h
    have : l.any (POccurrence x) = false := by rw [List.any_eq_false]; intro a ha; simp [h a ha]
    rw [this]; rfl
  | some k =>
    rw [List.findIdx?_eq_some_iff_getElem] at h
    obtain ⟨h1, h2, _⟩ := h
    have : l.any (POccurrence x) = true := List.any_eq_true.2 ⟨l[k], List.getElem_mem _, h2⟩
    rw [this]; simp

set_option maxHeartbeats 1600000 in
set_option maxRecDepth 100000 in
theorem spec_l11HasAt {lo hi : Nat} {a0 : Option Addr} {c0_0 : Nat} (l : List DOccurrence) (hsz : lsz DOccurrence.sz l ≤ 1048576) (x : DOccurrence) (w : World) (hhi : hi ≤ w.heap.size) (hs : Sl lo hi w 2 l.length (fun k => DOccurrence.ct (l.getD k default)) a0) :
    Calls Try.prog 27 #[.slice a0 l.length c0_0, .agg #[.int .i64 x.fPos, .string x.fName]] w fun e w' => e = .returned (.bool (hasAt l x)) ∧ Below w.heap.size w w' := by
  have hn : l.length ≤ 1048576 := by unfold lsz at hsz; omega
  clear hsz
  have HB := Lib.hid ((Below.refl w.heap.size w).alloc (Nat.le_refl _) (.cells #[.int .i64 x.fPos, .string x.fName] 54))
  have HS := Lib.hid (hs.later HB.out hhi)
  clear hs
  go_enter Try.func27, Try.ntmps27
  go_wp2
  go_loopw [5] (fun i wr => ∃ k : Nat, k ≤ l.length ∧ i = .int .i64 (k : Int) ∧ noneBelow (POccurrence x) l k ∧ ∃ n, wr = (w.alloc (.cells #[.int .i64 x.fPos, .string x.fName] 54)).drewN n) (fun i _ => l.length - (intOf i).toNat)
  case atStart => exact ⟨0, Nat.zero_le _, rfl, noneBelow_zero _ _, 0, rfl⟩
  case round =>
    obtain ⟨k, hk, rfl, hno, nd, rfl⟩ := hrel
    have HN := Lib.hid hno
    clear hno
    by_cases hlt : k < l.length
    · obtain ⟨b, off, rfl, _, _, hc⟩ := HS.out.at k hlt
      obtain ⟨hc0, hc1⟩ := DOccurrence.open hc
      clear hc
      by_cases h1 : (l.getD k default).fPos = x.fPos
      · by_cases h2 : (l.getD k default).fName = x.fName
        · have fin := Lib.hid (hasAt_yes hlt (POccurrence_yes h1 h2))
          rw [h1] at hc0
          rw [h2] at hc1
          clear h1 h2
          go_wp2
          go_quiet (fail)
          go_wp2
          go_ret
          exact ⟨ret_b fin.out.symm, below_drewN (below_drewN HB.out _) _⟩
        · have HN2 := Lib.hid (noneBelow_succ HN.out (k := k) (POccurrence_no2 h2))
          rw [h1] at hc0
          have e2 : ((l.getD k default).fName.toList == x.fName.toList) = false := beq_eq_false_iff_ne.2 (fun e => h2 (toList_inj' e))
          have e3 : (x.fName.toList == (l.getD k default).fName.toList) = false := beq_eq_false_iff_ne.2 (fun e => h2 (toList_inj' e).symm)
          clear h1 h2
          generalize (l.getD k default).fName = q at *
          go_wp2
          go_quiet (fail)
          go_wp2
          go_roundw
          case rel => exact ⟨k + 1, by omega, by go_num, HN2.out, _, rfl⟩
          case measure => simp [intOf]; omega
      · have HN2 := Lib.hid (noneBelow_succ HN.out (k := k) (POccurrence_no1 h1))
        have e2 : ((l.getD k default).fPos == x.fPos) = false := beq_eq_false_iff_ne.2 h1
        have e3 : (x.fPos == (l.getD k default).fPos) = false := beq_eq_false_iff_ne.2 (Ne.symm h1)
        clear h1
        generalize (l.getD k default).fPos = z at *
        generalize (l.getD k default).fName = q at *
        go_wp2
        go_quiet (fail)
        go_wp2
        go_roundw
        case rel => exact ⟨k + 1, by omega, by go_num, HN2.out, _, rfl⟩
        case measure => simp [intOf]; omega
    · obtain rfl : k = l.length := by omega
      have fin := Lib.hid (hasAt_no HN.out)
      go_wp2
      go_ret
      exact ⟨ret_b fin.out.symm, below_drewN HB.out _⟩

set_option maxHeartbeats 1600000 in
set_option maxRecDepth 100000 in
theorem Index_occurrence {lo hi : Nat} {a0 : Option Addr} {c0_0 : Nat} (l : List DOccurrence) (hsz : lsz DOccurrence.sz l ≤ 1048576) (x : DOccurrence) (w : World) (hhi : hi ≤ w.heap.size) (hs : Sl lo hi w 2 l.length (fun k => DOccurrence.ct (l.getD k default)) a0) :
    Calls Try.prog 69 #[.slice a0 l.length c0_0, .agg #[.int .i64 x.fPos, .string x.fName]] w fun e w' => e = .returned (.int .i64 (indexOccurrence l x)) ∧ Below w.heap.size w w' := by
  have hn : l.length ≤ 1048576 := by unfold lsz at hsz; omega
  clear hsz
  have HB := Lib.hid ((Below.refl w.heap.size w).alloc (Nat.le_refl _) (.cells #[.int .i64 x.fPos, .string x.fName] 54))
  have HS := Lib.hid (hs.later HB.out hhi)
  clear hs
  go_enter Try.func69, Try.ntmps69
  go_wp2
  go_loopw [8] (fun i wr => ∃ k : Nat, k ≤ l.length ∧ i = .int .i64 (k : Int) ∧ noneBelow (POccurrence x) l k ∧ ∃ n, wr = (w.alloc (.cells #[.int .i64 x.fPos, .string x.fName] 54)).drewN n) (fun i _ => l.length - (intOf i).toNat)
  case atStart => exact ⟨0, Nat.zero_le _, rfl, noneBelow_zero _ _, 0, rfl⟩
  case round =>
    obtain ⟨k, hk, rfl, hno, nd, rfl⟩ := hrel
    have HN := Lib.hid hno
    clear hno
    by_cases hlt : k < l.length
    · obtain ⟨b, off, rfl, _, _, hc⟩ := HS.out.at k hlt
      obtain ⟨hc0, hc1⟩ := DOccurrence.open hc
      clear hc
      by_cases h1 : (l.getD k default).fPos = x.fPos
      · by_cases h2 : (l.getD k default).fName = x.fName
        · have fin := Lib.hid (idxI_at (p := POccurrence x) hlt (POccurrence_yes h1 h2) HN.out)
          rw [h1] at hc0
          rw [h2] at hc1
          clear h1 h2
          go_wp2
          go_quiet (fail)
          go_wp2
          go_ret
          exact ⟨ret_i (by unfold indexOccurrence; rw [fin.out]), below_drewN (below_drewN HB.out _) _⟩
        · have HN2 := Lib.hid (noneBelow_succ HN.out (k := k) (POccurrence_no2 h2))
          rw [h1] at hc0
          have e2 : ((l.getD k default).fName.toList == x.fName.toList) = false := beq_eq_false_iff_ne.2 (fun e => h2 (toList_inj' e))
          have e3 : (x.fName.toList == (l.getD k default).fName.toList) = false := beq_eq_false_iff_ne.2 (fun e => h2 (toList_inj' e).symm)
          clear h1 h2
          generalize (l.getD k default).fName = q at *
          go_wp2
          go_quiet (fail)
          go_wp2
          go_roundw
          case rel => exact ⟨k + 1, by omega, by go_num, HN2.out, _, rfl⟩
          case measure => simp [intOf]; omega
      · have HN2 := Lib.hid (noneBelow_succ HN.out (k := k) (POccurrence_no1 h1))
        have e2 : ((l.getD k default).fPos == x.fPos) = false := beq_eq_false_iff_ne.2 h1
        have e3 : (x.fPos == (l.getD k default).fPos) = false := beq_eq_false_iff_ne.2 (Ne.symm h1)
        clear h1
        generalize (l.getD k default).fPos = z at *
        generalize (l.getD k default).fName = q at *
        go_wp2
        go_quiet (fail)
        go_wp2
        go_roundw
        case rel => exact ⟨k + 1, by omega, by go_num, HN2.out, _, rfl⟩
        case measure => simp [intOf]; omega
    · obtain rfl : k = l.length := by omega
      have fin := Lib.hid (idxI_none (p := POccurrence x) HN.out)
      go_wp2
      go_ret
      exact ⟨ret_i (by unfold indexOccurrence; rw [fin.out]), below_drewN HB.out _⟩

set_option maxHeartbeats 1600000 in
set_option maxRecDepth 100000 in
theorem Contains_occurrence {lo hi : Nat} {a0 : Option Addr} {c0_0 : Nat} (l : List DOccurrence) (hsz : lsz DOccurrence.sz l ≤ 1048576) (x : DOccurrence) (w : World) (hhi : hi ≤ w.heap.size) (hs : Sl lo hi w 2 l.length (fun k => DOccurrence.ct (l.getD k default)) a0) :
    Calls Try.prog 54 #[.slice a0 l.length c0_0, .agg #[.int .i64 x.fPos, .string x.fName]] w fun e w' => e = .returned (.bool (hasAt l x)) ∧ Below w.heap.size w w' := by
  have HB := Lib.hid ((Below.refl w.heap.size w).alloc (Nat.le_refl _) (.cells #[.int .i64 x.fPos, .string x.fName] 54))
  have HI := Lib.hid (Index_occurrence (c0_0 := c0_0) l hsz x _ (Nat.le_trans hhi HB.out.size) (hs.later HB.out hhi))
  have HD := Lib.hid (hasAt_idx l x)
  clear hs hsz
  generalize indexOccurrence l x = q at *
  generalize hasAt l x = r at *
  go_enter Try.func54, Try.ntmps54
  go_wp2_with fail
  refine HI.out.mono ?_
  rintro e w1 ⟨rfl, hb1⟩
  have HB1 := Lib.hid (HB.out.trans (hb1.mono HB.out.size))
  clear hb1
  go_wp2
  go_ret
  exact ⟨ret_b HD.out, HB1.out⟩
end Go.Proofs.Ytamilmhnkiepmaa
