/-
  CountSteps, in the model and in the program.
-/
import Derived.Test.YthmgjlejejgecaaTRulePlan
namespace Go.Proofs.Ythmgjlejejgecaa
open Go.ChangeShapes Go.WideShapes Go.ChangeAt Go.RowKit Go.Deep

def oneStep (kind : Int) (s : DStep) : Nat := if s.fKind = kind then 1 else 0
def stepCnt (kind : Int) (p : DRulePlan) : Nat := psz (oneStep kind) p.fSteps p.fSteps.length
/-- The number of steps of a kind. -/
def countSteps (plans : List DRulePlan) (kind : Int) : Int := (psz (stepCnt kind) plans plans.length : Nat)
theorem one_yes {kind : Int} {s : DStep} (h : s.fKind = kind) : oneStep kind s = 1 := if_pos h
theorem one_no {kind : Int} {s : DStep} (h : s.fKind ≠ kind) : oneStep kind s = 0 := if_neg h
theorem psz_mono {α : Type} {f g : α → Nat} (h : ∀ x, f x ≤ g x) (l : List α) (k : Nat) : psz f l k ≤ psz g l k := by
  unfold psz
  induction l.take k with
  | nil => exact Nat.le_refl _
  | cons a l ih => simp only [List.map_cons, List.sum_cons]; have := h a; omega
theorem psz_one {kind : Int} (l : List DStep) (k : Nat) (hk : k ≤ l.length) : psz (oneStep kind) l k ≤ k := by
  have h : ∀ m : List DStep, (m.map (oneStep kind)).sum ≤ m.length := by
    intro m
    induction m with
    | nil => exact Nat.le_refl _
    | cons a l ih => simp only [List.map_cons, List.sum_cons, List.length_cons]; have : oneStep kind a ≤ 1 := by unfold oneStep; split <;> omega
                     omega
  have := h (l.take k)
  unfold psz
  rw [List.length_take] at this
  omega
theorem stepCnt_le (kind : Int) (p : DRulePlan) : stepCnt kind p ≤ p.sz := by
  unfold stepCnt DRulePlan.sz lsz
  have := psz_one (kind := kind) p.fSteps p.fSteps.length (Nat.le_refl _)
  omega
theorem cnt_le (kind : Int) (l : List DRulePlan) (k : Nat) : psz (stepCnt kind) l k ≤ lsz DRulePlan.sz l := by
  have h1 := psz_mono (stepCnt_le kind) l k
  have h2 := psz_le DRulePlan.sz l k
  omega

set_option maxHeartbeats 1600000 in
set_option maxRecDepth 100000 in
theorem spec_CountSteps {lo hi c0_0 : Nat} {a0 : Option Addr} (l : List DRulePlan) (_ : okL DRulePlan.ok l) (hsz : lsz DRulePlan.sz l ≤ 1048576) (x : Int) (_ : okI x) (w : World) (hhi : hi ≤ w.heap.size) (hs : Sl lo hi w 2 l.length (fun k => DRulePlan.ct (l.getD k default)) a0) :
    Calls Try.prog 27 #[.slice a0 l.length c0_0, .int .i64 x] w fun e w' => e = .returned (.int .i64 (countSteps l x)) ∧ Below w.heap.size w w' := by
  have hn : l.length ≤ 1048576 := by unfold lsz at hsz; omega
  have HSZ := Lib.hid hsz
  have HS := Lib.hid hs
  clear hs hsz
  go_enter Try.func27, Try.ntmps27
  go_wp2
  go_loopw [5, 6] (fun q i wr => ∃ k : Nat, k ≤ l.length ∧ i = .int .i64 (k : Int) ∧ q = .int .i64 ((psz (stepCnt x) l k : Nat) : Int) ∧ Below w.heap.size w wr) (fun _ i _ => l.length - (intOf i).toNat)
  case atStart => exact ⟨0, Nat.zero_le _, rfl, by rw [psz_zero]; rfl, Below.refl _ _⟩
  case round =>
    obtain ⟨k, hk, rfl, rfl, hbl⟩ := hrel
    have HB := Lib.hid hbl
    by_cases hlt : k < l.length
    · obtain ⟨b, off, rfl, _, _, hc⟩ := (HS.out.later (hbl.mono hhi) (Nat.le_refl _)).at k hlt
      obtain ⟨a1, c1, hc0, hc1, hs1⟩ := DRulePlan.open hc
      have hS := cnt_le x l k
      have HSU := Lib.hid (psz_succ (stepCnt x) l k hlt)
      have hm : (l.getD k default).fSteps.length ≤ 1048576 := by
        have h1 := szle_at (f := DRulePlan.sz) l k hlt
        have h3 : (l.getD k default).fSteps.length ≤ DRulePlan.sz (l.getD k default) := by unfold DRulePlan.sz lsz; omega
        exact Nat.le_trans h3 (Nat.le_trans h1 HSZ.out)
      have hS2 : psz (stepCnt x) l k ≤ 1048576 := Nat.le_trans hS HSZ.out
      have HD := Lib.hid (show stepCnt x (l.getD k default) = psz (oneStep x) (l.getD k default).fSteps (l.getD k default).fSteps.length from rfl)
      have HS1 := Lib.hid hs1
      clear hc hbl hS hs1
      generalize l.getD k default = p at *
      generalize psz (stepCnt x) l k = S at *
      go_wp2
      go_loopw [5, 7] (fun q j wi => ∃ t : Nat, t ≤ p.fSteps.length ∧ j = .int .i64 (t : Int) ∧ q = .int .i64 ((S + psz (oneStep x) p.fSteps t : Nat) : Int) ∧ Below wr.heap.size wr wi) (fun _ j _ => p.fSteps.length - (intOf j).toNat)
      case atStart => exact ⟨0, Nat.zero_le _, rfl, by rw [psz_zero]; rfl, Below.refl _ _⟩
      case round =>
        obtain ⟨t, ht, rfl, rfl, hbi⟩ := hrel
        have HBI := Lib.hid hbi
        by_cases htl : t < p.fSteps.length
        · obtain ⟨b2, off2, rfl, _, hb2, hd⟩ := (HS1.out.later hbi (Nat.le_trans hhi HB.out.size)).at t htl
          obtain ⟨hd0, hd1, hd2, hd3⟩ := DStep.open hd
          have HSU2 := Lib.hid (psz_succ (oneStep x) p.fSteps t htl)
          have hT := psz_one (kind := x) p.fSteps t ht
          have hc1' := (hbi.cell (p := ⟨b, off + k * 2 + 1, none⟩) (cell_block_lt hc1)).trans hc1
          clear hd hbi
          by_cases he : (p.fSteps.getD t default).fKind = x
          · have HO := Lib.hid (one_yes he)
            rw [he] at hd0
            clear he hd1 hd2 hd3
            generalize psz (oneStep x) p.fSteps t = T at *
            go_wp2
            go_roundw
            case rel => exact ⟨t + 1, by omega, by go_num, by rw [HSU2.out, HO.out]; go_num, HBI.out⟩
            case measure => simp [intOf]; omega
          · have HO := Lib.hid (one_no he)
            have e2 : ((p.fSteps.getD t default).fKind == x) = false := beq_eq_false_iff_ne.2 he
            clear he hd1 hd2 hd3
            generalize psz (oneStep x) p.fSteps t = T at *
            generalize (p.fSteps.getD t default).fKind = z at *
            go_wp2
            go_roundw
            case rel => exact ⟨t + 1, by omega, by go_num, by rw [HSU2.out, HO.out]; rfl, HBI.out⟩
            case measure => simp [intOf]; omega
        · obtain rfl : t = p.fSteps.length := by omega
          have hc1' := (hbi.cell (p := ⟨b, off + k * 2 + 1, none⟩) (cell_block_lt hc1)).trans hc1
          clear hbi
          generalize psz (oneStep x) p.fSteps p.fSteps.length = T at *
          go_wp2
          go_roundw
          case rel => exact ⟨k + 1, by omega, by go_num, by rw [HSU.out, HD.out], HB.out.trans (HBI.out.mono HB.out.size)⟩
          case measure => simp [intOf]; omega
    · obtain rfl : k = l.length := by omega
      have fin := Lib.hid (show countSteps l x = (psz (stepCnt x) l l.length : Nat) from rfl)
      generalize psz (stepCnt x) l l.length = S at *
      go_wp2
      go_ret
      exact ⟨ret_i (by rw [fin.out]), HB.out⟩

set_option maxHeartbeats 1600000 in
set_option maxRecDepth 100000 in
theorem impl_CountSteps {lo hi c0_0 : Nat} {a0 : Option Addr} (l : List DRulePlan) (_ : okL DRulePlan.ok l) (hsz : lsz DRulePlan.sz l ≤ 1048576) (x : Int) (_ : okI x) (w : World) (hhi : hi ≤ w.heap.size) (hs : Sl lo hi w 2 l.length (fun k => DRulePlan.ct (l.getD k default)) a0) :
    Calls Try.prog 29 #[.slice a0 l.length c0_0, .int .i64 x] w fun e w' => e = .returned (.int .i64 (countSteps l x)) ∧ Below w.heap.size w w' := by
  have hn : l.length ≤ 1048576 := by unfold lsz at hsz; omega
  have HSZ := Lib.hid hsz
  have HS := Lib.hid hs
  clear hs hsz
  go_enter Try.func29, Try.ntmps29
  go_wp2
  go_loopw [5, 12] (fun q i wr => ∃ k : Nat, k ≤ l.length ∧ i = .int .i64 (k : Int) ∧ q = .int .i64 ((psz (stepCnt x) l k : Nat) : Int) ∧ Below w.heap.size w wr) (fun _ i _ => l.length - (intOf i).toNat)
  case atStart => exact ⟨0, Nat.zero_le _, rfl, by rw [psz_zero]; rfl, Below.refl _ _⟩
  case round =>
    obtain ⟨k, hk, rfl, rfl, hbl⟩ := hrel
    have HB := Lib.hid hbl
    by_cases hlt : k < l.length
    · obtain ⟨b, off, rfl, _, _, hc⟩ := (HS.out.later (hbl.mono hhi) (Nat.le_refl _)).at k hlt
      obtain ⟨a1, c1, hc0, hc1, hs1⟩ := DRulePlan.open hc
      have hS := cnt_le x l k
      have HSU := Lib.hid (psz_succ (stepCnt x) l k hlt)
      have hm : (l.getD k default).fSteps.length ≤ 1048576 := by
        have h1 := szle_at (f := DRulePlan.sz) l k hlt
        have h3 : (l.getD k default).fSteps.length ≤ DRulePlan.sz (l.getD k default) := by unfold DRulePlan.sz lsz; omega
        exact Nat.le_trans h3 (Nat.le_trans h1 HSZ.out)
      have hS2 : psz (stepCnt x) l k ≤ 1048576 := Nat.le_trans hS HSZ.out
      have HD := Lib.hid (show stepCnt x (l.getD k default) = psz (oneStep x) (l.getD k default).fSteps (l.getD k default).fSteps.length from rfl)
      have HS1 := Lib.hid hs1
      clear hc hbl hS hs1
      generalize l.getD k default = p at *
      generalize psz (stepCnt x) l k = S at *
      go_wp2
      go_loopw [5, 19] (fun q j wi => ∃ t : Nat, t ≤ p.fSteps.length ∧ j = .int .i64 (t : Int) ∧ q = .int .i64 ((S + psz (oneStep x) p.fSteps t : Nat) : Int) ∧ Below wr.heap.size wr wi) (fun _ j _ => p.fSteps.length - (intOf j).toNat)
      case atStart => exact ⟨0, Nat.zero_le _, rfl, by rw [psz_zero]; rfl, by repeat (first | (with_reducible exact Below.refl _ _) | (refine Below.alloc ?_ (by simp <;> omega) _))⟩
      case round =>
        obtain ⟨t, ht, rfl, rfl, hbi⟩ := hrel
        have HBI := Lib.hid hbi
        by_cases htl : t < p.fSteps.length
        · obtain ⟨b2, off2, rfl, _, hb2, hd⟩ := (HS1.out.later hbi (Nat.le_trans hhi HB.out.size)).at t htl
          obtain ⟨hd0, hd1, hd2, hd3⟩ := DStep.open hd
          have HSU2 := Lib.hid (psz_succ (oneStep x) p.fSteps t htl)
          have hT := psz_one (kind := x) p.fSteps t ht
          clear hd hbi
          by_cases he : (p.fSteps.getD t default).fKind = x
          · have HO := Lib.hid (one_yes he)
            rw [he] at hd0
            clear he
            generalize psz (oneStep x) p.fSteps t = T at *
            generalize (p.fSteps.getD t default).fPos = z1 at *
            generalize (p.fSteps.getD t default).fVisit = z2 at *
            generalize (p.fSteps.getD t default).fName = z3 at *
            go_wp2
            go_roundw
            case rel => exact ⟨t + 1, by omega, by go_num, by rw [HSU2.out, HO.out]; go_num, by repeat (first | (with_reducible exact HBI.out) | (refine Below.alloc ?_ (by have := HBI.out.size; simp <;> omega) _))⟩
            case measure => simp [intOf]; omega
          · have HO := Lib.hid (one_no he)
            have e2 : ((p.fSteps.getD t default).fKind == x) = false := beq_eq_false_iff_ne.2 he
            clear he
            generalize psz (oneStep x) p.fSteps t = T at *
            generalize (p.fSteps.getD t default).fPos = z1 at *
            generalize (p.fSteps.getD t default).fVisit = z2 at *
            generalize (p.fSteps.getD t default).fName = z3 at *
            generalize (p.fSteps.getD t default).fKind = z at *
            go_wp2
            go_roundw
            case rel => exact ⟨t + 1, by omega, by go_num, by rw [HSU2.out, HO.out]; rfl, by repeat (first | (with_reducible exact HBI.out) | (refine Below.alloc ?_ (by have := HBI.out.size; simp <;> omega) _))⟩
            case measure => simp [intOf]; omega
        · obtain rfl : t = p.fSteps.length := by omega
          clear hbi
          generalize psz (oneStep x) p.fSteps p.fSteps.length = T at *
          go_wp2
          go_roundw
          case rel => exact ⟨k + 1, by omega, by go_num, by rw [HSU.out, HD.out], HB.out.trans (HBI.out.mono HB.out.size)⟩
          case measure => simp [intOf]; omega
    · obtain rfl : k = l.length := by omega
      have fin := Lib.hid (show countSteps l x = (psz (stepCnt x) l l.length : Nat) from rfl)
      generalize psz (stepCnt x) l l.length = S at *
      go_wp2
      go_ret
      exact ⟨ret_i (by rw [fin.out]), HB.out⟩
end Go.Proofs.Ythmgjlejejgecaa
