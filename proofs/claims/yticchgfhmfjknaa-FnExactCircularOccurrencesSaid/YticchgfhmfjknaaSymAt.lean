/-
  SymbolAt, in the model and in the program.
-/
import Derived.Test.YticchgfhmfjknaaTRule
import Derived.Test.YticchgfhmfjknaaInR
namespace Go.Proofs.Yticchgfhmfjknaa
open Go.ChangeShapes Go.WideShapes Go.ChangeAt Go.RowKit Go.Deep

/-- The symbol at a position of a rule. -/
def symbolAt (x : DRule) (pos : Int) : ByteArray := if pos = 0 then x.fLeft else if 1 ≤ pos ∧ pos ≤ x.fRight.length then x.fRight.getD (pos.toNat - 1) default else ⟨#[]⟩
theorem ret_str {a b : ByteArray} (h : a = b) : Ending.returned (Value.string a) = .returned (.string b) := by rw [h]

set_option maxHeartbeats 1600000 in
set_option maxRecDepth 100000 in
theorem spec_SymbolAt {lo hi : Nat} {a2 a4 a5 : Option Addr} {c0_0 c0_1 c0_2 : Nat} (x : DRule) (_ : x.ok) (hsz : x.sz ≤ 1048576) (pos : Int) (hp : okI pos) (w : World) (hhi : hi ≤ w.heap.size) (hs2 : Sl lo hi w 1 x.fRight.length (fun k => ictS (x.fRight.getD k default)) a2) (_ : Sl lo hi w 9 x.fEquations.length (fun k => DEquation.ct (x.fEquations.getD k default)) a4) (_ : Sl lo hi w 16 x.fContributions.length (fun k => DContribution.ct (x.fContributions.getD k default)) a5) :
    Calls Try.prog 24 #[.agg #[.string x.fName, .string x.fLeft, .slice a2 x.fRight.length c0_0, .bool x.fLiteral, .slice a4 x.fEquations.length c0_1, .slice a5 x.fContributions.length c0_2], .int .i64 pos] w fun e w' => e = .returned (.string (symbolAt x pos)) ∧ Below w.heap.size w w' := by
  have hn : x.fRight.length ≤ 1048576 := by unfold DRule.sz lsz at hsz; omega
  have hp1 : -9223372036854775808 ≤ pos ∧ pos ≤ 9223372036854775807 := hp
  have HB := Lib.hid ((Below.refl w.heap.size w).alloc (Nat.le_refl _) (.cells #[.string x.fName, .string x.fLeft, .slice a2 x.fRight.length c0_0, .bool x.fLiteral, .slice a4 x.fEquations.length c0_1, .slice a5 x.fContributions.length c0_2] 43))
  have HS := Lib.hid (hs2.later HB.out hhi)
  clear hs2 hp hsz
  by_cases h0 : pos = 0
  · have FIN := Lib.hid (show x.fLeft = symbolAt x pos by unfold symbolAt; rw [if_pos h0])
    subst h0
    go_enter Try.func24, Try.ntmps24
    go_wp2
    go_ret
    exact ⟨ret_str FIN.out, HB.out⟩
  · have e0 : (pos == 0) = false := beq_eq_false_iff_ne.2 h0
    by_cases h1 : 1 ≤ pos ∧ pos ≤ x.fRight.length
    · obtain ⟨k, rfl⟩ : ∃ k : Nat, pos = (k : Int) + 1 := ⟨(pos - 1).toNat, by omega⟩
      have hk : k < x.fRight.length := by omega
      have FIN := Lib.hid (show x.fRight.getD k default = symbolAt x ((k : Int) + 1) by unfold symbolAt; rw [if_neg h0, if_pos h1, show ((k : Int) + 1).toNat - 1 = k by omega])
      obtain ⟨b, off, rfl, _, _, hc⟩ := HS.out.at k hk
      obtain ⟨u, hu, hl⟩ := hc 0 (by decide)
      obtain rfl := lies_lit hl
      rw [Nat.mul_one, Nat.add_zero] at hu
      have HI := Lib.hid (show ∀ w', Calls Try.prog 50 #[.int .i64 ((k : Int) + 1), .int .i64 1, .int .i64 (x.fRight.length : Int)] w' fun e w'' => e = .returned (.bool true) ∧ w' = w'' from fun w' => by have h := spec_l1In ((k : Int) + 1) 1 (x.fRight.length : Int) w'; rw [inR_yes h1.1 h1.2] at h; exact h)
      clear h0 h1 hc hl HS
      generalize x.fRight.getD k default = v at *
      go_enter Try.func24, Try.ntmps24
      go_wp2_with fail
      refine (HI.out _).mono ?_
      rintro e w1 ⟨rfl, rfl⟩
      go_wp2
      go_ret
      exact ⟨ret_str FIN.out, HB.out⟩
    · have FIN := Lib.hid (show (⟨#[]⟩ : ByteArray) = symbolAt x pos by unfold symbolAt; rw [if_neg h0, if_neg h1])
      have HI := Lib.hid (show ∀ w', Calls Try.prog 50 #[.int .i64 pos, .int .i64 1, .int .i64 (x.fRight.length : Int)] w' fun e w'' => e = .returned (.bool false) ∧ w' = w'' from fun w' => by have h := spec_l1In pos 1 (x.fRight.length : Int) w'; rw [inR_no (by omega)] at h; exact h)
      clear h0 h1 HS
      go_enter Try.func24, Try.ntmps24
      go_wp2_with fail
      refine (HI.out _).mono ?_
      rintro e w1 ⟨rfl, rfl⟩
      go_wp2
      go_ret
      exact ⟨ret_str FIN.out, HB.out⟩

set_option maxHeartbeats 1600000 in
set_option maxRecDepth 100000 in
theorem impl_hasPosition {a2 a4 a5 : Option Addr} {c0_0 c0_1 c0_2 : Nat} (x : DRule) (_ : x.fRight.length ≤ 1048576) (pos : Int) (w : World) :
    Calls Try.prog 56 #[.agg #[.string x.fName, .string x.fLeft, .slice a2 x.fRight.length c0_0, .bool x.fLiteral, .slice a4 x.fEquations.length c0_1, .slice a5 x.fContributions.length c0_2], .int .i64 pos] w fun e w' => e = .returned (.bool (inR pos 0 x.fRight.length)) ∧ Below w.heap.size w w' := by
  have HB := Lib.hid ((Below.refl w.heap.size w).alloc (Nat.le_refl _) (.cells #[.string x.fName, .string x.fLeft, .slice a2 x.fRight.length c0_0, .bool x.fLiteral, .slice a4 x.fEquations.length c0_1, .slice a5 x.fContributions.length c0_2] 43))
  by_cases h0 : 0 ≤ pos
  · have FIN := Lib.hid (show decide (pos ≤ (x.fRight.length : Int)) = inR pos 0 x.fRight.length by unfold inR; rw [decide_eq_true h0, Bool.true_and])
    go_enter Try.func56, Try.ntmps56
    go_wp2
    go_ret
    exact ⟨ret_b FIN.out, HB.out⟩
  · have FIN := Lib.hid (inR_no (n := pos) (a := 0) (b := x.fRight.length) (Or.inl (by omega)))
    have h1 : pos < 0 := by omega
    clear h0
    go_enter Try.func56, Try.ntmps56
    go_wp2
    go_ret
    exact ⟨ret_b FIN.out.symm, HB.out⟩

set_option maxHeartbeats 1600000 in
set_option maxRecDepth 100000 in
theorem impl_SymbolAt {lo hi : Nat} {a2 a4 a5 : Option Addr} {c0_0 c0_1 c0_2 : Nat} (x : DRule) (_ : x.ok) (hsz : x.sz ≤ 1048576) (pos : Int) (hp : okI pos) (w : World) (hhi : hi ≤ w.heap.size) (hs2 : Sl lo hi w 1 x.fRight.length (fun k => ictS (x.fRight.getD k default)) a2) (_ : Sl lo hi w 9 x.fEquations.length (fun k => DEquation.ct (x.fEquations.getD k default)) a4) (_ : Sl lo hi w 16 x.fContributions.length (fun k => DContribution.ct (x.fContributions.getD k default)) a5) :
    Calls Try.prog 55 #[.agg #[.string x.fName, .string x.fLeft, .slice a2 x.fRight.length c0_0, .bool x.fLiteral, .slice a4 x.fEquations.length c0_1, .slice a5 x.fContributions.length c0_2], .int .i64 pos] w fun e w' => e = .returned (.string (symbolAt x pos)) ∧ Below w.heap.size w w' := by
  have hn : x.fRight.length ≤ 1048576 := by unfold DRule.sz lsz at hsz; omega
  have hp1 : -9223372036854775808 ≤ pos ∧ pos ≤ 9223372036854775807 := hp
  have HB := Lib.hid ((Below.refl w.heap.size w).alloc (Nat.le_refl _) (.cells #[.string x.fName, .string x.fLeft, .slice a2 x.fRight.length c0_0, .bool x.fLiteral, .slice a4 x.fEquations.length c0_1, .slice a5 x.fContributions.length c0_2] 43))
  have HS := Lib.hid (hs2.later HB.out hhi)
  have HP := Lib.hid (fun W => impl_hasPosition (a2 := a2) (a4 := a4) (a5 := a5) (c0_0 := c0_0) (c0_1 := c0_1) (c0_2 := c0_2) x hn pos W)
  clear hs2 hp hsz
  by_cases h0 : pos = 0
  · have FIN := Lib.hid (show x.fLeft = symbolAt x pos by unfold symbolAt; rw [if_pos h0])
    rw [inR_yes (by omega) (by omega)] at HP
    subst h0
    go_enter Try.func55, Try.ntmps55
    go_wp2_with fail
    refine (HP.out _).mono ?_
    rintro e w1 ⟨rfl, hb1⟩
    have p1 : w1.cell? ⟨w.heap.size, 1, none⟩ = some (.string x.fLeft) := (hb1.cell (p := ⟨w.heap.size, 1, none⟩) (by simp)).trans (by go_simp)
    have HB1 := Lib.hid (HB.out.trans (hb1.mono HB.out.size))
    clear hb1
    go_wp2
    go_ret
    exact ⟨ret_str FIN.out, HB1.out⟩
  · have e0 : (pos == 0) = false := beq_eq_false_iff_ne.2 h0
    by_cases h1 : 1 ≤ pos ∧ pos ≤ x.fRight.length
    · obtain ⟨k, rfl⟩ : ∃ k : Nat, pos = (k : Int) + 1 := ⟨(pos - 1).toNat, by omega⟩
      have hk : k < x.fRight.length := by omega
      have FIN := Lib.hid (show x.fRight.getD k default = symbolAt x ((k : Int) + 1) by unfold symbolAt; rw [if_neg h0, if_pos h1, show ((k : Int) + 1).toNat - 1 = k by omega])
      obtain ⟨b, off, rfl, _, hbh, hc⟩ := HS.out.at k hk
      obtain ⟨u, hu, hl⟩ := hc 0 (by decide)
      obtain rfl := lies_lit hl
      rw [Nat.mul_one, Nat.add_zero] at hu
      have HU := Lib.hid hu
      rw [inR_yes (by omega) (by omega)] at HP
      clear h0 h1 hc hl HS hu
      generalize x.fRight.getD k default = v at *
      go_enter Try.func55, Try.ntmps55
      go_wp2_with fail
      refine (HP.out _).mono ?_
      rintro e w1 ⟨rfl, hb1⟩
      have p1 : w1.cell? ⟨w.heap.size, 2, none⟩ = some (.slice (some ⟨b, off, none⟩) x.fRight.length c0_0) := (hb1.cell (p := ⟨w.heap.size, 2, none⟩) (by simp)).trans (by go_simp)
      have p2 : w1.cell? ⟨b, off + k, none⟩ = some (.string v) := (hb1.cell (p := ⟨b, off + k, none⟩) (by simp; omega)).trans HU.out
      have HB1 := Lib.hid (HB.out.trans (hb1.mono HB.out.size))
      clear hb1
      go_wp2
      go_ret
      exact ⟨ret_str FIN.out, HB1.out⟩
    · have FIN := Lib.hid (show (⟨#[]⟩ : ByteArray) = symbolAt x pos by unfold symbolAt; rw [if_neg h0, if_neg h1])
      rw [inR_no (by omega)] at HP
      clear h0 h1 HS
      go_enter Try.func55, Try.ntmps55
      go_wp2_with fail
      refine (HP.out _).mono ?_
      rintro e w1 ⟨rfl, hb1⟩
      have HB1 := Lib.hid (HB.out.trans (hb1.mono HB.out.size))
      clear hb1
      go_wp2
      go_ret
      exact ⟨ret_str FIN.out, HB1.out⟩
end Go.Proofs.Yticchgfhmfjknaa
