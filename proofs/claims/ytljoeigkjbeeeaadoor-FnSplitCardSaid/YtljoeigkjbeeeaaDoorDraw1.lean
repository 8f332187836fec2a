/-
  What the laws of chapter 1 draw: an int; a numeral, or what is nearly one.
-/
import Derived.Test.YtljoeigkjbeeeaaDoorPick
import Derived.Test.YtljoeigkjbeeeaaDoorFmt
import Derived.Lib.ItoaLen
namespace Go.Proofs.YtljoeigkjbeeeaaDoor
open Go.ChangeShapes Go.WideShapes Go.ChangeAt Go.RowKit
open Go.Lib Num

set_option maxRecDepth 100000 in
theorem big_no {a : Option Addr} {len cap : Nat} (w : World) (h : len ≤ 1048576) :
    Calls Tryd.prog 9 #[.slice a len cap] w fun e w' => e = .returned (.bool false) ∧ w = w' := by
  go_enter Tryd.func9, Tryd.ntmps9
  go_wp2
  go_ret
  exact ⟨congrArg (fun b => Ending.returned (Value.bool b)) (decide_eq_false (by omega)), rfl⟩
set_option maxRecDepth 100000 in
theorem big_yes {a : Option Addr} {len cap : Nat} (w : World) (h : 1048576 < len) :
    Calls Tryd.prog 9 #[.slice a len cap] w fun e w' => e = .returned (.bool true) ∧ w = w' := by
  go_enter Tryd.func9, Tryd.ntmps9
  go_wp2
  go_ret
  exact ⟨congrArg (fun b => Ending.returned (Value.bool b)) (decide_eq_true (by omega)), rfl⟩

set_option maxRecDepth 100000 in
theorem DrawFormatInt {B : Nat} {a : Option Addr} {len cap : Nat} (w : World) (hB : B ≤ w.heap.size) (hl : len ≤ 1048576) (hc : Code B w a len) :
    Calls Tryd.prog 10 #[.slice a len cap] w fun e w' => ∃ x : Int, e = .returned (.int .i64 x) ∧ -9223372036854775808 ≤ x ∧ x ≤ 9223372036854775807 ∧ Below w.heap.size w w' := by
  have HC := Lib.hid hc
  clear hc
  go_enter Tryd.func10, Tryd.ntmps10
  go_wp2_with fail
  refine (draw_new _ hB hl HC.out).mono ?_
  rintro e w1 ⟨C, rfl, hC, hc1, hb1⟩
  have HC1 := Lib.hid hc1
  have HB1 := Lib.hid hb1
  clear hc1 hb1
  go_wp2_with fail
  refine (draw_whole _ HC1.out).mono ?_
  rintro e w2 ⟨x, rfl, hx0, hx1, hc2, hw2⟩
  have HB2 := Lib.hid (HB1.out.trans ((hw2.below HC1.out.lt).mono hC))
  clear hc2 hw2
  go_wp2
  go_ret
  exact ⟨_, rfl, hx0, hx1, HB2.out⟩

def numerals : List ByteArray := [⟨#[]⟩, ⟨#[48, 48]⟩, ⟨#[48, 49]⟩, ⟨#[45, 49]⟩, ⟨#[43, 49]⟩, ⟨#[120]⟩, ⟨#[57, 57, 57, 57, 57, 57]⟩, ⟨#[49, 48, 48, 48, 48, 48, 48]⟩, ⟨#[45, 48]⟩, ⟨#[45]⟩, ⟨#[32, 49]⟩, ⟨#[49, 32]⟩]
theorem numerals_short : ∀ s ∈ numerals, s.size ≤ 30 := by decide

set_option maxHeartbeats 1000000 in
set_option maxRecDepth 100000 in
theorem DrawParseNumber {B : Nat} {a : Option Addr} {len cap : Nat} (w : World) (hB : B ≤ w.heap.size) (hl : len ≤ 1048576) (hc : Code B w a len) :
    Calls Tryd.prog 14 #[.slice a len cap] w fun e w' => ∃ s : ByteArray, e = .returned (.string s) ∧ s.size ≤ 30 ∧ Below w.heap.size w w' := by
  have HC := Lib.hid hc
  clear hc
  go_enter Tryd.func14, Tryd.ntmps14
  go_wp2_with fail
  refine (draw_new _ hB hl HC.out).mono ?_
  rintro e w1 ⟨C, rfl, hC, hc1, hb1⟩
  have HC1 := Lib.hid hc1
  have HB1 := Lib.hid hb1
  clear hc1 hb1
  go_wp2_with fail
  refine (draw_once _ HC1.out 2 (by decide)).mono ?_
  rintro e w2 ⟨o, rfl, hc2, hw2⟩
  have HC2 := Lib.hid hc2
  have HB2 := Lib.hid (HB1.out.trans ((hw2.below HC1.out.lt).mono hC))
  clear hc2 hw2
  cases o with
  | true =>
    go_wp2_with fail
    refine (draw_whole _ HC2.out).mono ?_
    rintro e w3 ⟨x, rfl, hx0, hx1, hc3, hw3⟩
    have HB3 := Lib.hid (HB2.out.trans ((hw3.below HC2.out.lt).mono hC))
    clear hc3 hw3
    go_wp2_with fail
    refine (spec_FormatInt x hx0 hx1 w3).mono ?_
    rintro e w4 ⟨rfl, hb4⟩
    have HB4 := Lib.hid (HB3.out.trans (hb4.mono HB3.out.size))
    clear hb4
    have hlen := itoa_length_le x hx0 hx1
    have HS : Hid ((⟨(itoa x).toArray⟩ : ByteArray).size ≤ 30) := by
      show (itoa x).toArray.size ≤ 30
      rw [List.size_toArray]
      omega
    go_wp2
    go_ret
    exact ⟨_, rfl, HS.out, HB4.out⟩
  | false =>
    go_wp2_with fail
    refine (pick_str_new w2 HC2.out numerals (by decide) (by decide) 9).mono ?_
    rintro e w3 ⟨j, hj, rfl, hc3, hw3⟩
    have hs := numerals_short _ (getD_mem (d := ByteArray.empty) numerals j hj)
    have HB3 := Lib.hid (HB2.out.trans ((hw3.below HC2.out.lt).mono hC))
    clear hc3 hw3
    generalize numerals.getD j ByteArray.empty = s at hs
    go_wp2
    go_ret
    exact ⟨_, rfl, hs, HB3.out⟩
end Go.Proofs.YtljoeigkjbeeeaaDoor
