/-
  What the law FnSplit draws: a short string and a byte.
-/
import Derived.Test.YtljoeigkjbeeeaaDoorPick
namespace Go.Proofs.YtljoeigkjbeeeaaDoor
open Go.ChangeShapes Go.WideShapes Go.ChangeAt Go.RowKit

def splits : List ByteArray := [⟨#[]⟩, ⟨#[97]⟩, ⟨#[97, 44, 98]⟩, ⟨#[44]⟩, ⟨#[97, 44, 44, 98, 44]⟩, ⟨#[97, 10, 98, 10]⟩]
theorem splits_short : ∀ s ∈ splits, s.size ≤ 30 := by decide
def seps : List Int := [44, 10]
theorem seps_in : ∀ x ∈ seps, 0 ≤ x ∧ x ≤ 255 := by decide

set_option maxHeartbeats 1000000 in
set_option maxRecDepth 100000 in
theorem DrawSplitByte {B : Nat} {a : Option Addr} {len cap : Nat} (w : World) (hB : B ≤ w.heap.size) (hl : len ≤ 1048576) (hc : Code B w a len) :
    Calls Tryd.prog 17 #[.slice a len cap] w fun e w' => ∃ (s : ByteArray) (b : Int), e = .returned (.tuple #[.string s, .int .u8 b]) ∧ s.size ≤ 30 ∧ 0 ≤ b ∧ b ≤ 255 ∧ Below w.heap.size w w' := by
  have HC := Lib.hid hc
  clear hc
  go_enter Tryd.func17, Tryd.ntmps17
  go_wp2_with fail
  refine (draw_new _ hB hl HC.out).mono ?_
  rintro e w1 ⟨C, rfl, hC, hc1, hb1⟩
  have HC1 := Lib.hid hc1
  have HB1 := Lib.hid hb1
  clear hc1 hb1
  go_wp2_with fail
  refine (pick_str_new w1 HC1.out splits (by decide) (by decide) 9).mono ?_
  rintro e w2 ⟨j, hj, rfl, hc2, hw2⟩
  have hs := splits_short _ (getD_mem (d := ByteArray.empty) splits j hj)
  have HC2 := Lib.hid hc2
  have HB2 := Lib.hid (HB1.out.trans ((hw2.below HC1.out.lt).mono hC))
  clear hc2 hw2
  generalize splits.getD j ByteArray.empty = s at hs
  go_wp2_with fail
  refine (pick_int_new w2 HC2.out seps (by decide) (by decide) 3).mono ?_
  rintro e w3 ⟨i, hi, rfl, hc3, hw3⟩
  have hb := seps_in _ (getD_mem (d := 0) seps i hi)
  have HB3 := Lib.hid (HB2.out.trans ((hw3.below HC2.out.lt).mono hC))
  clear hc3 hw3
  generalize seps.getD i 0 = b at hb
  obtain ⟨hb0, hb1⟩ := hb
  go_wp2
  go_ret2
  exact ⟨s, b, rfl, hs, hb0, hb1, HB3.out⟩
end Go.Proofs.YtljoeigkjbeeeaaDoor
