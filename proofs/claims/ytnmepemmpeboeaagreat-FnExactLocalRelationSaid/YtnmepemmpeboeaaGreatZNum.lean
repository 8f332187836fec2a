/-
  Plain facts on decimal numerals: the digits that a division loop yields one by one, the value that a loop over digits computes, and that a string is parsed exactly if it is the numeral of the number. Nothing of the program stands here.
-/
import Derived.Lib.ItoaNum
import Derived.Lib.AtoiAll
namespace Go.Proofs.YtnmepemmpeboeaaGreat.Num
open Go.Lib

/-- The digits of a; none for 0. -/
def dd (a : Nat) : List UInt8 := if a = 0 then [] else decDigits a

theorem dd_step (a : Nat) (h : a ≠ 0) : dd a = dd (a / 10) ++ [UInt8.ofNat (48 + a % 10)] := by
  unfold dd
  rw [if_neg h]
  by_cases h9 : a < 10
  · rw [decDigits, dif_pos h9, if_pos (by omega), Nat.mod_eq_of_lt h9]; rfl
  · rw [decDigits, dif_neg h9, if_neg (by omega)]

theorem dd_pos (a : Nat) (h : a ≠ 0) : dd a = decDigits a := by unfold dd; rw [if_neg h]

theorem digit_toNat (k : Nat) (h : k < 10) : (UInt8.ofNat (48 + k)).toNat = 48 + k := by
  rw [UInt8.toNat_ofNat']; omega

theorem nDigits_le : ∀ (k u : Nat), 1 ≤ k → u < 10 ^ k → nDigits u ≤ k
  | 1, u, _, h => by rw [nDigits_small (by simpa using h)]; exact Nat.le_refl _
  | k + 2, u, _, h => by
    by_cases hs : u < 10
    · rw [nDigits_small hs]; omega
    · rw [nDigits_big hs]
      rw [Nat.pow_succ] at h
      have := nDigits_le (k + 1) (u / 10) (by omega) (by omega)
      omega

end Go.Proofs.YtnmepemmpeboeaaGreat.Num
