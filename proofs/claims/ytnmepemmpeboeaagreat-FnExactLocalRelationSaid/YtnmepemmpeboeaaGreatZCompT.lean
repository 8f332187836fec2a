/-
  What slices.Compact leaves, and the list without neighbours that are one: one list.
-/
import Derived.Test.YtnmepemmpeboeaaGreatZUniq
import Derived.Lib.SlicesCompact
namespace Go.Proofs.YtnmepemmpeboeaaGreat

section
variable {α : Type} {lt : α → α → Bool}
theorem compactL_two (h : Strict lt) [DecidableEq α] (y x : α) : ∀ l : List α, compactL lt (l ++ [y, x]) = compactL lt (l ++ [y]) ++ (if y = x then [] else [x])
  | [] => by
    show (if lt y x = true ∨ lt x y = true then y :: [x] else [x]) = [y] ++ _
    by_cases e : y = x
    · subst e
      rw [if_pos rfl, if_neg (by rw [h.irrefl]; decide)]
      rfl
    · rw [if_neg e, if_pos]
      · rfl
      · cases h1 : lt y x
        · cases h2 : lt x y
          · exact absurd (h.total y x h1 h2) e
          · exact .inr rfl
        · exact .inl rfl
  | [z] => by
    have ih := compactL_two h y x []
    show (if lt z y = true ∨ lt y z = true then z :: compactL lt [y, x] else compactL lt [y, x]) = (if lt z y = true ∨ lt y z = true then z :: compactL lt [y] else compactL lt [y]) ++ _
    rw [show [y, x] = [] ++ [y, x] from rfl, ih]
    split <;> rfl
  | z :: z2 :: l => by
    have ih := compactL_two h y x (z2 :: l)
    show (if lt z z2 = true ∨ lt z2 z = true then z :: compactL lt (z2 :: l ++ [y, x]) else compactL lt (z2 :: l ++ [y, x])) = (if lt z z2 = true ∨ lt z2 z = true then z :: compactL lt (z2 :: l ++ [y]) else compactL lt (z2 :: l ++ [y])) ++ _
    rw [ih]
    split <;> rfl
theorem take_two (d : Array α) [Inhabited α] (m : Nat) (hm : m < d.size) : d.toList.take (m + 1) = d.toList.take m ++ [d[m]!] := by
  rw [List.take_succ_eq_append_getElem (by simpa using hm), getElem!_pos d m hm, Array.getElem_toList]
theorem compactUpTo_L (h : Strict lt) [Inhabited α] [DecidableEq α] (d : Array α) : ∀ m, m ≤ d.size → Go.Lib.compactUpTo d m = compactL lt (d.toList.take m)
  | 0, _ => by simp [Go.Lib.compactUpTo, compactL]
  | 1, h1 => by
    rw [Go.Lib.compactUpTo_succ, take_two d 0 (by omega)]
    simp [Go.Lib.compactUpTo, compactL, Go.Lib.keeps]
  | m + 2, h2 => by
    rw [Go.Lib.compactUpTo_succ, compactUpTo_L h d (m + 1) (by omega), take_two d (m + 1) (by omega), take_two d m (by omega), List.append_assoc]
    show _ = compactL lt (_ ++ [d[m]!, d[m + 1]!])
    rw [compactL_two h]
    congr 1
    by_cases e : d[m + 1]! = d[m]!
    · rw [Go.Lib.keeps_neg (by omega) e, if_pos e.symm]
      rfl
    · rw [Go.Lib.keeps_pos e, if_pos rfl, if_neg (fun e' => e e'.symm)]
theorem compact_L (h : Strict lt) [Inhabited α] [DecidableEq α] (zs : List α) : Go.Lib.compactUpTo zs.toArray zs.length = compactL lt zs := by
  have := compactUpTo_L h zs.toArray zs.length (by simp)
  simpa using this
end
end Go.Proofs.YtnmepemmpeboeaaGreat
