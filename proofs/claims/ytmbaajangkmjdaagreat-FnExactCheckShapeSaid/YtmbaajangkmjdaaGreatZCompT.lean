/-
  What slices.Compact leaves, and the list without neighbours that are one: one list.
-/
import Derived.Test.YtmbaajangkmjdaaGreatZUniq
import Derived.Lib.SlicesCompact
namespace Go.Proofs.YtmbaajangkmjdaaGreat
section
variable {α : Type} {lt : α → α → Bool}
theorem zex (h:Strict lt) [DecidableEq α] (y x : α) : ∀ l:List α,zaa lt (l ++ [y,x])=zaa lt (l ++ [y]) ++ (if y=x then [] else [x])
 | []=>by
  show (if lt y x=true∨lt x y=true then y :: [x] else [x])=[y] ++ _
  by_cases e:y=x
  ·subst e
   rw [if_pos rfl,if_neg (by rw [h.irrefl];decide)]
   rfl
  ·rw [if_neg e,if_pos]
   ·rfl
   ·cases h1:lt y x
    ·cases h2:lt x y
     ·exact absurd (h.total y x h1 h2) e
     ·exact .inr rfl
    ·exact .inl rfl
 | [z]=>by
  have ih:=zex h y x []
  show (if lt z y=true∨lt y z=true then z :: zaa lt [y,x] else zaa lt [y,x])=(if lt z y=true∨lt y z=true then z :: zaa lt [y] else zaa lt [y]) ++ _
  rw [show [y,x]=[] ++ [y,x] from rfl,ih]
  split<;>rfl
 | z :: z2 :: l=>by
  have ih:=zex h y x (z2 :: l)
  show (if lt z z2=true∨lt z2 z=true then z :: zaa lt (z2 :: l ++ [y,x]) else zaa lt (z2 :: l ++ [y,x]))=(if lt z z2=true∨lt z2 z=true then z :: zaa lt (z2 :: l ++ [y]) else zaa lt (z2 :: l ++ [y])) ++ _
  rw [ih]
  split<;>rfl
theorem zo8 (d:Array α) [Inhabited α] (m:Nat) (hm:m < d.size):d.toList.take (m+1)=d.toList.take m ++ [d[m]!]:=by
 rw [List.take_succ_eq_append_getElem (by simpa using hm),getElem!_pos d m hm,Array.getElem_toList]
theorem zge (h:Strict lt) [Inhabited α] [DecidableEq α] (d:Array α) : ∀ m,m≤d.size→Go.Lib.compactUpTo d m=zaa lt (d.toList.take m)
 | 0,_=>by simp [Go.Lib.compactUpTo,zaa]
 | 1,h1=>by
  rw [Go.Lib.compactUpTo_succ,zo8 d 0 (by omega)]
  simp [Go.Lib.compactUpTo,zaa,Go.Lib.keeps]
 | m+2,h2=>by
  rw [Go.Lib.compactUpTo_succ,zge h d (m+1) (by omega),zo8 d (m+1) (by omega),zo8 d m (by omega),List.append_assoc]
  show _=zaa lt (_ ++ [d[m]!,d[m+1]!])
  rw [zex h]
  congr 1
  by_cases e:d[m+1]! = d[m]!
  ·rw [Go.Lib.keeps_neg (by omega) e,if_pos e.symm]
   rfl
  ·rw [Go.Lib.keeps_pos e,if_pos rfl,if_neg (fun e'=>e e'.symm)]
theorem zup (h:Strict lt) [Inhabited α] [DecidableEq α] (zs:List α):Go.Lib.compactUpTo zs.toArray zs.length=zaa lt zs:=by
 have:=zge h zs.toArray zs.length (by simp)
 simpa using this
end
end Go.Proofs.YtmbaajangkmjdaaGreat
