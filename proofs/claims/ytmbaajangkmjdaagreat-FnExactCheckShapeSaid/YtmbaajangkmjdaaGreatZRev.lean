/-
  slices.Reverse over a row of the call's own, at k cells an element (the shelf's contract, told by 'ownsRow').
-/
import Derived.Test.YtmbaajangkmjdaaGreatZz1
import Derived.Shelf.SlicesQ.Reverse
import Derived.Lib.OwnBridge
namespace Go.Proofs.YtmbaajangkmjdaaGreat
open Go.ChangeShapes Go.WideShapes Go.ChangeAt Go.RowKit Go.Deep Go.Shelf Go.Sort
section
variable {α : Type} [Inhabited α]
theorem zjs (enc : α → List Value) (k:Nat) (hk : ∀ x,(enc x).length=k) : ∀ (zs:List α) (i j:Nat),i < zs.length→j < k→(zs.flatMap enc)[i * k+j]? = (enc (zs.getD i default))[j]?
 | [],i,j,hi,_=>absurd hi (Nat.not_lt_zero _)
 | z :: zs,0,j,_,hj=>by
  rw [List.flatMap_cons,Nat.zero_mul,Nat.zero_add,List.getElem?_append_left (by rw [hk];exact hj)];rfl
 | z :: zs,i+1,j,hi,hj=>by
  rw [List.flatMap_cons,List.getElem?_append_right (by rw [hk,Nat.add_mul];omega),hk,show (i+1) * k+j - k=i * k+j by rw [Nat.add_mul];omega,zjs enc k hk zs i j (by simpa using hi) hj]
  rfl
omit [Inhabited α] in
theorem zpu (enc : α → List Value) (k:Nat) (hk : ∀ x,(enc x).length=k) : ∀ zs:List α,(zs.flatMap enc).length=zs.length * k
 | []=>by simp
 | z :: zs=>by rw [List.flatMap_cons,List.length_append,hk,zpu enc k hk zs,List.length_cons,Nat.add_mul];omega
theorem znf (enc : α → List Value) (k : Nat) (hk : ∀ x, (enc x).length = k) (zs : List α) : (flatK enc k zs.toArray).toList = zs.flatMap enc := by
  apply List.ext_getElem?
  intro t
  by_cases ht : t < zs.length * k
  · have hk0 : 0 < k := by rcases Nat.eq_zero_or_pos k with h | h; · subst h; simp at ht
                           · exact h
    have h1 : t / k < zs.length := Nat.div_lt_of_lt_mul (by rw [Nat.mul_comm]; exact ht)
    have h2 : t % k < k := Nat.mod_lt _ hk0
    have h3 := zjs enc k hk zs (t / k) (t % k) h1 h2
    rw [Nat.div_add_mod' t k] at h3
    rw [h3]
    have h4 := get_flatK enc k zs.toArray t (by simpa using ht)
    have h5 : t < (flatK enc k zs.toArray).size := by simpa using ht
    rw [Array.getElem?_toList, Array.getElem?_eq_getElem h5, ← getElem!_pos _ t h5, h4]
    have e1 : zs.toArray[t / k]! = zs.getD (t / k) default := by
      rw [getElem!_pos _ _ (by simpa using h1), List.getD_eq_getElem?_getD, List.getElem?_eq_getElem h1]; simp
    rw [e1]
    have h6 : t % k < (enc (zs.getD (t / k) default)).length := by rw [hk]; exact h2
    rw [getElem!_pos (enc (zs.getD (t / k) default)) (t % k) h6, List.getElem?_eq_getElem h6]
  · rw [List.getElem?_eq_none (by simp; omega), List.getElem?_eq_none (by rw [zpu enc k hk]; omega)]
end
theorem ztu {w:World} {B g n k cap:Nat} {e:TypeId} {A:Array Value} (h:w.ownsRow B e k (.slice (some ⟨g,0,none⟩) n cap) n A.toList):Holds id w g 0 A:=by
 rcases h.2 with ⟨e0,_⟩|⟨g',cap',cur,e0,hb,hg,hn,hm,hs,ht⟩
 ·cases e0
 ·injection e0 with e1 _ e3
  injection e1 with e1
  injection e1 with e1
  subst e1;intro j hj
  have hl:A.size=n * k:=by have:=h.1;simpa using this
  have hc:=h.cellAt j (by omega)
  rw [Nat.zero_add];refine ⟨?_,?_⟩
  ·rw [hc,Array.getElem?_toList,Array.getElem?_eq_getElem hj,getElem!_pos _ j hj];rfl
  ·unfold World.frozen?
   simp [hg]
theorem zxd {w:World} {B g n k cap q:Nat} {e:TypeId} {xs:List Value} {A:Array Value} (h:w.ownsRow B e k (.slice (some ⟨g,0,none⟩) n cap) n xs) (hA:A.size=n * k):(putRow id (Sort.ahead w q) g 0 A).ownsRow B e k (.slice (some ⟨g,0,none⟩) n cap) n A.toList:=by
 rcases h.2 with ⟨e0,_⟩|⟨g',cap',cur,e0,hb,hg,hn,hm,hs,ht⟩
 ·cases e0
 ·injection e0 with e1 _ e3
  injection e1 with e1
  injection e1 with e1
  subst e1 e3
  have hle:n * k≤cur.size:=by rw [hs];exact Nat.mul_le_mul_right k hn
  refine ⟨by simpa using hA,.inr ⟨g,cap,putCells id 0 A cur,rfl,hb,?_,hn,hm,by simp [putCells,hs],?_⟩⟩
  ·simp [putRow,mapBlock,Sort.ahead,Array.getElem?_modify,hg,onCells]
  ·apply List.ext_getElem?
   intro t
   by_cases ht':t < n * k
   ·rw [List.getElem?_take_of_lt ht',Array.getElem?_toList,Array.getElem?_toList]
    simp [putCells,show t < cur.size by omega,show t < A.size by omega]
   ·rw [List.getElem?_eq_none (by simp;omega),List.getElem?_eq_none (by simp;omega)]
end Go.Proofs.YtmbaajangkmjdaaGreat
