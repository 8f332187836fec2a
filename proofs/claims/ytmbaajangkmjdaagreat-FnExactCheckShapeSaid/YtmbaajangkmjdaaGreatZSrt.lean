/-
  Plain facts on sorted lists of byte strings: the library's sort and compaction give the strictly ascending list of the same elements, and there is one such list only. Nothing of the program stands here.
-/
import Derived.Test.YtmbaajangkmjdaaGreatZz6
import Derived.Sort.Walk0
import Derived.Lib.SlicesCompact
import Derived.Sort.EncStr
namespace Go.Proofs.YtmbaajangkmjdaaGreat
open Go.Lib
def bl (s:ByteArray):List UInt8:=s.data.toList
def lb (l:List UInt8):ByteArray:=⟨l.toArray⟩
theorem zx7 (s:ByteArray):lb (bl s)=s:=rfl
def Asc (l:List (List UInt8)):Prop:=l.Pairwise (· < ·)
theorem zkq (d:Array (List UInt8)) (hd : ∀ i j,i < j→j < d.size→d[i]! ≤ d[j]!) : ∀ m,m≤d.size→Asc (compactUpTo d m) ∧ ∀ x,x ∈ compactUpTo d m ↔ ∃ j,j < m∧d[j]! = x
 | 0,_=>by
  refine ⟨by unfold compactUpTo;exact List.Pairwise.nil,fun x=>?_⟩
  unfold compactUpTo
  simp
 | m+1,hm=>by
  obtain ⟨h1,h2⟩:=zkq d hd m (by omega)
  rw [compactUpTo_succ]
  by_cases hk:keeps d m=true
  ·rw [if_pos hk]
   refine ⟨?_,fun x=>?_⟩
   ·unfold Asc at *
    rw [List.pairwise_append]
    refine ⟨h1,by simp,fun a ha b hb=>?_⟩
    rw [List.mem_singleton] at hb;subst hb;obtain ⟨j,hj,rfl⟩:=(h2 a).1 ha
    have hne:d[m]! ≠ d[m - 1]!:=by
     unfold keeps at hk
     rcases of_decide_eq_true hk with e|e
     ·omega
     ·exact e
    have h3:d[m - 1]! < d[m]!:=by
     rcases List.le_iff_lt_or_eq.1 (hd (m - 1) m (by omega) (by omega)) with h|h
     ·exact h
     ·exact absurd h.symm hne
    by_cases e:j=m - 1
    ·rw [e];exact h3
    ·rcases List.le_iff_lt_or_eq.1 (hd j (m - 1) (by omega) (by omega)) with h|h
     ·exact List.lt_trans h h3
     ·rw [h];exact h3
   ·rw [List.mem_append,h2,List.mem_singleton]
    constructor
    ·rintro (⟨j,hj,e⟩|e)
     ·exact ⟨j,by omega,e⟩
     ·exact ⟨m,by omega,e.symm⟩
    ·rintro ⟨j,hj,e⟩
     by_cases hjm:j=m
     ·right;rw [← e,hjm]
     ·left;exact ⟨j,by omega,e⟩
  ·rw [if_neg hk,List.append_nil]
   refine ⟨h1,fun x=>?_⟩
   rw [h2]
   have hk':m≠0∧d[m]! = d[m - 1]!:=by
    unfold keeps at hk
    simp only [decide_eq_true_eq,not_or,Classical.not_not] at hk
    exact hk
   constructor
   ·rintro ⟨j,hj,e⟩;exact ⟨j,by omega,e⟩
   ·rintro ⟨j,hj,e⟩
    by_cases hjm:j=m
    ·exact ⟨m - 1,by omega,by rw [← hk'.2,← hjm,e]⟩
    ·exact ⟨j,by omega,e⟩
def sl (l:List (List UInt8)):List (List UInt8):=l.mergeSort fun x y=>decide (x≤y)
theorem zt0 (l:List (List UInt8)):(sl l).Perm l:=List.mergeSort_perm _ _
theorem zql (l:List (List UInt8)):(sl l).length=l.length:=(zt0 l).length_eq
theorem zvg (l:List (List UInt8)):(sl l).Pairwise (· ≤ ·):=by
 have h:=List.pairwise_mergeSort (le:=fun (x y:List UInt8)=>decide (x≤y)) (fun a b c h1 h2=>decide_eq_true (List.le_trans (of_decide_eq_true h1) (of_decide_eq_true h2)))
  (fun a b=>by rw [Bool.or_eq_true,decide_eq_true_eq,decide_eq_true_eq];exact List.le_total a b) l
 exact h.imp (fun h=>of_decide_eq_true h)
def srtL (l:List (List UInt8)):List (List UInt8):=compact (sl l)
theorem zku (l:List (List UInt8)):Asc (srtL l) ∧ ∀ x,x ∈ srtL l↔x ∈ l:=by
 have hd : ∀ i j,i < j→j < (sl l).toArray.size→(sl l).toArray[i]! ≤ (sl l).toArray[j]!:=by
  intro i j hij hj
  have hj':j < (sl l).length:=by simpa using hj
  have h:=List.pairwise_iff_getElem.1 (zvg l) i j (by omega) hj' hij
  rw [getElem!_pos _ i (by simp;omega),getElem!_pos _ j hj]
  simpa using h
 obtain ⟨h1,h2⟩:=zkq _ hd (sl l).length (by simp)
 refine ⟨h1,fun x=>?_⟩
 unfold srtL compact
 rw [h2,← (zt0 l).mem_iff,List.mem_iff_getElem]
 constructor
 ·rintro ⟨j,hj,e⟩
  refine ⟨j,hj,?_⟩
  rw [getElem!_pos _ j (by simpa using hj)] at e
  simpa using e
 ·rintro ⟨j,hj,e⟩
  refine ⟨j,hj,?_⟩
  rw [getElem!_pos _ j (by simpa using hj)]
  simpa using e
def srt (ss:List ByteArray):List ByteArray:=(srtL (ss.map bl)).map lb
theorem zxq (ss:List ByteArray):(srt ss).map bl=srtL (ss.map bl):=by
 unfold srt;rw [List.map_map];exact List.map_id _
theorem zr4 {ss:List ByteArray} {x:ByteArray}:x ∈ srt ss↔x ∈ ss:=by
 unfold srt
 rw [List.mem_map]
 constructor
 ·rintro ⟨l,h,rfl⟩
  obtain ⟨y,hy,e⟩:=List.mem_map.1 (((zku _).2 l).1 h);rw [← e,zx7];exact hy
 ·intro h
  exact ⟨bl x,((zku _).2 _).2 (List.mem_map.2 ⟨x,h,rfl⟩),zx7 x⟩
def AscB (ss:List ByteArray):Prop:=Asc (ss.map bl)
theorem zxj (ss:List ByteArray):AscB (srt ss):=by unfold AscB;rw [zxq];exact (zku _).1
theorem zvk {ss:List ByteArray} (h:AscB ss):ss.Nodup:=by
 unfold AscB Asc at h
 rw [List.pairwise_map] at h
 exact h.imp fun {a b} hab e=>by rw [e] at hab;exact List.lt_irrefl _ hab
theorem zpi (ss:List ByteArray):(srt ss).Nodup:=zvk (zxj ss)
theorem zgn (ss:List ByteArray):(srt ss).length≤ss.length:=by
 have h:(srt ss) ⊆ ss:=fun x hx=>zr4.1 hx
 exact (zpi ss).length_le_of_subset h
theorem zut : ∀ {b:List ByteArray},¬ b.Nodup → ∃ c:List ByteArray,c.length+1=b.length ∧ ∀ x ∈ b,x ∈ c
 | [],h=>absurd List.nodup_nil h
 | y :: t,h=>by
  by_cases hy:y ∈ t
  ·exact ⟨t,rfl,fun x hx=>by
    rcases List.mem_cons.1 hx with rfl|hx
    ·exact hy
    ·exact hx⟩
  ·obtain ⟨c,hc,hs⟩:=zut (b:=t) (fun hn=>h (List.nodup_cons.2 ⟨hy,hn⟩))
   exact ⟨y :: c,by rw [List.length_cons,List.length_cons,hc],fun x hx=>by
    rcases List.mem_cons.1 hx with rfl|hx
    ·exact List.mem_cons_self
    ·exact List.mem_cons_of_mem _ (hs x hx)⟩
theorem zng (ss:List ByteArray):(srt ss).length=ss.length↔ss.Nodup:=by
 constructor
 ·intro h
  refine Classical.byContradiction fun hn=>?_
  obtain ⟨c,hc,hs⟩:=zut hn
  have:=(zpi ss).length_le_of_subset (fun x hx=>hs x (zr4.1 hx))
  omega
 ·intro h
  have h1:ss ⊆ srt ss:=fun x hx=>zr4.2 hx
  have h2:=h.length_le_of_subset h1;have h3:=zgn ss
  omega
def nodB (ss:List ByteArray):Bool:=decide ((srt ss).length=ss.length)
theorem zsb {ss:List ByteArray} (h:ss.Nodup):nodB ss=true:=decide_eq_true ((zng ss).2 h)
theorem zw8 {ss:List ByteArray} (h : ¬ ss.Nodup):nodB ss=false:=decide_eq_false fun e=>h ((zng ss).1 e)
end Go.Proofs.YtmbaajangkmjdaaGreat
