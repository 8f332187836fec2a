/-
  Lists without doubles, in order: put one by one, or sorted and then compacted: one list. Over any strict order.
-/
import Derived.RangeFuncNested
namespace Go.Proofs.YtmbaajangkmjdaaGreat
structure Strict {α : Type} (lt : α → α → Bool):Prop where
 irrefl : ∀ a,lt a a=false
 trans : ∀ a b c,lt a b=true→lt b c=true→lt a c=true
 total : ∀ a b,lt a b=false→lt b a=false→a=b
section
variable {α : Type} {lt : α → α → Bool}
theorem Strict.asymm (h:Strict lt) {a b : α} (hab:lt a b=true):lt b a=false:=by
 cases hba:lt b a
 ·rfl
 ·have:=h.trans a b a hab hba
  rw [h.irrefl] at this
  cases this
theorem Strict.ge_trans (h:Strict lt) {a b c : α} (hab:lt b a=false) (hbc:lt c b=false):lt c a=false:=by
 cases hca:lt c a
 ·rfl
 ·cases hb:lt a b
  ·have:=h.total a b hb hab;subst this;rw [hca] at hbc;cases hbc
  ·rw [h.trans c a b hca hb] at hbc;cases hbc
def putL (lt : α → α → Bool) (x : α):List α → List α
 | []=>[x]
 | y :: ys=>if lt y x=true then y :: putL lt x ys else if lt x y=true then x :: y :: ys else y :: ys
theorem zn9 (h:Strict lt) {x a : α} : ∀ {l:List α},a ∈ putL lt x l↔a=x∨a ∈ l
 | []=>by simp [putL]
 | y :: ys=>by
  unfold putL
  split
  ·rw [List.mem_cons,zn9 h,List.mem_cons]
   constructor
   ·rintro (e|e|e)
    ·exact .inr (.inl e)
    ·exact .inl e
    ·exact .inr (.inr e)
   ·rintro (e|e|e)
    ·exact .inr (.inl e)
    ·exact .inl e
    ·exact .inr (.inr e)
  ·split
   ·rw [List.mem_cons]
   ·rename_i h1 h2
    have e:=h.total y x (by simpa using h1) (by simpa using h2)
    subst e
    constructor
    ·exact .inr
    ·rintro (e|e)
     ·rw [e];exact List.mem_cons_self ..
     ·exact e
theorem zk0 (h:Strict lt) {x : α} : ∀ {l:List α},l.Pairwise (fun a b=>lt a b=true)→(putL lt x l).Pairwise (fun a b=>lt a b=true)
 | [],_=>List.pairwise_singleton _ _
 | y :: ys,hp=>by
  have hp':=List.pairwise_cons.1 hp
  unfold putL
  split
  ·rename_i h1
   refine List.pairwise_cons.2 ⟨fun a ha=>?_,zk0 h hp'.2⟩
   rcases (zn9 h).1 ha with rfl|ha
   ·exact h1
   ·exact hp'.1 a ha
  ·split
   ·rename_i h1 h2
    refine List.pairwise_cons.2 ⟨fun a ha=>?_,hp⟩
    rcases List.mem_cons.1 ha with rfl|ha
    ·exact h2
    ·exact h.trans _ _ _ h2 (hp'.1 a ha)
   ·exact hp
def zaq (lt : α → α → Bool) (acc:List α) (l:List α):List α:=l.foldl (fun s x=>putL lt x s) acc
theorem zhv (h:Strict lt) {a : α} : ∀ {l acc:List α},a ∈ zaq lt acc l↔a ∈ acc∨a ∈ l
 | [],acc=>by simp [zaq]
 | x :: l,acc=>by
  show a ∈ zaq lt (putL lt x acc) l↔_
  rw [zhv h,zn9 h,List.mem_cons]
  constructor
  ·rintro ((e|e)|e)
   ·exact .inr (.inl e)
   ·exact .inl e
   ·exact .inr (.inr e)
  ·rintro (e|e|e)
   ·exact .inl (.inr e)
   ·exact .inl (.inl e)
   ·exact .inr e
theorem zg8 (h:Strict lt) : ∀ {l acc:List α},acc.Pairwise (fun a b=>lt a b=true)→(zaq lt acc l).Pairwise (fun a b=>lt a b=true)
 | [],_,hp=>hp
 | _ :: l,_,hp=>zg8 h (l:=l) (zk0 h hp)
def zaa (lt : α → α → Bool):List α → List α
 | []=>[]
 | [x]=>[x]
 | x :: y :: l=>if lt x y=true∨lt y x=true then x :: zaa lt (y :: l) else zaa lt (y :: l)
theorem zdk (h:Strict lt) {a : α} : ∀ {l:List α},a ∈ zaa lt l↔a ∈ l
 | []=>by simp [zaa]
 | [x]=>by simp [zaa]
 | x :: y :: l=>by
  unfold zaa
  split
  ·rw [List.mem_cons,zdk h,← List.mem_cons]
  ·rename_i hn
   have e:=h.total x y (by cases e:lt x y;rfl;exact absurd (.inl e) hn) (by cases e:lt y x;rfl;exact absurd (.inr e) hn)
   subst e;rw [zdk h]
   constructor
   ·exact List.mem_cons_of_mem _
   ·intro ha
    rcases List.mem_cons.1 ha with rfl|ha
    ·exact List.mem_cons_self ..
    ·exact ha
theorem zc4 (h:Strict lt) : ∀ {l:List α},l.Pairwise (fun a b=>lt b a=false)→(zaa lt l).Pairwise (fun a b=>lt a b=true)
 | [],_=>List.Pairwise.nil
 | [x],_=>List.pairwise_singleton _ _
 | x :: y :: l,hp=>by
  have hp':=List.pairwise_cons.1 hp
  unfold zaa
  split
  ·rename_i hn
   have hxy:lt x y=true:=by
    rcases hn with e|e
    ·exact e
    ·rw [hp'.1 y (List.mem_cons_self ..)] at e;cases e
   refine List.pairwise_cons.2 ⟨fun a ha=>?_,zc4 h hp'.2⟩
   rcases List.mem_cons.1 ((zdk h).1 ha) with rfl|ha
   ·exact hxy
   ·cases e:lt x a
    ·have:=h.total x a e (hp'.1 a (List.mem_cons_of_mem _ ha))
     subst this;rw [(List.pairwise_cons.1 hp'.2).1 x ha] at hxy
     cases hxy
    ·rfl
  ·exact zc4 h hp'.2
theorem znc (h:Strict lt) : ∀ {l l':List α},l.Pairwise (fun a b=>lt a b=true)→l'.Pairwise (fun a b=>lt a b=true)→(∀ a,a ∈ l↔a ∈ l')→l=l'
 | [],[],_,_,_=>rfl
 | [],y :: l',_,_,hm=>by have:=(hm y).2 (List.mem_cons_self ..);cases this
 | x :: l,[],_,_,hm=>by have:=(hm x).1 (List.mem_cons_self ..);cases this
 | x :: l,y :: l',hp,hp',hm=>by
  have q:=List.pairwise_cons.1 hp;have q':=List.pairwise_cons.1 hp'
  have e:x=y:=by
   rcases List.mem_cons.1 ((hm x).1 (List.mem_cons_self ..)) with e|e
   ·exact e
   ·rcases List.mem_cons.1 ((hm y).2 (List.mem_cons_self ..)) with e2|e2
    ·exact e2.symm
    ·have h1:=q'.1 x e
     rw [h.asymm (q.1 y e2)] at h1
     cases h1
  subst e
  refine congrArg (x :: ·) (znc h q.2 q'.2 fun a=>?_)
  constructor
  ·intro ha
   rcases List.mem_cons.1 ((hm a).1 (List.mem_cons_of_mem _ ha)) with rfl|e
   ·have:=q.1 a ha;rw [h.irrefl] at this;cases this
   ·exact e
  ·intro ha
   rcases List.mem_cons.1 ((hm a).2 (List.mem_cons_of_mem _ ha)) with rfl|e
   ·have:=q'.1 a ha;rw [h.irrefl] at this;cases this
   ·exact e
theorem zp6 (h:Strict lt) (l:List α):zaa lt (l.mergeSort fun x y=>!lt y x)=zaq lt [] l:=by
 have hs:(l.mergeSort fun x y=>!lt y x).Pairwise (fun a b=>(!lt b a)=true):=List.pairwise_mergeSort (fun a b c hab hbc=>by
  simp only [Bool.not_eq_true'] at *
  exact h.ge_trans hab hbc) (fun a b=>by
  cases e:lt b a
  ·rfl
  ·rw [h.asymm e];rfl) l
 refine znc h (zc4 h (hs.imp fun hq=>by simpa using hq)) (zg8 h List.Pairwise.nil) fun a=>?_
 rw [zdk h,zhv h,(List.mergeSort_perm l _).mem_iff]
 simp
end
end Go.Proofs.YtmbaajangkmjdaaGreat
