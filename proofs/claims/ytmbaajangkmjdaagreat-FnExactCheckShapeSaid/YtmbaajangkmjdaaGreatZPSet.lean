/-
  A map from addresses to truth values that a call makes and uses as a set, the last address put in being the first taken out.
-/
import Derived.Test.YtmbaajangkmjdaaGreatZKit
import Derived.Maps.OwnSet
import Derived.Lib.Hide
namespace Go.Proofs.YtmbaajangkmjdaaGreat
open Go.ChangeShapes Go.WideShapes Go.ChangeAt Go.RowKit
open Go.ChangeMaps (setBlock heap_setBlock_same heap_setBlock_other)
def zav (w:World) (p:Nat × Nat):Prop:=(∃ t k,w.shape? p.1=some (t,k)) ∧ ∀ o,w.frozen? ⟨p.1,o,none⟩=false
def zdi (p:Nat × Nat):Value:=.pointer (some ⟨p.1,p.2,none⟩)
theorem zav.of_cell {w:World} {b off:Nat} {v:Value} (h:w.cell? ⟨b,off,none⟩=some v) (hz : ∀ o,w.frozen? ⟨b,o,none⟩=false) (o:Nat):zav w (b,o):=by
 refine ⟨?_,hz⟩
 unfold World.cell? at h
 unfold World.shape?
 dsimp only at h ⊢
 cases hb:w.heap[b]? with
 | none=>rw [hb] at h;simp at h
 | some ob =>
  rw [hb] at h
  cases ob with
  | cells c t f=>exact ⟨_,_,rfl⟩
  | _=>simp at h
theorem zpq {P:Program} {w:World} {p q:Nat × Nat} (hp:zav w p) (hq:zav w q) :
  (sameAddr ⟨p.1,p.2,none⟩ ⟨q.1,q.2,none⟩).run P w = .ok (decide (p=q)) w:=by
 obtain ⟨⟨t,k,h1⟩,h2⟩:=hp;obtain ⟨⟨t',k',h3⟩,h4⟩:=hq;obtain ⟨pb,po⟩:=p;obtain ⟨qb,qo⟩:=q
 dsimp only at *
 unfold sameAddr
 by_cases hb:pb=qb
 ·subst hb
  by_cases ho:po=qo
  ·subst ho;simp
  ·have:((⟨pb,po,none⟩:Addr) == ⟨pb,qo,none⟩)=false:=by
    apply beq_eq_false_iff_ne.2
    intro h;injection h with _ h1;exact ho h1
   simp [this,ho]
 ·have hne:(pb == qb)=false:=by simpa using hb
  have hd : ¬ ((pb,po)=(qb,qo)):=by intro h;simp at h;exact hb h.1
  simp [hne,hb,frozen,noView,viewAt,mayBeOne,stringish,shape,Sem.run,h1,h3,h2,h4]
theorem zlz {P:Program} {w:World} (d:Nat) {kt elem:TypeId} {n:Nat} (hk:P.underlying kt=some (.pointer elem)) (hz:(sizeOf elem).run P w = .ok n w) (hn:n≠0) {p q:Nat × Nat} (hp:zav w p) (hq:zav w q) :
  (Op.equalIn (d+1) kt (zdi p) (zdi q)).run P w = .ok (decide (p=q)) w:=by
 have h:=zpq (P:=P) hp hq;have hu:=run_underlying (w:=w) hk
 unfold zdi
 simp [Op.equalIn,hu,hz,hn,h]
theorem zok {P:Program} {w:World} {kt elem:TypeId} {n:Nat} (hk:P.underlying kt=some (.pointer elem)) (hz:(sizeOf elem).run P w = .ok n w) (hn:n≠0) {p q:Nat × Nat} (hp:zav w p) (hq:zav w q) :
  (Op.equal kt (zdi p) (zdi q)).run P w = .ok (decide (p=q)) w:=zlz 9999 hk hz hn hp hq
def PSet (w:World) (b:Nat) (L:List (Nat × Nat)):Prop :=
 ∃ es clock,w.heap[b]? = some (.map es clock)∧es.toList.map (fun e=>(e.key,e.val))=L.map fun p=>(zdi p,Value.bool true)
theorem zfs {P:Program} {w:World} {kt elem:TypeId} {n:Nat} (hk:P.underlying kt=some (.pointer elem)) (hz:(sizeOf elem).run P w = .ok n w) (hn:n≠0) {p:Nat × Nat} (hp:zav w p) :
  ∀ (es:List MapEntry) (L:List (Nat × Nat)) (i:Nat),es.map (fun e=>(e.key,e.val))=(L.map fun p=>(zdi p,Value.bool true))→(∀ q ∈ L,zav w q) →
   (Instr.findAsking kt (zdi p) es i).run P w = .ok ((L.idxOf? p).map fun j=>(i+j,Value.bool true)) w
 | [],[],i,_,_=>by simp [Instr.findAsking]
 | e :: es,q :: L,i,h,hL=>by
  have hq:=hL q (List.mem_cons_self ..)
  simp only [List.map_cons,List.cons.injEq,Prod.mk.injEq] at h
  obtain ⟨⟨h1,h2⟩,h3⟩:=h
  have ih:=zfs hk hz hn hp es L (i+1) h3 fun x hx=>hL x (List.mem_cons_of_mem _ hx)
  have he:=zok hk hz hn hp hq
  unfold Instr.findAsking
  rw [Sem.run_bind,h1,he]
  by_cases hpq:p=q
  ·subst hpq
   simp [Result.andThen,h2,List.idxOf?_cons]
  ·have:(q == p)=false:=beq_eq_false_iff_ne.2 (Ne.symm hpq)
   simp [Result.andThen,hpq,ih,List.idxOf?_cons,this,Function.comp_def,Nat.add_assoc,Nat.add_comm 1]
 | [],_ :: _,_,h,_=>by simp at h
 | _ :: _,[],_,h,_=>by simp at h
theorem zc8 {P:Program} {w:World} {kt elem:TypeId} {n:Nat} (hk:P.underlying kt=some (.pointer elem)) (hz:(sizeOf elem).run P w = .ok n w) (hn:n≠0) {p:Nat × Nat} (hp:zav w p)
  {es:List MapEntry} {L:List (Nat × Nat)} (h:es.map (fun e=>(e.key,e.val))=L.map fun p=>(zdi p,Value.bool true)) (hL : ∀ q ∈ L,zav w q) :
  (Instr.findKey kt (zdi p) es).run P w = .ok ((L.idxOf? p).map fun j=>(j,Value.bool true)) w:=by
 have hu:=run_underlying (w:=w) hk;have hf:=zfs hk hz hn hp es L 0 h hL
 unfold Instr.findKey
 rw [Sem.run_bind,hu]
 simp only [Result.andThen]
 cases es with
 | nil =>
  cases L with
  | nil=>simp [Instr.findNow]
  | cons q L=>simp at h
 | cons e es =>
  cases L with
  | nil=>simp at h
  | cons q L =>
   simp only [List.map_cons,List.cons.injEq,Prod.mk.injEq] at h
   have:Instr.findNow (.pointer elem) (zdi p) (e :: es) 0=none:=by
    unfold Instr.findNow
    rw [h.1.1]
    rfl
   rw [this]
   simpa using hf
theorem zcu {P:Program} {w:World} (e:Bool) (d:Nat) {kt elem:TypeId} (hk:P.underlying kt=some (.pointer elem)) (p:Nat × Nat):(Instr.checkKey e (d+1) kt (zdi p)).run P w = .ok () w:=by
 have hu:=run_underlying (w:=w) hk
 unfold zdi
 simp [Instr.checkKey,hu]
section
variable {P:Program} {w:World} {t kt e elem:TypeId} {n b:Nat} {L:List (Nat × Nat)} {p:Nat × Nat}
theorem PSet.made:PSet (w.alloc (.map #[] 0)) w.heap.size []:=⟨#[],0,by
  show (w.heap.push _)[w.heap.size]? = _
  rw [Array.getElem?_push,if_pos rfl],rfl⟩
theorem PSet.lt (h:PSet w b L):b < w.heap.size:=by
 obtain ⟨es,clock,h1,_⟩:=h;exact (Array.getElem?_eq_some_iff.1 h1).1
theorem PSet.block {w':World} (h:PSet w b L) (hb:w'.heap[b]? = w.heap[b]?):PSet w' b L:=by
 obtain ⟨es,clock,h1,h2⟩:=h;exact ⟨es,clock,hb.trans h1,h2⟩
theorem PSet.look (ht:P.underlying t=some (.map kt e)) (hk:P.underlying kt=some (.pointer elem)) (hs:(sizeOf elem).run P w = .ok n w) (hn:n≠0) (hz:(zeroValue e).run P w = .ok (.bool false) w)
  (h:PSet w b L) (hp:zav w p) (hL : ∀ q ∈ L,zav w q) :
  (Instr.lookup t (.map (some b)) (zdi p) false).run P w = .ok (.bool (decide (p ∈ L))) w:=by
 obtain ⟨es,clock,h1,h2⟩:=h;have hf:=zc8 hk hs hn hp h2 hL
 have hc:=fun x=>zcu (P:=P) (w:=w) x 9999 hk p
 have hu:=run_underlying (w:=w) ht
 have hg:(getObj b).run P w = .ok (.map es clock) w:=by simp [getObj,Sem.run,h1]
 unfold Instr.lookup
 simp only [Sem.run_bind,hu,Result.andThen,hg,hc,hf,Sem.run_pure]
 by_cases hm:p ∈ L
 ·obtain ⟨j,hj⟩ : ∃ j,L.idxOf? p=some j:=by
   cases hq:L.idxOf? p with
   | none=>exact absurd hm (by simpa using hq)
   | some j=>exact ⟨j,rfl⟩
  simp [hj,hm]
 ·have hj:L.idxOf? p=none:=by simpa using hm
  simp [hj,hm,hz]
theorem PSet.put (ht:P.underlying t=some (.map kt e)) (hk:P.underlying kt=some (.pointer elem)) (hs:(sizeOf elem).run P w = .ok n w) (hn:n≠0)
  (h:PSet w b L) (hp:zav w p) (hL : ∀ q ∈ L,zav w q) (hm:p ∉ L) :
  ∃ w',(Instr.mapUpdate t (.map (some b)) (zdi p) (.bool true)).run P w = .ok () w'∧PSet w' b (L ++ [p])∧w.grownBy w' (some b):=by
 obtain ⟨es,clock,h1,h2⟩:=h;have hf:=zc8 hk hs hn hp h2 hL
 have hj:L.idxOf? p=none:=by simpa using hm
 rw [hj] at hf
 have hc:=fun x=>zcu (P:=P) (w:=w) x 9999 hk p
 have hu:=run_underlying (w:=w) ht
 have hg:(getObj b).run P w = .ok (.map es clock) w:=by simp [getObj,Sem.run,h1]
 have hset:(setObj b (.map (es.push { key:=zdi p,val:=.bool true,born:=clock }) (clock+1))).run P w = .ok () (setBlock w b (.map (es.push { key:=zdi p,val:=.bool true,born:=clock }) (clock+1))):=by
  simp [setObj,Sem.run,h1,setBlock]
 refine ⟨setBlock w b (.map (es.push { key:=zdi p,val:=.bool true,born:=clock }) (clock+1)),?_,⟨_,_,heap_setBlock_same h1 _,?_⟩,⟨rfl,rfl,rfl,by simp [setBlock],fun i _ hi=>heap_setBlock_other h1 _ (fun e=>hi (by rw [e]))⟩⟩
 ·unfold Instr.mapUpdate
  simp only [Sem.run_bind,hu,Result.andThen,hg,hc,hf,Option.map_none,hset]
 ·simp [h2]
theorem znl : ∀ {L:List (Nat × Nat)} {p:Nat × Nat},p ∉ L→(L ++ [p]).idxOf? p=some L.length
 | [],p,_=>by simp [List.idxOf?_cons]
 | q :: L,p,hm=>by
  have hq:(q == p)=false:=beq_eq_false_iff_ne.2 fun e=>hm (by rw [e];exact List.mem_cons_self ..)
  rw [List.cons_append,List.idxOf?_cons,znl fun h=>hm (List.mem_cons_of_mem _ h),hq]
  simp
theorem PSet.drop (ht:P.underlying t=some (.map kt e)) (hk:P.underlying kt=some (.pointer elem)) (hs:(sizeOf elem).run P w = .ok n w) (hn:n≠0)
  (h:PSet w b (L ++ [p])) (hp:zav w p) (hL : ∀ q ∈ L,zav w q) (hm:p ∉ L) (ty:TypeId) :
  ∃ w',(Builtin.delete_ #[t,kt] ty #[.map (some b),zdi p]).run P w = .ok (.tuple #[]) w'∧PSet w' b L∧w.grownBy w' (some b):=by
 obtain ⟨es,clock,h1,h2⟩:=h
 have hf:=zc8 hk hs hn hp h2 (fun q hq=>by
  rcases List.mem_append.1 hq with hq|hq
  ·exact hL q hq
  ·rw [List.mem_singleton.1 hq];exact hp)
 have hj:=znl hm;rw [hj] at hf
 have hc:=fun x=>zcu (P:=P) (w:=w) x 9999 hk p
 have hu:=run_underlying (w:=w) ht
 have hg:(getObj b).run P w = .ok (.map es clock) w:=by simp [getObj,Sem.run,h1]
 have hset:(setObj b (.map (es.eraseIdxIfInBounds L.length) clock)).run P w = .ok () (setBlock w b (.map (es.eraseIdxIfInBounds L.length) clock)):=by
  simp [setObj,Sem.run,h1,setBlock]
 refine ⟨setBlock w b (.map (es.eraseIdxIfInBounds L.length) clock),?_,⟨_,_,heap_setBlock_same h1 _,?_⟩,⟨rfl,rfl,rfl,by simp [setBlock],fun i _ hi=>heap_setBlock_other h1 _ (fun e=>hi (by rw [e]))⟩⟩
 ·unfold Builtin.delete_
  simp [hu,hg,hc,hf,hset]
 ·have hsz:es.size=L.length+1:=by
   have:=congrArg List.length h2
   simpa using this
  have he:(es.eraseIdxIfInBounds L.length).toList=es.toList.eraseIdx L.length:=by
   unfold Array.eraseIdxIfInBounds
   rw [dif_pos (by omega),Array.toList_eraseIdx]
  rw [he,Go.ChangeMaps.map_eraseIdx,h2,List.map_append,List.eraseIdx_append_of_length_le (by simp)]
  simp
end
section
variable {P:Program} (w:World) {ops:Array Oper} {rest:List Oper} {o:Oper} {a:Act} {Q:Exit→Act→World→Prop}
theorem zjg (hg:o.guard=none) (m x:Operand) (t:TypeId) (hop:o.op=Op.lookup t m x false) (kt e elem:TypeId) (n:Nat) (ht:P.underlying t=some (.map kt e)) (hk:P.underlying kt=some (.pointer elem)) (hs:(sizeOf elem).run P w = .ok n w) (hn:n≠0) (hz:(zeroValue e).run P w = .ok (.bool false) w)
  (b:Nat) (L:List (Nat × Nat)) (hm:a.eval m = .map (some b)) (h:PSet w b L) (p:Nat × Nat) (hx:a.eval x=zdi p) (hp:zav w p) (hL : ∀ q ∈ L,zav w q)
  (hK:wpList P ops Q rest (a.put o.dst (.bool (decide (p ∈ L)))) w):wpList P ops Q (o :: rest) a w:=by
 refine wpList_plain hg fun K' hK'=>?_
 have hrun:=h.look ht hk hs hn hz hp hL
 unfold Oper.wp
 simp [execOp,hop,hm,hx,hrun,Result.andThen]
 exact hK' _ _ hK
theorem zg6 (hg:o.guard=none) (m x v:Operand) (t:TypeId) (hop:o.op=Op.mapUpdate t m x v) (kt e elem:TypeId) (n:Nat) (ht:P.underlying t=some (.map kt e)) (hk:P.underlying kt=some (.pointer elem)) (hs:(sizeOf elem).run P w = .ok n w) (hn:n≠0)
  (b:Nat) (L:List (Nat × Nat)) (hm:a.eval m = .map (some b)) (h:PSet w b L) (p:Nat × Nat) (hx:a.eval x=zdi p) (hv:a.eval v = .bool true) (hp:zav w p) (hL : ∀ q ∈ L,zav w q) (hnot:p ∉ L)
  (hK : ∀ w',PSet w' b (L ++ [p])→w.grownBy w' (some b)→wpList P ops Q rest (a.put o.dst undef) w'):wpList P ops Q (o :: rest) a w:=by
 refine wpList_plain hg fun K' hK'=>?_
 obtain ⟨w',hrun,r1,r2⟩:=h.put ht hk hs hn hp hL hnot
 unfold Oper.wp
 simp [execOp,hop,hm,hx,hv,hrun,Result.andThen]
 exact hK' _ _ (hK w' r1 r2)
theorem zgk (hg:o.guard=none) (m x:Operand) (t kt:TypeId) (hop:o.op=Op.call { callee:=Callee.builtin Builtin.delete,args:=#[m,x],argTypes:=#[t,kt] }) (e elem:TypeId) (n:Nat) (ht:P.underlying t=some (.map kt e)) (hk:P.underlying kt=some (.pointer elem)) (hs:(sizeOf elem).run P w = .ok n w) (hn:n≠0)
  (b:Nat) (L:List (Nat × Nat)) (hm:a.eval m = .map (some b)) (p:Nat × Nat) (h:PSet w b (L ++ [p])) (hx:a.eval x=zdi p) (hp:zav w p) (hL : ∀ q ∈ L,zav w q) (hnot:p ∉ L)
  (hK : ∀ w',PSet w' b L→w.grownBy w' (some b)→wpList P ops Q rest (a.put o.dst (.tuple #[])) w'):wpList P ops Q (o :: rest) a w:=by
 refine wpList_plain hg fun K' hK'=>?_
 obtain ⟨w',hrun,r1,r2⟩:=h.drop ht hk hs hn hp hL hnot o.type
 unfold Oper.wp
 simp [execOp,hop,resolve,invoke,builtin,hm,hx,hrun,Result.andThen]
 exact hK' _ _ (hK w' r1 r2)
end
end Go.Proofs.YtmbaajangkmjdaaGreat
