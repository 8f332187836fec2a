/-
  What the laws' own helpers sz.. return, and small facts for their walks.
  The first index of an element that meets a test, as a number.
  A list of plain rows that a call grows by append: what it holds, and that it is the call's own.
  A list that a call grows by append, whose rows hold data of their own: what it holds, and that it is the call's own.
  append(s, list...) where list is a list of plain rows that lies in memory.
-/
import Derived.Test.YtmbaajangkmjdaaGreatZz1
import Derived.Deep.QuietTactic
import Derived.Laws.AppendOwnNone
namespace Go.Proofs.YtmbaajangkmjdaaGreat
open Go.ChangeShapes Go.WideShapes Go.ChangeAt Go.RowKit Go.Deep
theorem zan {a b:Int} (h:a=b):Ending.returned (Value.int .i64 a) = .returned (.int .i64 b):=by rw [h]
theorem zh {a b:Bool} (h:a=b):Ending.returned (Value.bool a) = .returned (.bool b):=by rw [h]
def szR (L:Int) (n:Nat):Int:=if (n:Int)≤L then L - n else -1
theorem zas {L:Int} {n:Nat} (h:(n:Int)≤L):szR L n=L - n:=if_pos h
theorem zae {L:Int} {n:Nat} (h:L < (n:Int)):szR L n = -1:=if_neg (by omega)
def lsz {α : Type} (f : α → Nat) (l:List α):Nat:=l.length+(l.map f).sum
def psz {α : Type} (f : α → Nat) (l:List α) (k:Nat):Nat:=((l.take k).map f).sum
theorem zba {α : Type} (f : α → Nat) (l:List α):psz f l 0=0:=by unfold psz;simp
theorem zc0 {α : Type} [Inhabited α] (f : α → Nat) (l:List α) (k:Nat) (hk:k < l.length):psz f l (k+1)=psz f l k+f (l.getD k default):=by
 unfold psz
 rw [List.take_succ_eq_append_getElem hk,List.map_append,List.sum_append,List.getD_eq_getElem?_getD,List.getElem?_eq_getElem hk]
 simp
theorem zb0 {α : Type} (f : α → Nat) (l:List α):psz f l l.length=(l.map f).sum:=by unfold psz;rw [List.take_length]
theorem zhd {α : Type} (f : α → Nat) (l:List α) (k:Nat):l.length+psz f l k≤lsz f l:=by
 have h:=congrArg (fun l=>(l.map f).sum) (List.take_append_drop k l)
 unfold psz lsz
 simp only [List.map_append,List.sum_append] at h
 omega
theorem zab {α : Type} [Inhabited α] {f : α → Nat} (l:List α) (k:Nat) (hk:k < l.length):f (l.getD k default)≤lsz f l:=by
 have h1:=zc0 f l k hk;have h2:=zhd f l (k+1)
 omega
def idxI {α : Type} (p : α → Bool) (l:List α):Int:=match l.findIdx? p with|some k=>(k:Int)|none=>-1
theorem zbh {α : Type} [Inhabited α] {p : α → Bool} {l:List α} (h : ∀ i,i < l.length→p (l.getD i default)=false):idxI p l = -1:=by
 unfold idxI
 have:l.findIdx? p=none:=by
  rw [List.findIdx?_eq_none_iff];intro x hx;obtain ⟨i,hi,rfl⟩:=List.getElem_of_mem hx
  have:=h i hi
  rw [List.getD_eq_getElem?_getD,List.getElem?_eq_getElem hi] at this
  simpa using this
 rw [this]
theorem zdh {α : Type} [Inhabited α] {p : α → Bool} {l:List α} {k:Nat} (hk:k < l.length) (hp:p (l.getD k default)=true) (h : ∀ i,i < k→p (l.getD i default)=false):idxI p l=k:=by
 unfold idxI
 have:l.findIdx? p=some k:=by
  rw [List.findIdx?_eq_some_iff_getElem]
  refine ⟨hk,?_,fun i hi=>?_⟩
  ·rw [List.getD_eq_getElem?_getD,List.getElem?_eq_getElem hk] at hp;simpa using hp
  ·have:=h i hi
   rw [List.getD_eq_getElem?_getD,List.getElem?_eq_getElem (by omega)] at this
   simpa using this
 rw [this]
def zah {α : Type} [Inhabited α] (p : α → Bool) (l:List α) (k:Nat):Prop:=∀ i,i < k→p (l.getD i default)=false
theorem zx {α : Type} [Inhabited α] (p : α → Bool) (l:List α):zah p l 0:=fun _ h=>absurd h (Nat.not_lt_zero _)
theorem zt {α : Type} [Inhabited α] {p : α → Bool} {l:List α} {k:Nat} (h:zah p l k) (hp:p (l.getD k default)=false):zah p l (k+1):=by
 intro i hi
 by_cases hik:i=k
 ·subst hik;exact hp
 ·exact h i (by omega)
theorem znz {α : Type} {n:Nat} {vals : α → List Value} (hv : ∀ x,(vals x).length=n) : ∀ l:List α,(l.flatMap vals).length=l.length * n
 | []=>by simp
 | x :: l=>by rw [List.flatMap_cons,List.length_append,hv,znz hv l,List.length_cons,Nat.succ_mul,Nat.add_comm]
theorem zg9 {α : Type} [Inhabited α] {n:Nat} {vals : α → List Value} (hv : ∀ x,(vals x).length=n) : ∀ (l:List α) (t c:Nat),t < l.length→c < n→(l.flatMap vals)[t * n+c]? = some ((vals (l.getD t default)).getD c .nilFunc)
 | [],t,c,h,_=>absurd h (Nat.not_lt_zero _)
 | x :: l,0,c,_,hc=>by
  rw [List.flatMap_cons,Nat.zero_mul,Nat.zero_add,List.getElem?_append_left (by rw [hv];exact hc)]
  show (vals x)[c]? = some ((vals x).getD c .nilFunc)
  rw [List.getD_eq_getElem?_getD,List.getElem?_eq_getElem (by rw [hv];exact hc)]
  rfl
 | x :: l,t+1,c,h,hc=>by
  rw [List.flatMap_cons,List.getElem?_append_right (by rw [hv,Nat.succ_mul];omega),hv,show (t+1) * n+c - n=t * n+c by rw [Nat.succ_mul];omega]
  exact zg9 hv l t c (by simpa using h) hc
theorem zkx {α : Type} {vals : α → List Value} (l:List α) (x : α):(l ++ [x]).flatMap vals=l.flatMap vals ++ vals x:=by
 rw [List.flatMap_append,List.flatMap_cons,List.flatMap_nil,List.append_nil]
theorem zbs {w':World} {B n:Nat} {v':Value} {e:TypeId} {α : Type} {vals : α → List Value} {l:List α} {x : α} {news:List Value} (h:w'.ownsRow B e n v' (l.length+1) (l.flatMap vals ++ news)) (hn:news=vals x) :
  w'.ownsRow B e n v' (l ++ [x]).length ((l ++ [x]).flatMap vals):=by
 rw [zkx,List.length_append,← hn];exact h
theorem zd4 {w:World} {B n:Nat} {v:Value} {e:TypeId} {α : Type} [Inhabited α] {vals : α → List Value} {ct : α → Nat→Ct} {l:List α} (_hn0:0 < n) (hv : ∀ x,(vals x).length=n) (hct : ∀ x c,c < n→ct x c = .lit ((vals x).getD c .nilFunc)) (h:w.ownsRow B e n v l.length (l.flatMap vals)) :
  ∃ a cap,v = .slice a l.length cap∧Own w (fun y=>B≤y∧y < w.heap.size) (.sl n l.length fun t=>ct (l.getD t default)) (.slice a l.length cap):=by
 rcases h.2 with ⟨h',hx⟩|⟨g,cap,cur,rfl,hB,hg,_⟩
 ·rw [hx]
  exact ⟨none,0,h',.nil _ _ _ _ _⟩
 ·have hlt:g < w.heap.size:=(Array.getElem?_eq_some_iff.1 hg).1
  refine ⟨some ⟨g,0,none⟩,cap,rfl,.row _ n l.length _ g 0 cap (fun t c=>(vals (l.getD t default)).getD c .nilFunc) (fun _ _ _=>False) ⟨hB,hlt⟩ hlt (fun t ht c hc=>?_) (fun o=>h.frozenAt o) (fun t ht c hc=>?_) (fun _ _ _ _ _ hx=>hx.elim) (fun _ _ _ _ _ _ _ _ _ hx=>hx.elim)⟩
  ·rw [Nat.zero_add,h.cellAt (t * n+c) ?_,zg9 hv l t c ht hc]
   have:=Nat.mul_le_mul_right n (show t+1≤l.length from ht)
   rw [Nat.succ_mul] at this
   omega
  ·show Own w _ (ct (l.getD t default) c) _
   rw [hct _ c hc];exact .lit _ _
theorem zc3 {w:World} {e:TypeId} {n:Nat} {α : Type} {vals : α → List Value}:(w.alloc (.cells #[] e)).ownsRow w.heap.size e n (.slice (some ⟨w.heap.size,0,none⟩) 0 0) ([]:List α).length (([]:List α).flatMap vals) :=
 World.ownsRow_made w #[] 0 (Nat.le_refl _) (Nat.zero_le _) (by simp)
theorem zg7 {w:World} {B:Nat} {e:TypeId} {n:Nat} {α : Type} {vals : α → List Value}:w.ownsRow B e n (.slice none 0 0) ([]:List α).length (([]:List α).flatMap vals):=⟨by simp,Or.inl ⟨rfl,rfl⟩⟩
theorem zcq {α : Type} [Inhabited α] {l:List α} {k:Nat} (hk:k < l.length):l.take (k+1)=l.take k ++ [l.getD k default]:=by
 rw [List.take_succ_eq_append_getElem hk,List.getD_eq_getElem?_getD,List.getElem?_eq_getElem hk]
 rfl
section
variable {P:Program}
theorem zo0 {w:World} (base:Nat) (t ty e:TypeId) (i:TypeInfo) (z:Value) (size bytes:Nat) (ht:P.underlying t=some (.slice e)) (hi:P.info? e=some i) (hz:i.zero=some z)
  (hsize:i.size=size) (hby:i.bytes=bytes) (hzs:z.cells.size=size) (hsz:0 < size)
  (v:Value) (n:Nat) (xs:List Value) (hown:w.ownsRow base e size v n xs)
  (a:Addr) (m c:Nat) (news:List Value) (hl:news.length=m * size) (hnews : ∀ j u,news[j]? = some u→w.cell? (a.add j)=some u) (h1 : ∀ u ∈ news,u.oneCell'=true)
  (h63:n+m≤maxLen) (hbytes:(n+m) * bytes≤140737488355328) (hbase:base≤w.heap.size) :
  ∃ v' w',(Builtin.append_ #[t,t] ty #[v,.slice (some a) m c]).run P w = .ok v' w'∧w'.ownsRow base e size v' (n+m) (xs ++ news)∧w.grownBy w' v.ownBlock∧(v'.ownBlock=v.ownBlock∨v'.ownBlock=some w.heap.size):=by
 obtain ⟨v',w',hr,h2,h3,_⟩:=run_append_own (P:=P) w base t ty e i z size bytes ht hi hz hsize hby hzs hsz v n xs hown a m c news hl hnews h1 h63 hbytes hbase;refine ⟨v',w',hr,h2,h3,?_⟩;subst hsize;subst hby
 rcases hown.2 with ⟨rfl,rfl⟩|⟨g,cap,cur,rfl,hbg,hg,hnc,hcm,hcs,htake⟩
 ·by_cases hm:m=0
  ·subst hm
   have hn:news=[]:=List.eq_nil_of_length_eq_zero (by simpa using hl)
   subst hn
   simp [Builtin.append_,run_underlying ht,sizeOf,typeInfo,hi,Builtin.lenOf,Builtin.firstCells,loadCells,loadCellsFrom] at hr
   exact .inl (by rw [← hr.1])
  ·have hr':=run_append_nil (P:=P) w t ty e i z ht hi hz a m c news hl hnews (by omega) (by unfold maxLen at h63;omega) (by have hb:=hbytes;simp only [Nat.zero_add] at hb;omega)
   rw [hr'] at hr
   simp only [Result.ok.injEq] at hr
   exact .inr (by rw [← hr.1];rfl)
 ·by_cases hroom:n+m≤cap
  ·have hfit:n * i.size+news.length≤cur.size:=by rw [hl,hcs,← Nat.add_mul];exact Nat.mul_le_mul_right _ hroom
   have hr':=run_append_room (P:=P) w t ty e i ht hi g n cap cur hg a m c news hl hnews h1 hroom hfit;rw [hr'] at hr
   simp only [Result.ok.injEq] at hr
   exact .inl (by rw [← hr.1];rfl)
  ·have holds : ∀ j u,xs[j]? = some u→w.cell? ((⟨g,0,none⟩:Addr).add j)=some u:=hown.cells (g:=g) rfl
   have hr':=run_append_grow (P:=P) w t ty e i z ht hi hz ⟨g,0,none⟩ n cap xs hown.1 holds a m c news hl hnews (by omega) (by unfold maxLen at h63;omega) (growslice_fits (by omega) hbytes)
   rw [hr'] at hr
   simp only [Result.ok.injEq] at hr
   exact .inr (by rw [← hr.1];rfl)
theorem zp {w:World} {ops:Array Oper} {rest:List Oper} {o:Oper} {a:Act} {Q:Exit→Act→World→Prop} (hgd:o.guard=none) (s x:Operand) (t:TypeId)
  (ho:o.op = .call { callee:=.builtin .append,args:=#[s,x],argTypes:=#[t,t] })
  (base:Nat) (e:TypeId) (i:TypeInfo) (z:Value) (size bytes:Nat) (ht:P.underlying t=some (.slice e)) (hi:P.info? e=some i) (hz:i.zero=some z)
  (hsize:i.size=size) (hby:i.bytes=bytes) (hzs:z.cells.size=size) (hsz:0 < size)
  (v:Value) (n:Nat) (xs:List Value) (hs:a.eval s=v) (hown:w.ownsRow base e size v n xs)
  (ad:Addr) (m c:Nat) (news:List Value) (hx:a.eval x = .slice (some ad) m c) (hl:news.length=m * size) (hnews : ∀ j u,news[j]? = some u→w.cell? (ad.add j)=some u) (h1 : ∀ u ∈ news,u.oneCell'=true)
  (h63:n+m≤maxLen) (hbytes:(n+m) * bytes≤140737488355328) (hbase:base≤w.heap.size)
  (h : ∀ v' w',w'.ownsRow base e size v' (n+m) (xs ++ news)→w.grownBy w' v.ownBlock→(v'.ownBlock=v.ownBlock∨v'.ownBlock=some w.heap.size)→wpList P ops Q rest (a.put o.dst v') w'):wpList P ops Q (o :: rest) a w:=by
 refine wpList_plain hgd fun K hK=>?_
 obtain ⟨v',w',hr,h2,h3,h4⟩:=zo0 (P:=P) base t o.type e i z size bytes ht hi hz hsize hby hzs hsz v n xs hown ad m c news hl hnews h1 h63 hbytes hbase
 unfold Oper.wp execOp
 simp only [ho,resolve,invoke,builtin,Sem.run_bind,Sem.run_pure,Result.andThen_ok,List.map_toArray,List.map_cons,List.map_nil,hs,hx,hr]
 exact hK _ _ (h v' w' h2 h3 h4)
end
theorem za {w:World} {g j:Nat} {v:Value} {cs:Array Value} {t:TypeId} {fr:Nat × Nat} (h:w.heap[g]? = some (.cells cs t fr)) (hj:cs[j]? = some v):w.cell? ⟨g,j,Option.none⟩=some v:=by
 simp only [World.cell?,h]
 exact hj
theorem zay {w:World} {g j:Nat} {cs:Array Value} {t:TypeId} (h:w.heap[g]? = some (.cells cs t (0,0))):w.frozen? ⟨g,j,Option.none⟩=false:=by
 simp only [World.frozen?,h]
 simp
theorem zbu {w:World} {g j:Nat} {u:Value} {cs cs':Array Value} {t:TypeId} {fr:Nat × Nat} (h:w.heap[g]? = some (.cells cs t fr)) (hc:cs.setIfInBounds j u=cs'):(w.setCell ⟨g,j,Option.none⟩ u).heap[g]? = some (.cells cs' t fr):=by
 rw [← hc];exact zm h
theorem zgv {w:World} {cs:List Value} {t:TypeId} : ∀ j u,cs[j]? = some u→(w.alloc (.cells cs.toArray t)).cell? ((⟨w.heap.size,0,Option.none⟩:Addr).add j)=some u:=by
 intro j u h;rw [Go.WideShapes.add_plain,Nat.zero_add]
 exact za (ze rfl) (by simpa using h)
theorem zef {F:Nat→Prop} {a w:World} {g:Nat} {cs:Array Value} (h:Kept F a w) (hF : ¬ F g):Kept F a (w.setRow g cs) :=
 h.trans ⟨by simp [World.setRow],fun b hb _=>setRow_other w g b cs (fun e=>hF (e ▸ hb))⟩
theorem zbz {B g:Nat} {w0 w:World} (hb:Below B w0 w) (hBg:B≤g) (cs:Array Value):Below B w0 (w.setRow g cs) :=
 hb.trans ⟨rfl,rfl,rfl,by simp [World.setRow],fun k hk=>setRow_other w g k cs (by omega)⟩
def Rows (B:Nat) (w:World) (n:Nat) (r:Option Nat) (len:Nat) (c:Nat→Nat→Ct) (xs:List Value):Prop :=
 ∃ G:Nat→Nat→Prop,(∀ k,k < len→OwnR w (G k) n (c k) (fun j=>xs.getD (k * n+j) .nilFunc))∧(∀ k,k < len → ∀ x,G k x→B≤x∧x < w.heap.size∧r≠some x) ∧ ∀ k,k < len → ∀ k',k' < len → ∀ x,G k x→G k' x→k=k'
theorem Rows.zero {B n:Nat} {w:World} {r:Option Nat} {c:Nat→Nat→Ct} {xs:List Value}:Rows B w n r 0 c xs:=⟨fun _ _=>False,fun _ h=>absurd h (Nat.not_lt_zero _),fun _ h=>absurd h (Nat.not_lt_zero _),fun _ h=>absurd h (Nat.not_lt_zero _)⟩
theorem Rows.step {B n len:Nat} {w0 w1 w2:World} {r r':Option Nat} {c:Nat→Nat→Ct} {xs news:List Value} (h:Rows B w0 n r len c xs) (hB:B≤w0.heap.size) (hr0 : ∀ x,r=some x→x < w0.heap.size) (hb:Below w0.heap.size w0 w1)
  (hu:OwnR w1 (fun x=>w0.heap.size≤x∧x < w1.heap.size) n (c len) (fun j=>news.getD j .nilFunc)) (hg:w1.grownBy w2 r) (hr:r'=r∨r'=some w1.heap.size) (hxs:xs.length=len * n) :
  Rows B w2 n r' (len+1) c (xs ++ news):=by
 obtain ⟨G,h1,h2,h3⟩:=h
 have hk:Kept (fun x=>r≠some x) w1 w2:=⟨hg.size,fun b hb hs=>hg.block b hs (fun e=>hb e.symm)⟩
 have hr' : ∀ x,x < w1.heap.size→r≠some x→r'≠some x:=by
  intro x hx hn
  rcases hr with rfl|rfl
  ·exact hn
  ·intro e;simp at e;omega
 refine ⟨fun k x=>if k < len then G k x else w0.heap.size≤x∧x < w1.heap.size,fun k hk'=>?_,fun k hk' x hx=>?_,fun k hk1 k' hk2 x hx hx'=>?_⟩
 ·by_cases hkl:k < len
  ·simp only [if_pos hkl]
   refine (((h1 k hkl).kept (Kept.of_below hb fun x hx=>(h2 k hkl x hx).2.1)).kept (hk.sub fun x hx=>(h2 k hkl x hx).2.2)).congr (fun _ _=>rfl) fun j hj=>?_
   have hlt:k * n+j < xs.length:=by
    rw [hxs]
    have:=Nat.mul_le_mul_right n (show k+1≤len from hkl)
    rw [Nat.succ_mul] at this
    omega
   simp only [List.getD_eq_getElem?_getD,List.getElem?_append_left hlt]
  ·obtain rfl:k=len:=by omega
   simp only [if_neg hkl]
   refine (hu.kept (hk.sub fun x hx e=>?_)).congr (fun _ _=>rfl) fun j hj=>?_
   ·have:=hr0 x e;omega
   ·simp only [List.getD_eq_getElem?_getD,List.getElem?_append_right (show xs.length≤k * n+j by omega),hxs,Nat.add_sub_cancel_left]
 ·by_cases hkl:k < len
  ·simp only [if_pos hkl] at hx
   have h4:=h2 k hkl x hx;have h5:=hb.size
   exact ⟨h4.1,by have:=hg.size;omega,hr' x (by omega) h4.2.2⟩
  ·simp only [if_neg hkl] at hx
   exact ⟨by omega,by have:=hg.size;omega,hr' x hx.2 (fun e=>by have:=hr0 x e;omega)⟩
 ·by_cases ha:k < len<;>by_cases hb':k' < len
  ·simp only [if_pos ha] at hx;simp only [if_pos hb'] at hx';exact h3 k ha k' hb' x hx hx'
  ·simp only [if_pos ha] at hx;simp only [if_neg hb'] at hx';have:=(h2 k ha x hx).2.1;omega
  ·simp only [if_neg ha] at hx;simp only [if_pos hb'] at hx';have:=(h2 k' hb' x hx').2.1;omega
  ·omega
theorem Rows.own {B n len:Nat} {w:World} {e:TypeId} {v:Value} {c:Nat→Nat→Ct} {xs:List Value} (h:Rows B w n v.ownBlock len c xs) (ho:w.ownsRow B e n v len xs) :
  ∃ a cap,v = .slice a len cap∧Own w (fun y=>B≤y∧y < w.heap.size) (.sl n len c) (.slice a len cap):=by
 obtain ⟨G,h1,h2,h3⟩:=h;have ho':=ho
 rcases ho.2 with ⟨rfl,rfl⟩|⟨g,cap,cur,rfl,hB,hg,_⟩
 ·exact ⟨Option.none,0,rfl,.nil _ _ _ _ _⟩
 ·have hlt:g < w.heap.size:=(Array.getElem?_eq_some_iff.1 hg).1
  classical
  refine ⟨some ⟨g,0,Option.none⟩,cap,rfl,.row _ n len c g 0 cap (fun t j=>xs.getD (t * n+j) .nilFunc) (fun t j=>if ht:t < len then Classical.choose (h1 t ht) j else fun _=>False) ⟨hB,hlt⟩ hlt (fun t ht j hj=>?_) (fun o=>ho'.frozenAt o) (fun t ht j hj=>?_) (fun t ht j hj x hx=>?_) (fun t ht j hj t' ht' j' hj' x hx hx'=>?_)⟩
  ·have hi:t * n+j < len * n:=by
    have:=Nat.mul_le_mul_right n (show t+1≤len from ht)
    rw [Nat.succ_mul] at this
    omega
   rw [Nat.zero_add,ho'.cellAt (t * n+j) hi,List.getD_eq_getElem?_getD,List.getElem?_eq_getElem (by rw [ho'.1];exact hi)]
   rfl
  ·simp only [dif_pos ht];exact (Classical.choose_spec (h1 t ht)).1 j hj
  ·simp only [dif_pos ht] at hx
   have h5:=h2 t ht x ((Classical.choose_spec (h1 t ht)).2.1 j hj x hx)
   exact ⟨⟨h5.1,h5.2.1⟩,fun e=>h5.2.2 (by rw [e];rfl)⟩
  ·simp only [dif_pos ht] at hx
   simp only [dif_pos ht'] at hx'
   have hkk:t=t':=h3 t ht t' ht' x ((Classical.choose_spec (h1 t ht)).2.1 j hj x hx) ((Classical.choose_spec (h1 t' ht')).2.1 j' hj' x hx');subst hkk;exact ⟨rfl,(Classical.choose_spec (h1 t ht)).2.2 j hj j' hj' x hx hx'⟩
theorem zwz {lo hi size:Nat} {w:World} {α : Type} [Inhabited α] {vals : α → List Value} {ct : α → Nat→Ct} {l:List α} {b off:Nat} (hv : ∀ x,(vals x).length=size) (hct : ∀ x j,j < size→ct x j = .lit ((vals x).getD j .nilFunc))
  (hsl:Sl lo hi w size l.length (fun t=>ct (l.getD t default)) (some ⟨b,off,none⟩)) (j:Nat) (u:Value) (hu:(l.flatMap vals)[j]? = some u):w.cell? ((⟨b,off,none⟩:Addr).add j)=some u:=by
 have hj:j < (l.flatMap vals).length:=(List.getElem?_eq_some_iff.1 hu).1;rw [znz hv] at hj
 have h0:0 < size:=by rcases Nat.eq_zero_or_pos size with h|h;(· rw [h,Nat.mul_zero] at hj;exact absurd hj (Nat.not_lt_zero _));exact h
 have ht:j / size < l.length:=Nat.div_lt_of_lt_mul (by rw [Nat.mul_comm];exact hj)
 have hc:j % size < size:=Nat.mod_lt _ h0
 have e:j / size * size+j % size=j:=by rw [Nat.mul_comm];exact Nat.div_add_mod j size
 obtain ⟨b',off',hbo,_,_,hcell⟩:=hsl.at (j / size) ht
 simp only [Option.some.injEq,Addr.mk.injEq,and_true] at hbo
 obtain ⟨rfl,rfl⟩:=hbo;obtain ⟨v,hv',hl⟩:=hcell (j % size) hc;rw [hct _ _ hc] at hl;have h1:=zr hl;have h2:=zg9 hv l (j / size) (j % size) ht hc;rw [e,hu] at h2;rw [Go.WideShapes.add_plain,← e,← Nat.add_assoc,hv',h1];exact congrArg some (Option.some.inj h2).symm
section
variable {P:Program} {w:World}
end
end Go.Proofs.YtmbaajangkmjdaaGreat
