/-
  A map from strings to truth values that a call makes and uses as a set: which strings it holds as true.
  A map that a call makes and owns, as a function from keys to values: what it holds at every key (its zero value where nothing was put).
-/
import Derived.Test.YtmbaajangkmjdaaGreatZKit
import Derived.WalkSpells
import Derived.WalkLawsBesides
import Derived.Lib.Hide
namespace Go.Proofs.YtmbaajangkmjdaaGreat
open Go.ChangeShapes Go.WideShapes Go.ChangeAt Go.RowKit
open Go.Maps (Keyed)
open Go.WideMaps (keyOf_string_mk)
theorem zc1 {s x:ByteArray} (h:s.data.toList=x.data.toList):s=x:=by
 cases s;cases x;simp_all [Array.toList_inj]
def memB (s:ByteArray) (L:List ByteArray):Bool:=L.any fun x=>decide (s.data.toList=x.data.toList)
theorem zwi (s:ByteArray):memB s []=false:=rfl
theorem zu2 (s:ByteArray) (L:List ByteArray):memB s (s :: L)=true:=by unfold memB;simp
theorem zdo {s:ByteArray} {L:List ByteArray}:memB s L=true↔s ∈ L:=by
 unfold memB
 rw [List.any_eq_true]
 exact ⟨fun ⟨x,h1,h2⟩=>by rw [zc1 (of_decide_eq_true h2)];exact h1,fun h=>⟨s,h,decide_eq_true rfl⟩⟩
theorem zsz {s x:ByteArray} (h:s≠x) (L:List ByteArray):memB s (x :: L)=memB s L:=by
 unfold memB
 rw [List.any_cons,decide_eq_false (fun e=>h (zc1 e)),Bool.false_or]
theorem zw1 {s:ByteArray} {L:List ByteArray} (h:s ∉ L):memB s L=false:=by
 cases e:memB s L
 ·rfl
 ·exact absurd (zdo.1 e) h
theorem zv1 {s:ByteArray} {L:List ByteArray} (h:s ∈ L):memB s L=true:=zdo.2 h
def zcf (P:Program) (k e:TypeId) (w:World) (b n:Nat) (L:List ByteArray):Prop :=
 ∃ D:DataW Unit,w.ownsMap P k (plainElem P e) b n D∧Maps.IsMap D ∧ ∀ s:ByteArray,D.atKey (.string s.data.toList) (.lit (.bool false)) = .lit (.bool (memB s L))
section
variable {P:Program} {k e:TypeId} {w:World} {b n:Nat} {L:List ByteArray}
theorem zcf.made (w:World):zcf P k e (w.alloc (.map #[] 0)) w.heap.size 0 [] :=
 ⟨.map [],World.ownsMap_made _ _ _ _,⟨_,rfl⟩,fun s=>by rw [zwi];rfl⟩
theorem zcf.put (hk:P.underlying k=some .string) (he:P.underlying e=some .bool) {t:TypeId} (ht:P.underlying t=some (.map k e)) (h:zcf P k e w b n L) (hn:n < maxLen) (s:ByteArray) (hs:s.size≤maxLen) :
  ∃ w',(Instr.mapUpdate t (.map (some b)) (.string s) (.bool true)).run P w = .ok () w'∧zcf P k e w' b (n+1) (s :: L)∧w.grownBy w' (some b):=by
 obtain ⟨D,h1,h2,h3⟩:=h;obtain ⟨w',r1,r2,r3⟩:=h1.update (Maps.string_keyed hk) ht hn (keyOf_string_mk hk hs) (plainElem_bool he true)
 refine ⟨w',r1,⟨_,r2,?_,fun x=>?_⟩,r3⟩
 ·obtain ⟨es,rfl⟩:=h2;exact ⟨_,rfl⟩
 ·by_cases hx:x=s
  ·subst hx;rw [Maps.atKey_put_same h2 (by trivial),zu2]
  ·rw [Maps.atKey_put_other (fun e=>hx (zc1 (by injection e))),h3,zsz hx]
theorem zcf.look (hk:P.underlying k=some .string) (he:P.underlying e=some .bool) {t:TypeId} (ht:P.underlying t=some (.map k e)) (hz:(zeroValue e).run P w = .ok (.bool false) w) (h:zcf P k e w b n L) (s:ByteArray) (hs:s.size≤maxLen) :
  (Instr.lookup t (.map (some b)) (.string s) false).run P w = .ok (.bool (memB s L)) w:=by
 obtain ⟨D,h1,h2,h3⟩:=h;obtain ⟨v,ps,r1,r2⟩:=h1.lookup (Maps.string_keyed hk) ht hz (plainElem_bool he false) (keyOf_string_mk hk hs);rw [h3] at r2
 have:v = .bool (memB s L):=by
  unfold plainElem at r2
  rw [he] at r2
  cases v<;>simp at r2
  rw [r2.1]
 rw [r1,this]
end
section
variable {P:Program} (w:World) {ops:Array Oper} {rest:List Oper} {o:Oper} {a:Act} {Q:Exit→Act→World→Prop}
theorem zie (hg:o.guard=none) (m x v:Operand) (t:TypeId) (hop:o.op=Op.insert t m x v) (k e:TypeId) (hk:P.underlying k=some .string) (he:P.underlying e=some .bool) (ht:P.underlying t=some (.map k e))
  (b n:Nat) (L:List ByteArray) (hm:a.eval m = .map (some b)) (hs:zcf P k e w b n L) (hn:n < maxLen) (s:ByteArray) (hx:a.eval x = .string s) (hv:a.eval v = .bool true) (hsz:s.size≤maxLen)
  (hK : ∀ w',zcf P k e w' b (n+1) (s :: L)→w.grownBy w' (some b)→wpList P ops Q rest (a.put o.dst undef) w'):wpList P ops Q (o :: rest) a w:=by
 refine wpList_plain hg fun K' hK'=>?_
 obtain ⟨w',hrun,r1,r2⟩:=hs.put hk he ht hn s hsz
 unfold Oper.wp
 simp [execOp,hop,hm,hx,hv,hrun,Result.andThen]
 exact hK' _ _ (hK w' r1 r2)
theorem zhy (hg:o.guard=none) (m x:Operand) (t:TypeId) (hop:o.op=Op.lookup t m x false) (k e:TypeId) (hk:P.underlying k=some .string) (he:P.underlying e=some .bool) (ht:P.underlying t=some (.map k e)) (hz:(zeroValue e).run P w = .ok (.bool false) w)
  (b n:Nat) (L:List ByteArray) (hm:a.eval m = .map (some b)) (hs:zcf P k e w b n L) (s:ByteArray) (hx:a.eval x = .string s) (hsz:s.size≤maxLen)
  (hK:wpList P ops Q rest (a.put o.dst (.bool (memB s L))) w):wpList P ops Q (o :: rest) a w:=by
 refine wpList_plain hg fun K' hK'=>?_
 have hrun:=hs.look hk he ht hz s hsz
 unfold Oper.wp
 simp [execOp,hop,hm,hx,hrun,Result.andThen]
 exact hK' _ _ hK
end
structure MapK (P:Program) (t k e:TypeId) {κ β : Type} (okK : κ → Prop) (emb : κ → Value) (okV : β → Prop) (vv : β → Value) (vl : β → Lit) (z : β):Prop where
 keyed:Keyed P k
 type:P.underlying t=some (.map k e)
 key : ∀ x,okK x → ∃ l,keyOf P k (emb x)=some l
 inj : ∀ x y,okK x→okK y→emb x=emb y→x=y
 val : ∀ v,okV v→plainElem (H:=Unit) P e (vv v)=some (.lit (vl v),[])
 back : ∀ (u:Value) (v : β) (ps:List MemPlace),plainElem (H:=Unit) P e u=some (.lit (vl v),ps)→u=vv v
 zero : ∀ w,(zeroValue e).run P w = .ok (vv z) w
 okz:okV z
def MapF (P:Program) (k e:TypeId) {κ β : Type} (okK : κ → Prop) (emb : κ → Value) (vl : β → Lit) (z : β) (w:World) (b n:Nat) (f : κ → β):Prop :=
 ∃ D:DataW Unit,w.ownsMap P k (plainElem P e) b n D∧Maps.IsMap D ∧ ∀ x,okK x → ∀ kl,keyOf P k (emb x)=some kl→D.atKey kl (.lit (vl z)) = .lit (vl (f x))
section
variable {P:Program} {t k e:TypeId} {κ β : Type} {okK : κ → Prop} {emb : κ → Value} {okV : β → Prop} {vv : β → Value} {vl : β → Lit} {z : β} {w:World} {b n:Nat} {f : κ → β}
theorem MapF.made (w:World):MapF P k e okK emb vl z (w.alloc (.map #[] 0)) w.heap.size 0 (fun _=>z) :=
 ⟨.map [],World.ownsMap_made _ _ _ _,⟨_,rfl⟩,fun _ _ _ _=>rfl⟩
theorem MapF.lt (h:MapF P k e okK emb vl z w b n f):b < w.heap.size:=by obtain ⟨D,h1,_⟩:=h;exact h1.lt
theorem MapF.block {w':World} (h:MapF P k e okK emb vl z w b n f) (hb:w'.heap[b]? = w.heap[b]?):MapF P k e okK emb vl z w' b n f:=by
 obtain ⟨D,⟨es,clock,h1,h3⟩,h2⟩:=h;exact ⟨D,⟨es,clock,hb.trans h1,h3⟩,h2⟩
theorem MapF.later {w':World} (h:MapF P k e okK emb vl z w b n f) (hb:Below w.heap.size w w'):MapF P k e okK emb vl z w' b n f:=h.block (hb.block b h.lt)
theorem MapF.congr {f' : κ → β} (h:MapF P k e okK emb vl z w b n f) (hf : ∀ x,okK x→f' x=f x):MapF P k e okK emb vl z w b n f':=by
 obtain ⟨D,h1,h2,h3⟩:=h;exact ⟨D,h1,h2,fun x hx kl hk=>by rw [hf x hx];exact h3 x hx kl hk⟩
theorem MapF.put (K:MapK P t k e okK emb okV vv vl z) (h:MapF P k e okK emb vl z w b n f) (hn:n < maxLen) {x : κ} (hx:okK x) {v : β} (hv:okV v) {f' : κ → β} (h1:f' x=v) (h2 : ∀ y,okK y→y≠x→f' y=f y) :
  ∃ w',(Instr.mapUpdate t (.map (some b)) (emb x) (vv v)).run P w = .ok () w'∧MapF P k e okK emb vl z w' b (n+1) f'∧w.grownBy w' (some b):=by
 obtain ⟨D,d1,d2,d3⟩:=h;obtain ⟨kl,hkl⟩:=K.key x hx;obtain ⟨w',r1,r2,r3⟩:=d1.update K.keyed K.type hn hkl (K.val v hv)
 refine ⟨w',r1,⟨_,r2,?_,fun y hy kl' hkl'=>?_⟩,r3⟩
 ·obtain ⟨es,rfl⟩:=d2;exact ⟨_,rfl⟩
 ·by_cases hyx:y=x
  ·subst hyx
   obtain rfl:kl'=kl:=Option.some.inj (hkl'.symm.trans hkl);rw [Maps.atKey_put_same d2 (K.keyed.key hkl),h1]
  ·have hne:kl'≠kl:=fun e=>hyx (K.inj y x hy hx (K.keyed.inj (e ▸ hkl') hkl))
   rw [Maps.atKey_put_other hne,d3 y hy kl' hkl',h2 y hy hyx]
theorem MapF.look (K:MapK P t k e okK emb okV vv vl z) (h:MapF P k e okK emb vl z w b n f) {x : κ} (hx:okK x) :
  (Instr.lookup t (.map (some b)) (emb x) false).run P w = .ok (vv (f x)) w:=by
 obtain ⟨D,d1,d2,d3⟩:=h;obtain ⟨kl,hkl⟩:=K.key x hx;obtain ⟨v,ps,r1,r2⟩:=d1.lookup K.keyed K.type (K.zero w) (K.val z K.okz) hkl;rw [d3 x hx kl hkl] at r2;rw [r1,K.back v (f x) ps r2]
end
section
variable {P:Program} (w:World) {ops:Array Oper} {rest:List Oper} {o:Oper} {a:Act} {Q:Exit→Act→World→Prop}
variable {t k e:TypeId} {κ β : Type} {okK : κ → Prop} {emb : κ → Value} {okV : β → Prop} {vv : β → Value} {vl : β → Lit} {z : β} {b n:Nat} {f : κ → β}
theorem zeo (hg:o.guard=none) (m x v:Operand) (hop:o.op=Op.mapUpdate t m x v) (K:MapK P t k e okK emb okV vv vl z) (h:MapF P k e okK emb vl z w b n f) (hn:n < maxLen) (hm:a.eval m = .map (some b))
  {y : κ} (hy:okK y) {u : β} (hu:okV u) (hx:a.eval x=emb y) (hv:a.eval v=vv u) {f' : κ → β} (h1:f' y=u) (h2 : ∀ q,okK q→q≠y→f' q=f q)
  (hK : ∀ w',MapF P k e okK emb vl z w' b (n+1) f'→w.grownBy w' (some b)→wpList P ops Q rest (a.put o.dst undef) w'):wpList P ops Q (o :: rest) a w:=by
 refine wpList_plain hg fun K' hK'=>?_
 obtain ⟨w',hrun,r1,r2⟩:=h.put K hn hy hu h1 h2
 unfold Oper.wp
 simp [execOp,hop,hm,hx,hv,hrun,Result.andThen]
 exact hK' _ _ (hK w' r1 r2)
theorem zej (hg:o.guard=none) (m x:Operand) (hop:o.op=Op.lookup t m x false) (K:MapK P t k e okK emb okV vv vl z) (h:MapF P k e okK emb vl z w b n f) (hm:a.eval m = .map (some b))
  {y : κ} (hy:okK y) (hx:a.eval x=emb y) (hK:wpList P ops Q rest (a.put o.dst (vv (f y))) w):wpList P ops Q (o :: rest) a w:=by
 refine wpList_plain hg fun K' hK'=>?_
 have hrun:=h.look K hy
 unfold Oper.wp
 simp [execOp,hop,hm,hx,hrun,Result.andThen]
 exact hK' _ _ hK
end
def litB (x:Bool):Lit:=.bool x
def valB (x:Bool):Value:=.bool x
def okMS (s:ByteArray):Prop:=s.size≤maxLen
def okMI (z:Int):Prop:=-9223372036854775808≤z∧z≤9223372036854775807
theorem zua {P:Program} {e:TypeId} (he:P.underlying e=some .bool) (u:Value) (v:Bool) (ps:List MemPlace) (h:plainElem (H:=Unit) P e u=some (.lit (litB v),ps)):u=valB v:=by
 unfold plainElem at h
 rw [he] at h
 cases u<;>simp [litB] at h
 rw [← h.1];rfl
end Go.Proofs.YtmbaajangkmjdaaGreat
