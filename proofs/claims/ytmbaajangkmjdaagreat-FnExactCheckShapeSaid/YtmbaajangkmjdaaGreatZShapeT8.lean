/-
  The expressions of a rule; rows of expressions whose arguments lie elsewhere.
-/
import Derived.Test.YtmbaajangkmjdaaGreatZz5
import Derived.Test.YtmbaajangkmjdaaGreatZShapeP
namespace Go.Proofs.YtmbaajangkmjdaaGreat
open Go.ChangeShapes Go.WideShapes Go.ChangeAt Go.RowKit Go.Deep
def ziw (x:DRule) (k:Nat):List DExpr:=(x.fg.take k).map DEquation.fi
def zcc (x:DRule) (k:Nat):List DExpr:=x.fg.map DEquation.fi ++ (x.fo.take k).flatMap fun c=>[c.fe,c.ff]
def zao (x:DRule):List DExpr:=zcc x x.fo.length
theorem zrr (x:DRule) {k:Nat} (h:k < x.fg.length):ziw x (k+1)=ziw x k ++ [(x.fg.getD k default).fi]:=by unfold ziw;rw [zcq h,List.map_append];rfl
theorem zrm (x:DRule):ziw x x.fg.length=zcc x 0:=by unfold ziw zcc;rw [List.take_length,List.take_zero,List.flatMap_nil,List.append_nil]
theorem zrn (x:DRule) {k:Nat} (h:k < x.fo.length):zcc x (k+1)=zcc x k ++ [(x.fo.getD k default).fe,(x.fo.getD k default).ff]:=by
 unfold zcc
 rw [zcq h,List.flatMap_append,List.append_assoc]
 rfl
theorem ztc (x:DRule) (k:Nat):(ziw x k).length≤x.fg.length:=by unfold ziw;rw [List.length_map,List.length_take];omega
theorem zkc {α : Type} (f g : α → DExpr) : ∀ l:List α,(l.flatMap fun c=>[f c,g c]).length=2 * l.length
 | []=>rfl
 | a :: l=>by rw [List.flatMap_cons,List.length_append,zkc f g l];simp only [List.length_cons,List.length_nil];omega
theorem zm5 (x:DRule) (k:Nat):(zcc x k).length≤x.fg.length+2 * x.fo.length:=by
 unfold zcc
 rw [List.length_append,List.length_map,zkc,List.length_take]
 omega
theorem zne {x:DRule} (h:x.sz≤1048576) : ∀ e ∈ zao x,e.sz≤1048576:=by
 intro e he
 unfold zao zcc at he
 rw [List.take_length] at he
 rcases List.mem_append.1 he with h1|h1
 ·obtain ⟨q,hq,rfl⟩:=List.mem_map.1 h1
  obtain ⟨k,hk,rfl⟩:=List.getElem_of_mem hq;have h2:=zab (f:=DEquation.sz) x.fg k hk;rw [List.getD_eq_getElem?_getD,List.getElem?_eq_getElem hk,Option.getD_some] at h2
  unfold DRule.sz at h
  unfold DEquation.sz at h2
  unfold DEquation.sz at h
  omega
 ·obtain ⟨c,hc,h1⟩:=List.mem_flatMap.1 h1
  obtain ⟨k,hk,rfl⟩:=List.getElem_of_mem hc;have h2:=zab (f:=DContribution.sz) x.fo k hk;rw [List.getD_eq_getElem?_getD,List.getElem?_eq_getElem hk,Option.getD_some] at h2
  unfold DRule.sz at h
  have h3:lsz DContribution.sz x.fo≤1048576:=by omega
  unfold DContribution.sz at h2 h3
  simp only [List.mem_cons,List.not_mem_nil,or_false] at h1
  rcases h1 with h1|h1<;>(rw [h1];omega)
abbrev EA:=DExpr × Option Addr × Nat
def vEA (p:EA):List Value:=[.int .i64 p.1.fh,.int .i64 p.1.fN,.int .i64 p.1.fb,.int .i64 p.1.fk,.string p.1.fd,.string p.1.fa,.slice p.2.1 p.1.fc.length p.2.2]
theorem zxl (p:EA):(vEA p).length=7:=rfl
def zqk (hi:Nat) (w:World) (m:List EA):Prop:=∀ p ∈ m,Sf 0 hi w 7 p.1.fc.length (ctE p.1.fc) p.2.1
theorem zvn {hi:Nat} {w:World}:zqk hi w []:=fun _ h=>nomatch h
theorem zqk.snoc {hi:Nat} {w:World} {m:List EA} {e:DExpr} {a:Option Addr} {c:Nat} (h:zqk hi w m) (hp:Sf 0 hi w 7 e.fc.length (ctE e.fc) a):zqk hi w (m ++ [(e,a,c)]):=fun q hq=>by
 rcases List.mem_append.1 hq with h1|h1
 ·exact h q h1
 ·obtain rfl:=List.mem_singleton.1 h1
  exact hp
theorem zxa {lo hi:Nat} {w:World} (p:EA) (h:Sf lo hi w 7 p.1.fc.length (ctE p.1.fc) p.2.1) (j:Nat) (hj:j < 7):Soft lo hi w (p.1.ct j) ((vEA p).getD j .nilFunc) :=
 match j,hj with
 | 0,_=>.lit _|1,_=>.lit _|2,_=>.lit _|3,_=>.lit _|4,_=>.lit _|5,_=>.lit _
 | 6,_=>h _
theorem zt9 (m:List EA) (t:Nat) (h:t < m.length):(m.map (·.1)).getD t default=(m.getD t default).1:=by
 rw [List.getD_eq_getElem?_getD,List.getD_eq_getElem?_getD,List.getElem?_map,List.getElem?_eq_getElem h]
 rfl
theorem zta {w:World} {B hi:Nat} {v:Value} {e:TypeId} {m:List EA} (h:w.ownsRow B e 7 v m.length (m.flatMap vEA)) (hs:zqk hi w m) (hhi:hi≤w.heap.size) :
  ∃ a c,v = .slice a m.length c∧Sf 0 w.heap.size w 7 m.length (ctE (m.map (·.1))) a:=by
 rcases h.2 with ⟨h',hx⟩|⟨g,cap,cur,rfl,hB,hg,_⟩
 ·rw [hx]
  exact ⟨none,0,h',fun _=>.nil _ _ _ _⟩
 ·have hlt:g < w.heap.size:=(Array.getElem?_eq_some_iff.1 hg).1
  refine ⟨some ⟨g,0,none⟩,cap,rfl,fun cap'=>.row 7 m.length _ g 0 cap' (fun t c=>(vEA (m.getD t default)).getD c .nilFunc) (Nat.zero_le _) hlt (fun t ht c hc=>?_) (fun o=>h.frozenAt o) (fun t ht c hc=>?_)⟩
  ·rw [Nat.zero_add,h.cellAt (t * 7+c) ?_,zg9 zxl m t c ht hc]
   have:=Nat.mul_le_mul_right 7 (show t+1≤m.length from ht)
   rw [Nat.succ_mul] at this
   omega
  ·rw [zb6 (by rw [List.length_map];exact ht),zt9 m t ht]
   refine (zxa _ (hs _ ?_) c hc).mono (Nat.le_refl _) hhi;rw [List.getD_eq_getElem?_getD,List.getElem?_eq_getElem ht];exact List.getElem_mem ht
theorem ztm {w':World} {B n:Nat} {v':Value} {e:TypeId} {α : Type} {vals : α → List Value} {l:List α} {x y : α} {news:List Value} (h:w'.ownsRow B e n v' (l.length+2) (l.flatMap vals ++ news)) (hn:news=vals x ++ vals y) :
  w'.ownsRow B e n v' ((l ++ [x]) ++ [y]).length (((l ++ [x]) ++ [y]).flatMap vals):=by
 rw [zkx,zkx,List.length_append,List.length_append,List.append_assoc,← hn];exact h
end Go.Proofs.YtmbaajangkmjdaaGreat
