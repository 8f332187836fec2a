/-
  The type Expr of the laws: its data, and the contracts of the laws' own helpers on it.
  The type Occurrence of the laws: its data, and the contracts of the laws' own helpers on it.
  The type Equation of the laws: its data, and the contracts of the laws' own helpers on it.
  The nodes of an expression in preorder: what the program's list of nodes is, and the stack of steps from which it makes it.
-/
import Derived.Test.YtmbaajangkmjdaaGreatZA0
import Derived.Test.YtmbaajangkmjdaaGreatZz2
import Derived.WalkSpells
import Derived.Deep.RegionWith
import Derived.BigQuiet
set_option maxHeartbeats 6400000
set_option maxRecDepth 100000
namespace Go.Proofs.YtmbaajangkmjdaaGreat
open Go.ChangeShapes Go.WideShapes Go.ChangeAt Go.RowKit Go.Deep
structure DExpr where
 fh:Int
 fN:Int
 fb:Int
 fk:Int
 fd:ByteArray
 fa:ByteArray
 fc:List DExpr
instance:Inhabited DExpr:=⟨⟨0,0,0,0,⟨#[]⟩,⟨#[]⟩,[]⟩⟩
theorem DExpr.ind {P:DExpr→Prop} (h : ∀ x:DExpr,(∀ a ∈ x.fc,P a)→P x) : ∀ x,P x:=fun x =>
 DExpr.rec (motive_1:=P) (motive_2:=fun l=>∀ a ∈ l,P a) (fun k n p t s m args ih=>h ⟨k,n,p,t,s,m,args⟩ ih) (fun a ha=>by cases ha)
  (fun e es he hes a ha=>by
   rcases List.mem_cons.1 ha with rfl|ha
   ·exact he
   ·exact hes a ha) x
mutual
def ctX:DExpr→Nat→Ct
 | ⟨k,n,p,t,s,m,args⟩=>fun j=>match j with
  | 0=>.lit (.int .i64 k)
  | 1=>.lit (.int .i64 n)
  | 2=>.lit (.int .i64 p)
  | 3=>.lit (.int .i64 t)
  | 4=>.lit (.string s)
  | 5=>.lit (.string m)
  | 6=>.sl 7 args.length (ctE args)
  | _=>.lit .nilFunc
def ctE:List DExpr→Nat→Nat→Ct
 | []=>fun _ _=>.lit .nilFunc
 | e :: es=>fun k=>match k with
  | 0=>ctX e
  | q+1=>ctE es q
end
def DExpr.ct (x:DExpr):Nat→Ct
 | 0=>.lit (.int .i64 x.fh)
 | 1=>.lit (.int .i64 x.fN)
 | 2=>.lit (.int .i64 x.fb)
 | 3=>.lit (.int .i64 x.fk)
 | 4=>.lit (.string x.fd)
 | 5=>.lit (.string x.fa)
 | 6=>.sl 7 x.fc.length (ctE x.fc)
 | _=>.lit .nilFunc
theorem zxt (x:DExpr):ctX x=x.ct:=by
 cases x
 funext j
 match j with
 | 0=>rfl
 | 1=>rfl
 | 2=>rfl
 | 3=>rfl
 | 4=>rfl
 | 5=>rfl
 | 6=>rfl
 | _+7=>rfl
theorem zb6 : ∀ {l:List DExpr} {k:Nat},k < l.length→ctE l k=(l.getD k default).ct
 | [],_,h=>absurd h (Nat.not_lt_zero _)
 | e :: _,0,_=>zxt e
 | _ :: es,_+1,h=>zb6 (l:=es) (Nat.lt_of_succ_lt_succ h)
mutual
def szX:DExpr→Nat
 | ⟨_,_,_,_,s,m,args⟩=>s.size+m.size+(args.length+szE args)
def szE:List DExpr→Nat
 | []=>0
 | e :: es=>szX e+szE es
end
def DExpr.sz (x:DExpr):Nat:=szX x
theorem zwr : ∀ l:List DExpr,szE l=(l.map DExpr.sz).sum
 | []=>rfl
 | e :: es=>by rw [List.map_cons,List.sum_cons,← zwr es];rfl
theorem DExpr.sz_eq (x:DExpr):x.sz=x.fd.size+x.fa.size+lsz DExpr.sz x.fc:=by
 have h:x.sz=x.fd.size+x.fa.size+(x.fc.length+szE x.fc):=by cases x;rfl
 rw [h,zwr]
 rfl
mutual
def okX:DExpr→Prop
 | ⟨k,n,p,t,s,m,args⟩=>okI k∧okI n∧okI p∧okI t∧okS s∧okS m∧args.length≤9223372036854775807∧okE args
def okE:List DExpr→Prop
 | []=>True
 | e :: es=>okX e∧okE es
end
def DExpr.ok (x:DExpr):Prop:=okX x
theorem zuw : ∀ l:List DExpr,okE l ↔ ∀ a ∈ l,a.ok
 | []=>⟨fun _ a ha=>(by cases ha),fun _=>trivial⟩
 | e :: es=>by
  have ih:=zuw es
  constructor
  ·intro h a ha
   rcases List.mem_cons.1 ha with rfl|ha
   ·exact h.1
   ·exact ih.1 h.2 a ha
  ·intro h
   exact ⟨h e (List.mem_cons_self ..),ih.2 fun a ha=>h a (List.mem_cons_of_mem _ ha)⟩
theorem DExpr.ok_iff (x:DExpr):x.ok↔okI x.fh∧okI x.fN∧okI x.fb∧okI x.fk∧okS x.fd∧okS x.fa∧okL DExpr.ok x.fc:=by
 have h:x.ok↔okI x.fh∧okI x.fN∧okI x.fb∧okI x.fk∧okS x.fd∧okS x.fa∧x.fc.length≤9223372036854775807∧okE x.fc:=by cases x;exact Iff.rfl
 rw [h,zuw];exact Iff.rfl
theorem zbg {α : Type} [Inhabited α] {l:List α} {k:Nat} (h:k < l.length):l.getD k default ∈ l:=by
 rw [List.getD_eq_getElem?_getD,List.getElem?_eq_getElem h];exact List.getElem_mem _
theorem DExpr.open {lo hi b o:Nat} {w:World} {x:DExpr} (h : ∀ j,j < 7 → ∃ u,w.cell? ⟨b,o+j,none⟩=some u∧Lies lo hi w (x.ct j) u) :
  ∃ a6 c6,w.cell? ⟨b,o,none⟩=some (.int .i64 x.fh)∧w.cell? ⟨b,o+1,none⟩=some (.int .i64 x.fN)∧w.cell? ⟨b,o+2,none⟩=some (.int .i64 x.fb)∧w.cell? ⟨b,o+3,none⟩=some (.int .i64 x.fk)∧w.cell? ⟨b,o+4,none⟩=some (.string x.fd)∧w.cell? ⟨b,o+5,none⟩=some (.string x.fa)∧w.cell? ⟨b,o+6,none⟩=some (.slice a6 x.fc.length c6)∧Sl lo hi w 7 x.fc.length (ctE x.fc) a6:=by
 obtain ⟨u0,hc0,hl0⟩:=h 0 (by decide)
 obtain rfl:=zr hl0
 obtain ⟨u1,hc1,hl1⟩:=h 1 (by decide)
 obtain rfl:=zr hl1
 obtain ⟨u2,hc2,hl2⟩:=h 2 (by decide)
 obtain rfl:=zr hl2
 obtain ⟨u3,hc3,hl3⟩:=h 3 (by decide)
 obtain rfl:=zr hl3
 obtain ⟨u4,hc4,hl4⟩:=h 4 (by decide)
 obtain rfl:=zr hl4
 obtain ⟨u5,hc5,hl5⟩:=h 5 (by decide)
 obtain rfl:=zr hl5
 obtain ⟨u6,hc6,hl6⟩:=h 6 (by decide)
 obtain ⟨a6,c6,rfl,hs6⟩:=zc6 hl6;exact ⟨a6,c6,hc0,hc1,hc2,hc3,hc4,hc5,hc6,hs6⟩
theorem zhx {H:Type} {enc:TypeId × Value→H} {w:World} (fuel:Nat):zg1 enc Tryz.prog w 147 7 DExpr.ct DExpr.ok fuel:=by
 induction fuel using Nat.strongRecOn with|ind fuel ihf=>?_
 intro cs x h;have hl:=zct Tryz.underlying147 h
 obtain ⟨y0,k0,q0⟩:=zq Tryz.underlying147 h 0 _ rfl (ft:=3) (o:=0) (n:=1) rfl rfl (fun m _=>zc9 Tryz.underlying3 m) (by kernel_rfl)
 obtain ⟨y1,k1,q1⟩:=zq Tryz.underlying147 h 1 _ rfl (ft:=3) (o:=1) (n:=1) rfl rfl (fun m _=>zc9 Tryz.underlying3 m) (by kernel_rfl)
 obtain ⟨y2,k2,q2⟩:=zq Tryz.underlying147 h 2 _ rfl (ft:=3) (o:=2) (n:=1) rfl rfl (fun m _=>zc9 Tryz.underlying3 m) (by kernel_rfl)
 obtain ⟨y3,k3,q3⟩:=zq Tryz.underlying147 h 3 _ rfl (ft:=3) (o:=3) (n:=1) rfl rfl (fun m _=>zc9 Tryz.underlying3 m) (by kernel_rfl)
 obtain ⟨y4,k4,q4⟩:=zq Tryz.underlying147 h 4 _ rfl (ft:=9) (o:=4) (n:=1) rfl rfl (fun m _=>za1 Tryz.underlying9 m) (by kernel_rfl)
 obtain ⟨y5,k5,q5⟩:=zq Tryz.underlying147 h 5 _ rfl (ft:=9) (o:=5) (n:=1) rfl rfl (fun m _=>za1 Tryz.underlying9 m) (by kernel_rfl)
 obtain ⟨y6,k6,q6⟩:=zq Tryz.underlying147 h 6 _ rfl (ft:=145) (o:=6) (n:=1) rfl rfl (fun m hm=>zb1 Tryz.underlying145 (e:=147) (n:=7) (by kernel_rfl) (by decide) m (fun m2 hm2=>ihf m2 (by omega))) (by kernel_rfl)
 refine ⟨⟨y0,y1,y2,y3,y4,y5,y6⟩,(DExpr.ok_iff _).2 ⟨k0,k1,k2,k3,k4,k5,k6⟩,hl.trans (by kernel_rfl),fun j hj=>?_⟩
 match j,hj with
 | 0,_=>exact q0 0 (by decide)
 | 1,_=>exact q1 0 (by decide)
 | 2,_=>exact q2 0 (by decide)
 | 3,_=>exact q3 0 (by decide)
 | 4,_=>exact q4 0 (by decide)
 | 5,_=>exact q5 0 (by decide)
 | 6,_=>exact (q6 0 (by decide)).imp fun v h=>⟨h.1,h.2.congr fun k hk j _=>by rw [zb6 hk]⟩
def ztj (x:DExpr):Prop:=∀ {lo hi:Nat} {a6:Option Addr} {c6:Nat} (L:Int) (_hL0:0≤L) (_hL1:L≤1048576) (_hx:x.ok) (w:World) (_hhi:hi≤w.heap.size) (_hs6:Sl lo hi w 7 x.fc.length (ctE x.fc) a6),Calls Tryz.prog 135 #[.agg #[.int .i64 x.fh,.int .i64 x.fN,.int .i64 x.fb,.int .i64 x.fk,.string x.fd,.string x.fa,.slice a6 x.fc.length c6],.int .i64 L] w fun e w'=>e = .returned (.int .i64 (szR L x.sz))∧Below w.heap.size w w'
def zxb (l:List DExpr):Prop:=∀ {lo hi:Nat} {a:Option Addr} {cap:Nat} (L:Int) (_hL0:0≤L) (_hL1:L≤1048576) (_hok:okL DExpr.ok l) (w:World) (_hhi:hi≤w.heap.size) (_hs:Sl lo hi w 7 l.length (ctE l) a),Calls Tryz.prog 172 #[.slice a l.length cap,.int .i64 L] w fun e w'=>e = .returned (.int .i64 (szR L (lsz DExpr.sz l)))∧Below w.heap.size w w'
theorem zmy {lo hi:Nat} {a6:Option Addr} {c6:Nat} (x:DExpr) (HA:zxb x.fc) (L:Int) (hL0:0≤L) (hL1:L≤1048576) (hx:x.ok) (w:World) (hhi:hi≤w.heap.size) (hs6:Sl lo hi w 7 x.fc.length (ctE x.fc) a6) :
  Calls Tryz.prog 135 #[.agg #[.int .i64 x.fh,.int .i64 x.fN,.int .i64 x.fb,.int .i64 x.fk,.string x.fd,.string x.fa,.slice a6 x.fc.length c6],.int .i64 L] w fun e w'=>e = .returned (.int .i64 (szR L x.sz))∧Below w.heap.size w w':=by
 have HS6:=yq hs6;clear hs6;have HX:=yq ((DExpr.ok_iff x).1 hx);clear hx;have okSymbol:x.fd.size≤9223372036854775807:=HX.out.2.2.2.2.1;have okName:x.fa.size≤9223372036854775807:=HX.out.2.2.2.2.2.1;have HB0:=yq ((Below.refl w.heap.size w).alloc (Nat.le_refl _) (.cells #[.int .i64 x.fh,.int .i64 x.fN,.int .i64 x.fb,.int .i64 x.fk,.string x.fd,.string x.fa,.slice a6 x.fc.length c6] 147))
 by_cases h0:L < ((x.fd.size:Nat):Int)
 ·skip
  have fin:=yq (zae (n:=x.sz) (L:=L) (by rw [DExpr.sz_eq];omega))
  go_enter Tryz.func135,Tryz.ntmps135
  go_wp2;go_ret
  exact ⟨zan (by rw [fin.out]),HB0.out⟩
 ·skip
  by_cases h1:(L - (x.fd.size:Nat)) < ((x.fa.size:Nat):Int)
  ·skip
   have fin:=yq (zae (n:=x.sz) (L:=L) (by rw [DExpr.sz_eq];omega))
   go_enter Tryz.func135,Tryz.ntmps135
   go_wp2;go_ret
   exact ⟨zan (by rw [fin.out]),HB0.out⟩
  ·skip
   by_cases h2:((L - (x.fd.size:Nat)) - (x.fa.size:Nat)) < (((lsz DExpr.sz) x.fc:Nat):Int)
   ·skip
    have hz0:=fun (w':World) (hhi:hi≤w'.heap.size) (hs6:Sl lo hi w' 7 x.fc.length (ctE x.fc) a6)=>HA (cap:=c6) ((L - (x.fd.size:Nat)) - (x.fa.size:Nat)) (by omega) (by omega) HX.out.2.2.2.2.2.2 w' hhi hs6
    rw [zae (by omega)] at hz0
    have HZ0:=yq hz0;clear hz0
    have fin:=yq (zae (n:=x.sz) (L:=L) (by rw [DExpr.sz_eq];omega))
    go_enter Tryz.func135,Tryz.ntmps135
    (go_wp2_with fail);refine (HZ0.out _ (Nat.le_trans hhi HB0.out.size) (HS6.out.later HB0.out hhi)).mono ?_;rintro e w1 ⟨rfl,hb1⟩;have hsz1:w.heap.size < w1.heap.size:=Nat.lt_of_lt_of_le yg hb1.size;have HB1:=yq (HB0.out.trans (hb1.mono HB0.out.size));clear hb1;go_wp2;go_ret
    exact ⟨zan (by rw [fin.out]),HB1.out⟩
   ·skip
    have hz0:=fun (w':World) (hhi:hi≤w'.heap.size) (hs6:Sl lo hi w' 7 x.fc.length (ctE x.fc) a6)=>HA (cap:=c6) ((L - (x.fd.size:Nat)) - (x.fa.size:Nat)) (by omega) (by omega) HX.out.2.2.2.2.2.2 w' hhi hs6
    rw [zas (by omega)] at hz0
    have HZ0:=yq hz0;clear hz0
    have fin:=yq (zas (n:=x.sz) (L:=L) (by rw [DExpr.sz_eq];omega))
    go_enter Tryz.func135,Tryz.ntmps135
    (go_wp2_with fail);refine (HZ0.out _ (Nat.le_trans hhi HB0.out.size) (HS6.out.later HB0.out hhi)).mono ?_;rintro e w1 ⟨rfl,hb1⟩;have hsz1:w.heap.size < w1.heap.size:=Nat.lt_of_lt_of_le yg hb1.size;have HB1:=yq (HB0.out.trans (hb1.mono HB0.out.size));clear hb1;go_wp2;go_ret
    exact ⟨zan (by rw [fin.out];rw [DExpr.sz_eq];omega),HB1.out⟩
theorem zld (x:DExpr) (HA:zxb x.fc):ztj x:=by
 intro lo hi a6 c6 L hL0 hL1 hx w hhi hs6;exact zmy x HA (lo:=lo) (hi:=hi) (a6:=a6) (c6:=c6) L hL0 hL1 hx w hhi hs6
theorem zkt {lo hi:Nat} {a:Option Addr} {cap:Nat} (l:List DExpr) (HE : ∀ x ∈ l,ztj x) (L:Int) (hL0:0≤L) (hL1:L≤1048576) (hok:okL DExpr.ok l) (w:World) (hhi:hi≤w.heap.size) (hs:Sl lo hi w 7 l.length (ctE l) a) :
  Calls Tryz.prog 172 #[.slice a l.length cap,.int .i64 L] w fun e w'=>e = .returned (.int .i64 (szR L (lsz DExpr.sz l)))∧Below w.heap.size w w':=by
 have HEH:=yq HE;clear HE;have HS:=yq hs;have HK:=yq hok;have hn:l.length≤9223372036854775807:=hok.1;clear hs hok
 by_cases hlong:L < ((l.length:Nat):Int)
 ·have fin:=yq (zae (n:=lsz DExpr.sz l) (L:=L) (by unfold lsz;omega))
  go_enter Tryz.func172,Tryz.ntmps172
  go_wp2;go_ret;exact ⟨zan fin.out.symm,Below.refl _ _⟩
 ·go_enter Tryz.func172,Tryz.ntmps172
  go_wp2
  go_loopw [1,5] (fun q i wr=>∃ k:Nat,k≤l.length∧i = .int .i64 (k:Int)∧q = .int .i64 (L - l.length - psz DExpr.sz l k)∧(l.length:Int)+psz DExpr.sz l k≤L∧Below w.heap.size w wr) (fun _ i _=>l.length - (intOf i).toNat)
  case atStart=>exact ⟨0,Nat.zero_le _,rfl,by rw [zba];go_num,by rw [zba];omega,Below.refl _ _⟩
  case round =>
   obtain ⟨k,hk,rfl,rfl,hle,hb⟩:=hrel;have HB:=yq hb
   by_cases hlt:k < l.length
   ·have hsu:=yq (zc0 DExpr.sz l k hlt)
    have hle2:=yq (zhd DExpr.sz l (k+1));have hE:ztj (l.getD k default):=@Hid.out _ HEH _ (zbg hlt);have hokk:=HK.out.at hlt;have hhr:hi≤wr.heap.size:=Nat.le_trans hhi hb.size;obtain ⟨b,off,rfl,hlo,hhi',hc⟩:=(HS.out.later (hb.mono hhi) (Nat.le_refl _)).at k hlt;clear hb
    obtain ⟨a6,c6,hc0_,hc1_,hc2_,hc3_,hc4_,hc5_,hc6_,hs6⟩:=DExpr.open (by rw [zb6 hlt] at hc;exact hc)
    clear hc;generalize l.getD k default=x at *;generalize psz DExpr.sz l k=S at *
    have hZ:=hE (c6:=c6) (L - l.length - S) (by omega) (by omega) hokk wr hhr hs6
    by_cases hf:((x.sz:Nat):Int)≤L - l.length - S
    ·rw [zas hf] at hZ
     have HZ:=yq hZ;clear hZ hokk hs6;(go_wp2_with fail);refine HZ.out.mono ?_;rintro e w1 ⟨rfl,hb1⟩;have HB1:=yq hb1;clear hb1;go_wp2;go_roundw
     case rel=>exact ⟨k+1,by omega,by go_num,by rw [hsu.out];go_num,by rw [hsu.out];omega,HB.out.trans (HB1.out.mono HB.out.size)⟩
     case measure=>simp [intOf];omega
    ·have fin:=yq (zae (n:=lsz DExpr.sz l) (L:=L) (by have h1:=hsu.out;have h2:=hle2.out;omega))
     rw [zae (by omega)] at hZ
     have HZ:=yq hZ;clear hZ hokk hs6;(go_wp2_with fail);refine HZ.out.mono ?_;rintro e w1 ⟨rfl,hb1⟩;have HB1:=yq hb1;clear hb1;go_wp2;go_ret;exact ⟨zan fin.out.symm,HB.out.trans (HB1.out.mono HB.out.size)⟩
   ·obtain rfl:k=l.length:=by omega
    have fin:=yq (zas (n:=lsz DExpr.sz l) (L:=L) (by unfold lsz;rw [zb0] at hle;omega))
    have fin2:=yq (zb0 DExpr.sz l);go_wp2;go_ret
    exact ⟨zan (by rw [fin.out,fin2.out];unfold lsz;omega),HB.out⟩
theorem zjm (l:List DExpr) (HE : ∀ x ∈ l,ztj x):zxb l:=by
 intro lo hi a cap L hL0 hL1 hok w hhi hs;exact zkt l HE (lo:=lo) (hi:=hi) (a:=a) (cap:=cap) L hL0 hL1 hok w hhi hs
theorem zjl : ∀ x:DExpr,ztj x:=DExpr.ind fun x ih=>zld x (zjm x.fc ih)
theorem zb2 {lo hi:Nat} {a6:Option Addr} {c6:Nat} (x:DExpr) (L:Int) (hL0:0≤L) (hL1:L≤1048576) (hx:x.ok) (w:World) (hhi:hi≤w.heap.size) (hs6:Sl lo hi w 7 x.fc.length (ctE x.fc) a6) :
  Calls Tryz.prog 135 #[.agg #[.int .i64 x.fh,.int .i64 x.fN,.int .i64 x.fb,.int .i64 x.fk,.string x.fd,.string x.fa,.slice a6 x.fc.length c6],.int .i64 L] w fun e w'=>e = .returned (.int .i64 (szR L x.sz))∧Below w.heap.size w w':=zjl x (lo:=lo) (hi:=hi) (a6:=a6) (c6:=c6) L hL0 hL1 hx w hhi hs6
def zt3 (x:DExpr):Prop:=∀ {lo hi:Nat} {a6:Option Addr} {c6:Nat} (_hsz:x.sz≤1048576) (w:World) (_hhi:hi≤w.heap.size) (_hs6:Sl lo hi w 7 x.fc.length (ctE x.fc) a6),Calls Tryz.prog 143 #[.agg #[.int .i64 x.fh,.int .i64 x.fN,.int .i64 x.fb,.int .i64 x.fk,.string x.fd,.string x.fa,.slice a6 x.fc.length c6]] w fun e w'=>∃ a6r c6r,e = .returned (.agg #[.int .i64 x.fh,.int .i64 x.fN,.int .i64 x.fb,.int .i64 x.fk,.string x.fd,.string x.fa,.slice a6r x.fc.length c6r])∧OwnR w' (fun y=>w.heap.size≤y∧y < w'.heap.size) 7 x.ct (fun j=>[.int .i64 x.fh,.int .i64 x.fN,.int .i64 x.fb,.int .i64 x.fk,.string x.fd,.string x.fa,.slice a6r x.fc.length c6r].getD j .nilFunc)∧Below w.heap.size w w'
def zw5 (l:List DExpr):Prop:=∀ {lo hi:Nat} {a:Option Addr} {cap:Nat} (_hsz:lsz DExpr.sz l≤1048576) (w:World) (_hhi:hi≤w.heap.size) (_hs:Sl lo hi w 7 l.length (ctE l) a),Calls Tryz.prog 176 #[.slice a l.length cap] w fun e w'=>∃ a' cap',e = .returned (.slice a' l.length cap')∧Own w' (fun x=>w.heap.size≤x∧x < w'.heap.size) (.sl 7 l.length (ctE l)) (.slice a' l.length cap')∧Below w.heap.size w w'
theorem zmi {lo hi:Nat} {a6:Option Addr} {c6:Nat} (x:DExpr) (HA:zw5 x.fc) (hsz:x.sz≤1048576) (w:World) (hhi:hi≤w.heap.size) (hs6:Sl lo hi w 7 x.fc.length (ctE x.fc) a6) :
  Calls Tryz.prog 143 #[.agg #[.int .i64 x.fh,.int .i64 x.fN,.int .i64 x.fb,.int .i64 x.fk,.string x.fd,.string x.fa,.slice a6 x.fc.length c6]] w fun e w'=>∃ a6r c6r,e = .returned (.agg #[.int .i64 x.fh,.int .i64 x.fN,.int .i64 x.fb,.int .i64 x.fk,.string x.fd,.string x.fa,.slice a6r x.fc.length c6r])∧OwnR w' (fun y=>w.heap.size≤y∧y < w'.heap.size) 7 x.ct (fun j=>[.int .i64 x.fh,.int .i64 x.fN,.int .i64 x.fb,.int .i64 x.fk,.string x.fd,.string x.fa,.slice a6r x.fc.length c6r].getD j .nilFunc)∧Below w.heap.size w w':=by
 have HS6:=yq hs6;clear hs6;have HW:=yq hsz;clear hsz;have HB0:=yq (((((Below.refl w.heap.size w).alloc (Nat.le_refl _) (.cells #[.int .i64 x.fh,.int .i64 x.fN,.int .i64 x.fb,.int .i64 x.fk,.string x.fd,.string x.fa,.slice a6 x.fc.length c6] 147)).alloc ye (.cells #[.int .i64 0,.int .i64 0,.int .i64 0,.int .i64 0,.string ⟨#[]⟩,.string ⟨#[]⟩,.slice none 0 0] 90))).alloc ye (.cells #[.int .i64 0,.int .i64 0,.int .i64 0,.int .i64 0,.string ⟨#[]⟩,.string ⟨#[]⟩,.slice none 0 0] 90))
 have HSZ0:=yq (show w.heap.size+2 < (((w.alloc (.cells #[.int .i64 x.fh,.int .i64 x.fN,.int .i64 x.fb,.int .i64 x.fk,.string x.fd,.string x.fa,.slice a6 x.fc.length c6] 147)).alloc (.cells #[.int .i64 0,.int .i64 0,.int .i64 0,.int .i64 0,.string ⟨#[]⟩,.string ⟨#[]⟩,.slice none 0 0] 90)).alloc (.cells #[.int .i64 0,.int .i64 0,.int .i64 0,.int .i64 0,.string ⟨#[]⟩,.string ⟨#[]⟩,.slice none 0 0] 90)).heap.size by simp)
 have ht0:=fun (w':World) (hhi:hi≤w'.heap.size) (hs:Sl lo hi w' 7 x.fc.length (ctE x.fc) a6)=>HA (cap:=c6) (by have h:=HW.out;rw [DExpr.sz_eq] at h;omega) w' hhi hs
 have HT0:=yq ht0;clear ht0
 go_enter Tryz.func143,Tryz.ntmps143
 (go_wp2_with fail)
 refine (HT0.out _ (Nat.le_trans hhi (Below.size ((by repeat (first|(with_reducible exact HB0.out)|(with_reducible exact Below.refl _ _)|(refine Below.setCell ?_ ye _)|(refine Below.alloc ?_ ye _)):Below w.heap.size w _)))) (HS6.out.later ((by repeat (first|(with_reducible exact HB0.out)|(with_reducible exact Below.refl _ _)|(refine Below.setCell ?_ ye _)|(refine Below.alloc ?_ ye _)):Below w.heap.size w _)) hhi)).mono ?_
 rintro e w1 ⟨a6r,c6r,rfl,ho1,hb1⟩
 have hsz1:w.heap.size+2 < w1.heap.size:=Nat.lt_of_lt_of_le (by have h:=HSZ0.out;first|(with_reducible exact h)|(simp;done)|(simp;omega)|(simp [World.setCell];omega)) hb1.size
 have hlo1:w.heap.size+3≤w1.heap.size:=Nat.le_trans yk hb1.size
 have hbw1:Below w.heap.size w w1:=Below.trans ((by repeat (first|(with_reducible exact HB0.out)|(with_reducible exact Below.refl _ _)|(refine Below.setCell ?_ ye _)|(refine Below.alloc ?_ ye _)):Below w.heap.size w _)) (hb1.mono (Below.size ((by repeat (first|(with_reducible exact HB0.out)|(with_reducible exact Below.refl _ _)|(refine Below.setCell ?_ ye _)|(refine Below.alloc ?_ ye _)):Below w.heap.size w _))))
 have HO1_1:=yq (ho1.sub (F':=fun y=>w.heap.size+3≤y∧y < w1.heap.size) (fun y hy=>⟨Nat.le_trans yj hy.1,hy.2⟩))
 clear ho1
 have x1_1_0:w1.cell? ⟨w.heap.size+1,0,none⟩=some (.int .i64 0):=(hb1.cell (p:=⟨w.heap.size+1,0,none⟩) yd).trans (by go_simp)
 have z1_1_0:w1.frozen? ⟨w.heap.size+1,0,none⟩=false:=(hb1.frozen (p:=⟨w.heap.size+1,0,none⟩) yd).trans (by go_simp)
 have x1_1_1:w1.cell? ⟨w.heap.size+1,1,none⟩=some (.int .i64 0):=(hb1.cell (p:=⟨w.heap.size+1,1,none⟩) yd).trans (by go_simp)
 have z1_1_1:w1.frozen? ⟨w.heap.size+1,1,none⟩=false:=(hb1.frozen (p:=⟨w.heap.size+1,1,none⟩) yd).trans (by go_simp)
 have x1_1_2:w1.cell? ⟨w.heap.size+1,2,none⟩=some (.int .i64 0):=(hb1.cell (p:=⟨w.heap.size+1,2,none⟩) yd).trans (by go_simp)
 have z1_1_2:w1.frozen? ⟨w.heap.size+1,2,none⟩=false:=(hb1.frozen (p:=⟨w.heap.size+1,2,none⟩) yd).trans (by go_simp)
 have x1_1_3:w1.cell? ⟨w.heap.size+1,3,none⟩=some (.int .i64 0):=(hb1.cell (p:=⟨w.heap.size+1,3,none⟩) yd).trans (by go_simp)
 have z1_1_3:w1.frozen? ⟨w.heap.size+1,3,none⟩=false:=(hb1.frozen (p:=⟨w.heap.size+1,3,none⟩) yd).trans (by go_simp)
 have x1_1_4:w1.cell? ⟨w.heap.size+1,4,none⟩=some (.string ⟨#[]⟩):=(hb1.cell (p:=⟨w.heap.size+1,4,none⟩) yd).trans (by go_simp)
 have z1_1_4:w1.frozen? ⟨w.heap.size+1,4,none⟩=false:=(hb1.frozen (p:=⟨w.heap.size+1,4,none⟩) yd).trans (by go_simp)
 have x1_1_5:w1.cell? ⟨w.heap.size+1,5,none⟩=some (.string ⟨#[]⟩):=(hb1.cell (p:=⟨w.heap.size+1,5,none⟩) yd).trans (by go_simp)
 have z1_1_5:w1.frozen? ⟨w.heap.size+1,5,none⟩=false:=(hb1.frozen (p:=⟨w.heap.size+1,5,none⟩) yd).trans (by go_simp)
 have x1_1_6:w1.cell? ⟨w.heap.size+1,6,none⟩=some (.slice none 0 0):=(hb1.cell (p:=⟨w.heap.size+1,6,none⟩) yd).trans (by go_simp)
 have z1_1_6:w1.frozen? ⟨w.heap.size+1,6,none⟩=false:=(hb1.frozen (p:=⟨w.heap.size+1,6,none⟩) yd).trans (by go_simp)
 have x1_2_0:w1.cell? ⟨w.heap.size+2,0,none⟩=some (.int .i64 x.fh):=(hb1.cell (p:=⟨w.heap.size+2,0,none⟩) yd).trans (by go_simp)
 have z1_2_0:w1.frozen? ⟨w.heap.size+2,0,none⟩=false:=(hb1.frozen (p:=⟨w.heap.size+2,0,none⟩) yd).trans (by go_simp)
 have x1_2_1:w1.cell? ⟨w.heap.size+2,1,none⟩=some (.int .i64 x.fN):=(hb1.cell (p:=⟨w.heap.size+2,1,none⟩) yd).trans (by go_simp)
 have z1_2_1:w1.frozen? ⟨w.heap.size+2,1,none⟩=false:=(hb1.frozen (p:=⟨w.heap.size+2,1,none⟩) yd).trans (by go_simp)
 have x1_2_2:w1.cell? ⟨w.heap.size+2,2,none⟩=some (.int .i64 x.fb):=(hb1.cell (p:=⟨w.heap.size+2,2,none⟩) yd).trans (by go_simp)
 have z1_2_2:w1.frozen? ⟨w.heap.size+2,2,none⟩=false:=(hb1.frozen (p:=⟨w.heap.size+2,2,none⟩) yd).trans (by go_simp)
 have x1_2_3:w1.cell? ⟨w.heap.size+2,3,none⟩=some (.int .i64 x.fk):=(hb1.cell (p:=⟨w.heap.size+2,3,none⟩) yd).trans (by go_simp)
 have z1_2_3:w1.frozen? ⟨w.heap.size+2,3,none⟩=false:=(hb1.frozen (p:=⟨w.heap.size+2,3,none⟩) yd).trans (by go_simp)
 have x1_2_4:w1.cell? ⟨w.heap.size+2,4,none⟩=some (.string x.fd):=(hb1.cell (p:=⟨w.heap.size+2,4,none⟩) yd).trans (by go_simp)
 have z1_2_4:w1.frozen? ⟨w.heap.size+2,4,none⟩=false:=(hb1.frozen (p:=⟨w.heap.size+2,4,none⟩) yd).trans (by go_simp)
 have x1_2_5:w1.cell? ⟨w.heap.size+2,5,none⟩=some (.string x.fa):=(hb1.cell (p:=⟨w.heap.size+2,5,none⟩) yd).trans (by go_simp)
 have z1_2_5:w1.frozen? ⟨w.heap.size+2,5,none⟩=false:=(hb1.frozen (p:=⟨w.heap.size+2,5,none⟩) yd).trans (by go_simp)
 have x1_2_6:w1.cell? ⟨w.heap.size+2,6,none⟩=some (.slice none 0 0):=(hb1.cell (p:=⟨w.heap.size+2,6,none⟩) yd).trans (by go_simp)
 have z1_2_6:w1.frozen? ⟨w.heap.size+2,6,none⟩=false:=(hb1.frozen (p:=⟨w.heap.size+2,6,none⟩) yd).trans (by go_simp)
 have HG1:=yq (show w1.heap[w.heap.size+1]? = some (.cells #[.int .i64 0,.int .i64 0,.int .i64 0,.int .i64 0,.string ⟨#[]⟩,.string ⟨#[]⟩,.slice none 0 0] 90) from (hb1.block _ yd).trans (by (repeat (refine zaj (by simp) ?_));exact zn (by simp) (ze (by simp))))
 have HB1:=yq hbw1;have HSZ1:=yq hsz1;have HLO1:=yq hlo1;clear hb1 hbw1 hsz1 hlo1;go_wp2
 refine bodyPost_ret (v:=.agg #[.int .i64 x.fh,.int .i64 x.fN,.int .i64 x.fb,.int .i64 x.fk,.string x.fd,.string x.fa,.slice a6r x.fc.length c6r]) (results_cell_row Tryz.results143 _ _ (w.heap.size+1) 90 #[.int .i64 x.fh,.int .i64 x.fN,.int .i64 x.fb,.int .i64 x.fk,.string x.fd,.string x.fa,.slice a6r x.fc.length c6r] (0,0) _ rfl (by refine Eq.trans (zm (cs:=#[.int .i64 x.fh,.int .i64 x.fN,.int .i64 x.fb,.int .i64 x.fk,.string x.fd,.string x.fa,.slice none 0 0]) (t:=90) (fr:=(0,0)) ?_) rfl;refine Eq.trans (zm (cs:=#[.int .i64 x.fh,.int .i64 x.fN,.int .i64 x.fb,.int .i64 x.fk,.string x.fd,.string ⟨#[]⟩,.slice none 0 0]) (t:=90) (fr:=(0,0)) ?_) rfl;refine Eq.trans (zm (cs:=#[.int .i64 x.fh,.int .i64 x.fN,.int .i64 x.fb,.int .i64 x.fk,.string ⟨#[]⟩,.string ⟨#[]⟩,.slice none 0 0]) (t:=90) (fr:=(0,0)) ?_) rfl;refine Eq.trans (zm (cs:=#[.int .i64 x.fh,.int .i64 x.fN,.int .i64 x.fb,.int .i64 0,.string ⟨#[]⟩,.string ⟨#[]⟩,.slice none 0 0]) (t:=90) (fr:=(0,0)) ?_) rfl;refine Eq.trans (zm (cs:=#[.int .i64 x.fh,.int .i64 x.fN,.int .i64 0,.int .i64 0,.string ⟨#[]⟩,.string ⟨#[]⟩,.slice none 0 0]) (t:=90) (fr:=(0,0)) ?_) rfl;refine Eq.trans (zm (cs:=#[.int .i64 x.fh,.int .i64 0,.int .i64 0,.int .i64 0,.string ⟨#[]⟩,.string ⟨#[]⟩,.slice none 0 0]) (t:=90) (fr:=(0,0)) ?_) rfl;refine Eq.trans (zm (cs:=#[.int .i64 0,.int .i64 0,.int .i64 0,.int .i64 0,.string ⟨#[]⟩,.string ⟨#[]⟩,.slice none 0 0]) (t:=90) (fr:=(0,0)) ?_) rfl;repeat (first|(with_reducible exact HG1.out)|(refine zaj (by simp) ?_))) Tryz.underlying90 rfl rfl) rfl ⟨a6r,c6r,rfl,?_,(by repeat (first|(with_reducible exact HB1.out)|(with_reducible exact Below.refl _ _)|(refine Below.setCell ?_ ye _)|(refine Below.alloc ?_ ye _)):Below w.heap.size w _)⟩
 have ho1:=HO1_1.out;clear HO1_1;have q1:=HLO1.out;skip
 have hkk : ∀ w9:World,Kept (fun y=>w.heap.size+3≤y) w1 w9→OwnR w9 (fun y=>w.heap.size≤y∧y < w1.heap.size) 7 x.ct (fun j=>[.int .i64 x.fh,.int .i64 x.fN,.int .i64 x.fb,.int .i64 x.fk,.string x.fd,.string x.fa,.slice a6r x.fc.length c6r].getD j .nilFunc):=fun w9 hk=>by
  refine OwnR.append (F1:=fun _=>False) (F2:=fun y=>w.heap.size+3≤y∧y < w1.heap.size) (m:=6) (n:=1) ?_ ?_ yo ym ym
  ·skip
   refine OwnR.lits (F:=fun _=>False) fun j hj=>?_
   match j,hj with
   | 0,_=>rfl
   | 1,_=>rfl
   | 2,_=>rfl
   | 3,_=>rfl
   | 4,_=>rfl
   | 5,_=>rfl
  ·skip
   exact OwnR.one (ho1.kept (hk.sub fun y hy=>by have h:=hy.1;omega))
 refine (hkk _ (by repeat (first|(with_reducible exact Kept.refl)|(refine Kept.put ?_ (by intro h1;dsimp only at h1;omega))))).sub (fun y hy=>⟨hy.1,Nat.lt_of_lt_of_le hy.2 (by simp)⟩)
theorem zk4 (x:DExpr) (HA:zw5 x.fc):zt3 x:=by
 intro lo hi a6 c6 hsz w hhi hs6;exact zmi x HA (lo:=lo) (hi:=hi) (a6:=a6) (c6:=c6) hsz w hhi hs6
theorem zk3:(Tryz.prog.info? 90).map (fun i=>(i.zero,i.size,i.bytes))=some (some (.agg #[.int .i64 0,.int .i64 0,.int .i64 0,.int .i64 0,.string ⟨#[]⟩,.string ⟨#[]⟩,.slice none 0 0]),7,88):=by kernel_rfl
theorem zly {lo hi:Nat} {a:Option Addr} {cap:Nat} (l:List DExpr) (HE : ∀ x ∈ l,zt3 x) (hsz:lsz DExpr.sz l≤1048576) (w:World) (hhi:hi≤w.heap.size) (hs:Sl lo hi w 7 l.length (ctE l) a) :
  Calls Tryz.prog 176 #[.slice a l.length cap] w fun e w'=>∃ a' cap',e = .returned (.slice a' l.length cap')∧Own w' (fun x=>w.heap.size≤x∧x < w'.heap.size) (.sl 7 l.length (ctE l)) (.slice a' l.length cap')∧Below w.heap.size w w':=by
 have HEH:=yq HE;clear HE;have HS:=yq hs;clear hs;have HW:=yq hsz
 have hn:l.length≤1048576:=by unfold lsz at hsz;omega
 clear hsz;obtain ⟨i0,hi',hz0,hz1,hz2⟩:=info_parts zk3
 go_enter Tryz.func176,Tryz.ntmps176
 go_wp2_with (at_make;refine wpList_make_full _ rfl (.tmp 6) (.tmp 6) 88 rfl w.heap.size 90 i0 (.agg #[.int .i64 0,.int .i64 0,.int .i64 0,.int .i64 0,.string ⟨#[]⟩,.string ⟨#[]⟩,.slice none 0 0]) 7 Tryz.underlying88 hi' hz0 hz1 .i64 .i64 (l.length:Int) (l.length:Int) l.length rfl rfl rfl rfl (by rw [hz2];omega) yl (Nat.le_refl _) ?_;intro w1 hown hgrow)
 have hb1:Below w.heap.size w w1:=(Below.refl _ w).grown hgrow (Nat.le_refl _) (fun k hk=>by cases hk)
 clear hgrow;have hblk:=(zak hown).1
 go_loopw [4] (fun i wr=>∃ (k:Nat) (xs:List Value),k≤l.length∧i = .int .i64 (k:Int)∧wr.ownsRow w.heap.size 90 7 (.slice (some ⟨w.heap.size,0,none⟩) l.length l.length) l.length xs∧za7 w.heap.size wr 7 k (ctE l) xs∧Below w.heap.size w wr) (fun i _=>l.length - (intOf i).toNat)
 case atStart=>exact ⟨0,_,Nat.zero_le _,rfl,hown,za7.zero hblk,hb1⟩
 case round =>
  clear hown hb1 hblk;obtain ⟨k,xs,hk,rfl,hown,hfill,hb⟩:=hrel;have hblk:=zak hown;have HO:=yq hown;have HF:=yq hfill;have HB:=yq hb;clear hown hfill
  by_cases hlt:k < l.length
  ·have hE:zt3 (l.getD k default):=@Hid.out _ HEH _ (zbg hlt)
   have hhr:hi≤wr.heap.size:=Nat.le_trans hhi hb.size;obtain ⟨b,off,rfl,hlo,hhi',hc⟩:=(HS.out.later (hb.mono hhi) (Nat.le_refl _)).at k hlt
   obtain ⟨a6,c6,hc0_,hc1_,hc2_,hc3_,hc4_,hc5_,hc6_,hs6⟩:=DExpr.open (by rw [zb6 hlt] at hc;exact hc)
   have hkn:k * 7+7≤l.length * 7:=by omega
   have d0:=hblk.2.2.1 (k * 7) (by omega)
   have z0:=hblk.2.2.2 (k * 7)
   have d1:=hblk.2.2.1 (k * 7+1) (by omega)
   have z1:=hblk.2.2.2 (k * 7+1)
   have d2:=hblk.2.2.1 (k * 7+2) (by omega)
   have z2:=hblk.2.2.2 (k * 7+2)
   have d3:=hblk.2.2.1 (k * 7+3) (by omega)
   have z3:=hblk.2.2.2 (k * 7+3)
   have d4:=hblk.2.2.1 (k * 7+4) (by omega)
   have z4:=hblk.2.2.2 (k * 7+4)
   have d5:=hblk.2.2.1 (k * 7+5) (by omega)
   have z5:=hblk.2.2.2 (k * 7+5)
   have d6:=hblk.2.2.1 (k * 7+6) (by omega)
   have z6:=hblk.2.2.2 (k * 7+6);have hsz:=hblk.1;clear hblk hb hc;have hxs:=zab (f:=DExpr.sz) l k hlt;generalize hx:l.getD k default=x at *;have HX:=yq hx;clear hx;generalize xs.getD (k * 7) Value.nilFunc=v0 at d0;generalize xs.getD (k * 7+1) Value.nilFunc=v1 at d1;generalize xs.getD (k * 7+2) Value.nilFunc=v2 at d2;generalize xs.getD (k * 7+3) Value.nilFunc=v3 at d3;generalize xs.getD (k * 7+4) Value.nilFunc=v4 at d4;generalize xs.getD (k * 7+5) Value.nilFunc=v5 at d5;generalize xs.getD (k * 7+6) Value.nilFunc=v6 at d6
   have HT:=yq (hE (c6:=c6) (by have h1:=HW.out;omega) wr hhr hs6)
   clear hxs hs6;(go_wp2_with fail);refine HT.out.mono ?_;rintro e w1 ⟨a6r,c6r,rfl,ho1,hb1⟩;have HOR:=yq ho1;clear ho1;have e0:=(hb1.cell (p:=⟨w.heap.size,k * 7,none⟩) hsz).trans d0;have y0:=(hb1.frozen (p:=⟨w.heap.size,k * 7,none⟩) hsz).trans z0;have e1:=(hb1.cell (p:=⟨w.heap.size,k * 7+1,none⟩) hsz).trans d1;have y1:=(hb1.frozen (p:=⟨w.heap.size,k * 7+1,none⟩) hsz).trans z1;have e2:=(hb1.cell (p:=⟨w.heap.size,k * 7+2,none⟩) hsz).trans d2;have y2:=(hb1.frozen (p:=⟨w.heap.size,k * 7+2,none⟩) hsz).trans z2;have e3:=(hb1.cell (p:=⟨w.heap.size,k * 7+3,none⟩) hsz).trans d3;have y3:=(hb1.frozen (p:=⟨w.heap.size,k * 7+3,none⟩) hsz).trans z3;have e4:=(hb1.cell (p:=⟨w.heap.size,k * 7+4,none⟩) hsz).trans d4;have y4:=(hb1.frozen (p:=⟨w.heap.size,k * 7+4,none⟩) hsz).trans z4;have e5:=(hb1.cell (p:=⟨w.heap.size,k * 7+5,none⟩) hsz).trans d5;have y5:=(hb1.frozen (p:=⟨w.heap.size,k * 7+5,none⟩) hsz).trans z5;have e6:=(hb1.cell (p:=⟨w.heap.size,k * 7+6,none⟩) hsz).trans d6;have y6:=(hb1.frozen (p:=⟨w.heap.size,k * 7+6,none⟩) hsz).trans z6;have HB1:=yq hb1;clear hb1 d0 z0 d1 z1 d2 z2 d3 z3 d4 z4 d5 z5 d6 z6;go_wp2;go_roundw
   case rel =>
    have hst:=HF.out.stored HB1.out hsz (zl HO.out HB1.out) hlt [.int .i64 x.fh,.int .i64 x.fN,.int .i64 x.fb,.int .i64 x.fk,.string x.fd,.string x.fa,.slice a6r x.fc.length c6r] rfl ((by rw [zb6 hlt,HX.out];exact HOR.out))
    exact ⟨k+1,_,by omega,by go_num,hst.1,hst.2,za8 (Nat.le_refl _) [_,_,_,_,_,_,_] _ (HB.out.trans (HB1.out.mono HB.out.size))⟩
   case measure=>simp [intOf];omega
  ·obtain rfl:k=l.length:=by omega
   go_wp2;go_ret;exact ⟨_,_,rfl,HF.out.own hblk.1 hblk.2.2.1 hblk.2.2.2,hb⟩
theorem zi5 (l:List DExpr) (HE : ∀ x ∈ l,zt3 x):zw5 l:=by
 intro lo hi a cap hsz w hhi hs;exact zly l HE (lo:=lo) (hi:=hi) (a:=a) (cap:=cap) hsz w hhi hs
theorem zjb : ∀ x:DExpr,zt3 x:=DExpr.ind fun x ih=>zk4 x (zi5 x.fc ih)
theorem zf7 {lo hi:Nat} {a6:Option Addr} {c6:Nat} (x:DExpr) (hsz:x.sz≤1048576) (w:World) (hhi:hi≤w.heap.size) (hs6:Sl lo hi w 7 x.fc.length (ctE x.fc) a6) :
  Calls Tryz.prog 143 #[.agg #[.int .i64 x.fh,.int .i64 x.fN,.int .i64 x.fb,.int .i64 x.fk,.string x.fd,.string x.fa,.slice a6 x.fc.length c6]] w fun e w'=>∃ a6r c6r,e = .returned (.agg #[.int .i64 x.fh,.int .i64 x.fN,.int .i64 x.fb,.int .i64 x.fk,.string x.fd,.string x.fa,.slice a6r x.fc.length c6r])∧OwnR w' (fun y=>w.heap.size≤y∧y < w'.heap.size) 7 x.ct (fun j=>[.int .i64 x.fh,.int .i64 x.fN,.int .i64 x.fb,.int .i64 x.fk,.string x.fd,.string x.fa,.slice a6r x.fc.length c6r].getD j .nilFunc)∧Below w.heap.size w w':=zjb x (lo:=lo) (hi:=hi) (a6:=a6) (c6:=c6) hsz w hhi hs6
def zun (x:DExpr):Prop:=∀ {lo hi lo2 hi2:Nat} {a6:Option Addr} {c6:Nat} {a6q:Option Addr} {c6q:Nat} (_hsz:x.sz≤1048576) (w:World) (_hhi:hi≤w.heap.size) (_hhi2:hi2≤w.heap.size) (_hs6:Sl lo hi w 7 x.fc.length (ctE x.fc) a6) (_hs6q:Sl lo2 hi2 w 7 x.fc.length (ctE x.fc) a6q),Calls Tryz.prog 171 #[.agg #[.int .i64 x.fh,.int .i64 x.fN,.int .i64 x.fb,.int .i64 x.fk,.string x.fd,.string x.fa,.slice a6 x.fc.length c6],.agg #[.int .i64 x.fh,.int .i64 x.fN,.int .i64 x.fb,.int .i64 x.fk,.string x.fd,.string x.fa,.slice a6q x.fc.length c6q]] w fun e w'=>e = .returned (.bool true)∧Below w.heap.size w w'
def zxi (l:List DExpr):Prop:=∀ {lo hi lo2 hi2:Nat} {a a2:Option Addr} {cap cap2:Nat} (_hsz:lsz DExpr.sz l≤1048576) (w:World) (_hhi:hi≤w.heap.size) (_hhi2:hi2≤w.heap.size) (_hs:Sl lo hi w 7 l.length (ctE l) a) (_hs2:Sl lo2 hi2 w 7 l.length (ctE l) a2),Calls Tryz.prog 186 #[.slice a l.length cap,.slice a2 l.length cap2] w fun e w'=>e = .returned (.bool true)∧Below w.heap.size w w'
theorem zmh {lo hi lo2 hi2:Nat} {a6:Option Addr} {c6:Nat} {a6q:Option Addr} {c6q:Nat} (x:DExpr) (HA:zxi x.fc) (hsz:x.sz≤1048576) (w:World) (hhi:hi≤w.heap.size) (hhi2:hi2≤w.heap.size) (hs6:Sl lo hi w 7 x.fc.length (ctE x.fc) a6) (hs6q:Sl lo2 hi2 w 7 x.fc.length (ctE x.fc) a6q) :
  Calls Tryz.prog 171 #[.agg #[.int .i64 x.fh,.int .i64 x.fN,.int .i64 x.fb,.int .i64 x.fk,.string x.fd,.string x.fa,.slice a6 x.fc.length c6],.agg #[.int .i64 x.fh,.int .i64 x.fN,.int .i64 x.fb,.int .i64 x.fk,.string x.fd,.string x.fa,.slice a6q x.fc.length c6q]] w fun e w'=>e = .returned (.bool true)∧Below w.heap.size w w':=by
 have HS6:=yq hs6;have HS6q:=yq hs6q;clear hs6 hs6q;have HW:=yq hsz;clear hsz;have HB0:=yq (((Below.refl w.heap.size w).alloc (Nat.le_refl _) (.cells #[.int .i64 x.fh,.int .i64 x.fN,.int .i64 x.fb,.int .i64 x.fk,.string x.fd,.string x.fa,.slice a6 x.fc.length c6] 90)).alloc ye (.cells #[.int .i64 x.fh,.int .i64 x.fN,.int .i64 x.fb,.int .i64 x.fk,.string x.fd,.string x.fa,.slice a6q x.fc.length c6q] 90))
 have ht0:=fun (w':World) (hhi:hi≤w'.heap.size) (hhi2:hi2≤w'.heap.size) (hs:Sl lo hi w' 7 x.fc.length (ctE x.fc) a6) (hs2:Sl lo2 hi2 w' 7 x.fc.length (ctE x.fc) a6q)=>HA (cap:=c6) (cap2:=c6q) (by have h:=HW.out;rw [DExpr.sz_eq] at h;omega) w' hhi hhi2 hs hs2
 have HT0:=yq ht0;clear ht0
 go_enter Tryz.func171,Tryz.ntmps171
 (go_wp2_with fail);refine (HT0.out _ (Nat.le_trans hhi (HB0.out.size)) (Nat.le_trans hhi2 (HB0.out.size)) (HS6.out.later HB0.out hhi) (HS6q.out.later HB0.out hhi2)).mono ?_;rintro e w1 ⟨rfl,hb1⟩;have HB1:=yq (HB0.out.trans (hb1.mono HB0.out.size));clear hb1;go_wp2;go_ret;exact ⟨rfl,HB1.out⟩
theorem zke (x:DExpr) (HA:zxi x.fc):zun x:=by
 intro lo hi lo2 hi2 a6 c6 a6q c6q hsz w hhi hhi2 hs6 hs6q;exact zmh x HA (lo:=lo) (hi:=hi) (lo2:=lo2) (hi2:=hi2) (a6:=a6) (c6:=c6) (a6q:=a6q) (c6q:=c6q) hsz w hhi hhi2 hs6 hs6q
theorem zj4 {lo hi lo2 hi2:Nat} {a a2:Option Addr} {cap cap2:Nat} (l:List DExpr) (HE : ∀ x ∈ l,zun x) (hsz:lsz DExpr.sz l≤1048576) (w:World) (hhi:hi≤w.heap.size) (hhi2:hi2≤w.heap.size) (hs:Sl lo hi w 7 l.length (ctE l) a) (hs2:Sl lo2 hi2 w 7 l.length (ctE l) a2) :
  Calls Tryz.prog 186 #[.slice a l.length cap,.slice a2 l.length cap2] w fun e w'=>e = .returned (.bool true)∧Below w.heap.size w w':=by
 have HEH:=yq HE;clear HE;have HS:=yq hs;have HS2:=yq hs2;have HW:=yq hsz
 have hn:l.length≤1048576:=by unfold lsz at hsz;omega
 clear hs hs2 hsz
 go_enter Tryz.func186,Tryz.ntmps186
 go_wp2
 go_loopw [5] (fun i wr=>∃ k:Nat,k≤l.length∧i = .int .i64 (k:Int)∧Below w.heap.size w wr) (fun i _=>l.length - (intOf i).toNat)
 case atStart=>exact ⟨0,Nat.zero_le _,rfl,Below.refl _ _⟩
 case round =>
  obtain ⟨k,hk,rfl,hb⟩:=hrel;have HB:=yq hb
  by_cases hlt:k < l.length
  ·have hE:zun (l.getD k default):=@Hid.out _ HEH _ (zbg hlt)
   have hhr:hi≤wr.heap.size:=Nat.le_trans hhi hb.size;have hhr2:hi2≤wr.heap.size:=Nat.le_trans hhi2 hb.size;obtain ⟨b,off,rfl,_,hhi',hc⟩:=(HS.out.later (hb.mono hhi) (Nat.le_refl _)).at k hlt;obtain ⟨b2,off2,rfl,_,hhi2',hc2⟩:=(HS2.out.later (hb.mono hhi2) (Nat.le_refl _)).at k hlt
   obtain ⟨a6,c6,hc0_,hc1_,hc2_,hc3_,hc4_,hc5_,hc6_,hs6⟩:=DExpr.open (by rw [zb6 hlt] at hc;exact hc)
   obtain ⟨a6q,c6q,hc0q_,hc1q_,hc2q_,hc3q_,hc4q_,hc5q_,hc6q_,hs6q⟩:=DExpr.open (by rw [zb6 hlt] at hc2;exact hc2)
   have hxs:=zab (f:=DExpr.sz) l k hlt;clear hb hc hc2;generalize l.getD k default=x at *
   have HT:=yq (fun (w':World) (hw:Below wr.heap.size wr w')=>hE (c6:=c6) (c6q:=c6q) (by have h1:=HW.out;omega) w' (Nat.le_trans hhr hw.size) (Nat.le_trans hhr2 hw.size) (hs6.later hw hhr) (hs6q.later hw hhr2))
   clear hxs hs6 hs6q;(go_wp2_with fail)
   go_region_with ((go_at_call 171;refine (HT.out _ (by first|exact Below.refl _ _|exact (Below.refl _ _).drew|exact below_drewN (Below.refl _ _) _)).mono ?_;rintro e w1 ⟨rfl,hb1⟩))
   all_goals
    go_wp2;go_roundw
    case rel =>
     refine ⟨k+1,by omega,by go_num,?_⟩
     have hb2:Below wr.heap.size wr w1:=⟨hb1.os,hb1.tape,hb1.output,hb1.size,hb1.block⟩
     repeat (first|exact HB.out.trans (hb2.mono HB.out.size)|apply Below.drew|refine below_drewN ?_ _)
    case measure=>simp [intOf];omega
  ·go_wp2
   go_ret;exact ⟨rfl,HB.out⟩
theorem zi2 (l:List DExpr) (HE : ∀ x ∈ l,zun x):zxi l:=by
 intro lo hi lo2 hi2 a a2 cap cap2 hsz w hhi hhi2 hs hs2;exact zj4 l HE (lo:=lo) (hi:=hi) (lo2:=lo2) (hi2:=hi2) (a:=a) (a2:=a2) (cap:=cap) (cap2:=cap2) hsz w hhi hhi2 hs hs2
theorem zi7 : ∀ x:DExpr,zun x:=DExpr.ind fun x ih=>zke x (zi2 x.fc ih)
theorem zf2 {lo hi lo2 hi2:Nat} {a6:Option Addr} {c6:Nat} {a6q:Option Addr} {c6q:Nat} (x:DExpr) (hsz:x.sz≤1048576) (w:World) (hhi:hi≤w.heap.size) (hhi2:hi2≤w.heap.size) (hs6:Sl lo hi w 7 x.fc.length (ctE x.fc) a6) (hs6q:Sl lo2 hi2 w 7 x.fc.length (ctE x.fc) a6q) :
  Calls Tryz.prog 171 #[.agg #[.int .i64 x.fh,.int .i64 x.fN,.int .i64 x.fb,.int .i64 x.fk,.string x.fd,.string x.fa,.slice a6 x.fc.length c6],.agg #[.int .i64 x.fh,.int .i64 x.fN,.int .i64 x.fb,.int .i64 x.fk,.string x.fd,.string x.fa,.slice a6q x.fc.length c6q]] w fun e w'=>e = .returned (.bool true)∧Below w.heap.size w w':=zi7 x (lo:=lo) (hi:=hi) (lo2:=lo2) (hi2:=hi2) (a6:=a6) (c6:=c6) (a6q:=a6q) (c6q:=c6q) hsz w hhi hhi2 hs6 hs6q
structure DOccurrence where
 fb:Int
 fa:ByteArray
 deriving Inhabited
def DOccurrence.ct (x:DOccurrence):Nat→Ct
 | 0=>.lit (.int .i64 x.fb)
 | 1=>.lit (.string x.fa)
 | _=>.lit .nilFunc
def DOccurrence.ok (x:DOccurrence):Prop:=okI x.fb∧okS x.fa
def DOccurrence.sz (x:DOccurrence):Nat:=x.fa.size
theorem DOccurrence.open {lo hi b o:Nat} {w:World} {x:DOccurrence} (h : ∀ j,j < 2 → ∃ u,w.cell? ⟨b,o+j,none⟩=some u∧Lies lo hi w (x.ct j) u) :
  w.cell? ⟨b,o,none⟩=some (.int .i64 x.fb)∧w.cell? ⟨b,o+1,none⟩=some (.string x.fa):=by
 obtain ⟨u0,hc0,hl0⟩:=h 0 (by decide)
 obtain rfl:=zr hl0
 obtain ⟨u1,hc1,hl1⟩:=h 1 (by decide)
 obtain rfl:=zr hl1;exact ⟨hc0,hc1⟩
theorem zja {H:Type} {enc:TypeId × Value→H} {w:World} (fuel:Nat):zg1 enc Tryz.prog w 144 2 DOccurrence.ct DOccurrence.ok fuel:=by
 intro cs x h;have hl:=zct Tryz.underlying144 h
 obtain ⟨y0,k0,q0⟩:=zq Tryz.underlying144 h 0 _ rfl (ft:=3) (o:=0) (n:=1) rfl rfl (fun m _=>zc9 Tryz.underlying3 m) (by kernel_rfl)
 obtain ⟨y1,k1,q1⟩:=zq Tryz.underlying144 h 1 _ rfl (ft:=9) (o:=1) (n:=1) rfl rfl (fun m _=>za1 Tryz.underlying9 m) (by kernel_rfl)
 refine ⟨⟨y0,y1⟩,⟨k0,k1⟩,hl.trans (by kernel_rfl),fun j hj=>?_⟩
 match j,hj with
 | 0,_=>exact q0 0 (by decide)
 | 1,_=>exact q1 0 (by decide)
theorem zci (x:DOccurrence) (L:Int) (hL0:0≤L) (hL1:L≤1048576) (hx:x.ok) (w:World) :
  Calls Tryz.prog 134 #[.agg #[.int .i64 x.fb,.string x.fa],.int .i64 L] w fun e w'=>e = .returned (.int .i64 (szR L x.sz))∧Below w.heap.size w w':=by
 have HX:=yq hx;clear hx;have okName:x.fa.size≤9223372036854775807:=HX.out.2;have HB0:=yq ((Below.refl w.heap.size w).alloc (Nat.le_refl _) (.cells #[.int .i64 x.fb,.string x.fa] 144))
 by_cases h0:L < ((x.fa.size:Nat):Int)
 ·skip
  have fin:=yq (zae (n:=x.sz) (L:=L) (by unfold DOccurrence.sz;omega))
  go_enter Tryz.func134,Tryz.ntmps134
  go_wp2;go_ret
  exact ⟨zan (by rw [fin.out]),HB0.out⟩
 ·skip
  have fin:=yq (zas (n:=x.sz) (L:=L) (by unfold DOccurrence.sz;omega))
  go_enter Tryz.func134,Tryz.ntmps134
  go_wp2;go_ret
  exact ⟨zan (by rw [fin.out];unfold DOccurrence.sz;omega),HB0.out⟩
theorem zh9 (x:DOccurrence) (w:World) :
  Calls Tryz.prog 142 #[.agg #[.int .i64 x.fb,.string x.fa]] w fun e w'=>e = .returned (.agg #[.int .i64 x.fb,.string x.fa])∧Below w.heap.size w w':=by
 go_enter Tryz.func142,Tryz.ntmps142
 go_wp2
 exact bodyPost_ret (v:=.agg #[.int .i64 x.fb,.string x.fa]) (by simp [results,Tryz.results142,go_sem]) rfl ⟨rfl,by
  repeat (first|exact Below.refl _ _|(refine Below.setCell ?_ ye _)|(refine Below.alloc ?_ ye _))⟩
theorem zlo:(Tryz.prog.info? 87).map (fun i=>(i.zero,i.size,i.bytes))=some (some (.agg #[.int .i64 0,.string ⟨#[]⟩]),2,24):=by kernel_rfl
theorem zh0 (x:DOccurrence) (w:World) :
  Calls Tryz.prog 170 #[.agg #[.int .i64 x.fb,.string x.fa],.agg #[.int .i64 x.fb,.string x.fa]] w fun e w'=>e = .returned (.bool true)∧Below w.heap.size w w':=by
 go_enter Tryz.func170,Tryz.ntmps170
 go_wp2;go_ret
 exact ⟨rfl,by
  repeat (first|exact Below.refl _ _|(refine Below.setCell ?_ ye _)|(refine Below.alloc ?_ ye _))⟩
structure DEquation where
 fAt:DOccurrence
 fi:DExpr
 deriving Inhabited
def DEquation.ct (x:DEquation):Nat→Ct
 | 0=>.lit (.int .i64 x.fAt.fb)
 | 1=>.lit (.string x.fAt.fa)
 | 2=>.lit (.int .i64 x.fi.fh)
 | 3=>.lit (.int .i64 x.fi.fN)
 | 4=>.lit (.int .i64 x.fi.fb)
 | 5=>.lit (.int .i64 x.fi.fk)
 | 6=>.lit (.string x.fi.fd)
 | 7=>.lit (.string x.fi.fa)
 | 8=>.sl 7 x.fi.fc.length (ctE x.fi.fc)
 | _=>.lit .nilFunc
def DEquation.ok (x:DEquation):Prop:=DOccurrence.ok x.fAt∧DExpr.ok x.fi
def DEquation.sz (x:DEquation):Nat:=DOccurrence.sz x.fAt+DExpr.sz x.fi
theorem DEquation.open {lo hi b o:Nat} {w:World} {x:DEquation} (h : ∀ j,j < 9 → ∃ u,w.cell? ⟨b,o+j,none⟩=some u∧Lies lo hi w (x.ct j) u) :
  ∃ a8 c8,w.cell? ⟨b,o,none⟩=some (.int .i64 x.fAt.fb)∧w.cell? ⟨b,o+1,none⟩=some (.string x.fAt.fa)∧w.cell? ⟨b,o+2,none⟩=some (.int .i64 x.fi.fh)∧w.cell? ⟨b,o+3,none⟩=some (.int .i64 x.fi.fN)∧w.cell? ⟨b,o+4,none⟩=some (.int .i64 x.fi.fb)∧w.cell? ⟨b,o+5,none⟩=some (.int .i64 x.fi.fk)∧w.cell? ⟨b,o+6,none⟩=some (.string x.fi.fd)∧w.cell? ⟨b,o+7,none⟩=some (.string x.fi.fa)∧w.cell? ⟨b,o+8,none⟩=some (.slice a8 x.fi.fc.length c8)∧Sl lo hi w 7 x.fi.fc.length (ctE x.fi.fc) a8:=by
 obtain ⟨u0,hc0,hl0⟩:=h 0 (by decide)
 obtain rfl:=zr hl0
 obtain ⟨u1,hc1,hl1⟩:=h 1 (by decide)
 obtain rfl:=zr hl1
 obtain ⟨u2,hc2,hl2⟩:=h 2 (by decide)
 obtain rfl:=zr hl2
 obtain ⟨u3,hc3,hl3⟩:=h 3 (by decide)
 obtain rfl:=zr hl3
 obtain ⟨u4,hc4,hl4⟩:=h 4 (by decide)
 obtain rfl:=zr hl4
 obtain ⟨u5,hc5,hl5⟩:=h 5 (by decide)
 obtain rfl:=zr hl5
 obtain ⟨u6,hc6,hl6⟩:=h 6 (by decide)
 obtain rfl:=zr hl6
 obtain ⟨u7,hc7,hl7⟩:=h 7 (by decide)
 obtain rfl:=zr hl7
 obtain ⟨u8,hc8,hl8⟩:=h 8 (by decide)
 obtain ⟨a8,c8,rfl,hs8⟩:=zc6 hl8;exact ⟨a8,c8,hc0,hc1,hc2,hc3,hc4,hc5,hc6,hc7,hc8,hs8⟩
theorem zmp {H:Type} {enc:TypeId × Value→H} {w:World} (fuel:Nat):zg1 enc Tryz.prog w 149 9 DEquation.ct DEquation.ok fuel:=by
 intro cs x h;have hl:=zct Tryz.underlying149 h
 obtain ⟨y0,k0,q0⟩:=zq Tryz.underlying149 h 0 _ rfl (ft:=144) (o:=0) (n:=2) rfl rfl (fun m _=>zja m) (by kernel_rfl)
 obtain ⟨y1,k1,q1⟩:=zq Tryz.underlying149 h 1 _ rfl (ft:=147) (o:=2) (n:=7) rfl rfl (fun m _=>zhx m) (by kernel_rfl)
 refine ⟨⟨y0,y1⟩,⟨k0,k1⟩,hl.trans (by kernel_rfl),fun j hj=>?_⟩
 match j,hj with
 | 0,_=>exact q0 0 (by decide)
 | 1,_=>exact q0 1 (by decide)
 | 2,_=>exact q1 0 (by decide)
 | 3,_=>exact q1 1 (by decide)
 | 4,_=>exact q1 2 (by decide)
 | 5,_=>exact q1 3 (by decide)
 | 6,_=>exact q1 4 (by decide)
 | 7,_=>exact q1 5 (by decide)
 | 8,_=>exact q1 6 (by decide)
theorem zkz {lo hi:Nat} {a8:Option Addr} {c8:Nat} (x:DEquation) (L:Int) (hL0:0≤L) (hL1:L≤1048576) (hx:x.ok) (w:World) (hhi:hi≤w.heap.size) (hs8:Sl lo hi w 7 x.fi.fc.length (ctE x.fi.fc) a8) :
  Calls Tryz.prog 99 #[.agg #[.int .i64 x.fAt.fb,.string x.fAt.fa,.int .i64 x.fi.fh,.int .i64 x.fi.fN,.int .i64 x.fi.fb,.int .i64 x.fi.fk,.string x.fi.fd,.string x.fi.fa,.slice a8 x.fi.fc.length c8],.int .i64 L] w fun e w'=>e = .returned (.int .i64 (szR L x.sz))∧Below w.heap.size w w':=by
 have HS8:=yq hs8;clear hs8;have HX:=yq hx;clear hx;have HB0:=yq ((Below.refl w.heap.size w).alloc (Nat.le_refl _) (.cells #[.int .i64 x.fAt.fb,.string x.fAt.fa,.int .i64 x.fi.fh,.int .i64 x.fi.fN,.int .i64 x.fi.fb,.int .i64 x.fi.fk,.string x.fi.fd,.string x.fi.fa,.slice a8 x.fi.fc.length c8] 149))
 by_cases h0:L < ((DOccurrence.sz x.fAt:Nat):Int)
 ·skip
  have hz0:=fun (w':World)=>zci x.fAt L (by omega) (by omega) HX.out.1 w'
  rw [zae (by omega)] at hz0
  have HZ0:=yq hz0;clear hz0
  have fin:=yq (zae (n:=x.sz) (L:=L) (by unfold DEquation.sz;omega))
  go_enter Tryz.func99,Tryz.ntmps99
  (go_wp2_with fail);refine (HZ0.out _).mono ?_;rintro e w1 ⟨rfl,hb1⟩;have hsz1:w.heap.size < w1.heap.size:=Nat.lt_of_lt_of_le yg hb1.size;have HB1:=yq (HB0.out.trans (hb1.mono HB0.out.size));clear hb1;go_wp2;go_ret
  exact ⟨zan (by rw [fin.out]),HB1.out⟩
 ·skip
  by_cases h1:(L - (DOccurrence.sz x.fAt:Nat)) < ((DExpr.sz x.fi:Nat):Int)
  ·skip
   have hz0:=fun (w':World)=>zci x.fAt L (by omega) (by omega) HX.out.1 w'
   rw [zas (by omega)] at hz0
   have HZ0:=yq hz0;clear hz0
   have hz1:=fun (w':World) (hhi:hi≤w'.heap.size) (hs8:Sl lo hi w' 7 x.fi.fc.length (ctE x.fi.fc) a8)=>zb2 (c6:=c8) x.fi (L - (DOccurrence.sz x.fAt:Nat)) (by omega) (by omega) HX.out.2 w' hhi hs8
   rw [zae (by omega)] at hz1
   have HZ1:=yq hz1;clear hz1
   have fin:=yq (zae (n:=x.sz) (L:=L) (by unfold DEquation.sz;omega))
   go_enter Tryz.func99,Tryz.ntmps99
   (go_wp2_with fail);refine (HZ0.out _).mono ?_;rintro e w1 ⟨rfl,hb1⟩;have hsz1:w.heap.size < w1.heap.size:=Nat.lt_of_lt_of_le yg hb1.size
   have x1_0_2:w1.cell? ⟨w.heap.size,2,none⟩=some (.int .i64 x.fi.fh):=(hb1.cell (p:=⟨w.heap.size,2,none⟩) yd).trans (by go_simp)
   have x1_0_3:w1.cell? ⟨w.heap.size,3,none⟩=some (.int .i64 x.fi.fN):=(hb1.cell (p:=⟨w.heap.size,3,none⟩) yd).trans (by go_simp)
   have x1_0_4:w1.cell? ⟨w.heap.size,4,none⟩=some (.int .i64 x.fi.fb):=(hb1.cell (p:=⟨w.heap.size,4,none⟩) yd).trans (by go_simp)
   have x1_0_5:w1.cell? ⟨w.heap.size,5,none⟩=some (.int .i64 x.fi.fk):=(hb1.cell (p:=⟨w.heap.size,5,none⟩) yd).trans (by go_simp)
   have x1_0_6:w1.cell? ⟨w.heap.size,6,none⟩=some (.string x.fi.fd):=(hb1.cell (p:=⟨w.heap.size,6,none⟩) yd).trans (by go_simp)
   have x1_0_7:w1.cell? ⟨w.heap.size,7,none⟩=some (.string x.fi.fa):=(hb1.cell (p:=⟨w.heap.size,7,none⟩) yd).trans (by go_simp)
   have x1_0_8:w1.cell? ⟨w.heap.size,8,none⟩=some (.slice a8 x.fi.fc.length c8):=(hb1.cell (p:=⟨w.heap.size,8,none⟩) yd).trans (by go_simp)
   have HB1:=yq (HB0.out.trans (hb1.mono HB0.out.size));clear hb1;(go_wp2_with fail);refine (HZ1.out _ (Nat.le_trans hhi HB1.out.size) (HS8.out.later HB1.out hhi)).mono ?_;rintro e w2 ⟨rfl,hb2⟩;have hsz2:w.heap.size < w2.heap.size:=Nat.lt_of_lt_of_le yg hb2.size;have HB2:=yq (HB1.out.trans (hb2.mono HB1.out.size));clear hb2;go_wp2;go_ret
   exact ⟨zan (by rw [fin.out]),HB2.out⟩
  ·skip
   have hz0:=fun (w':World)=>zci x.fAt L (by omega) (by omega) HX.out.1 w'
   rw [zas (by omega)] at hz0
   have HZ0:=yq hz0;clear hz0
   have hz1:=fun (w':World) (hhi:hi≤w'.heap.size) (hs8:Sl lo hi w' 7 x.fi.fc.length (ctE x.fi.fc) a8)=>zb2 (c6:=c8) x.fi (L - (DOccurrence.sz x.fAt:Nat)) (by omega) (by omega) HX.out.2 w' hhi hs8
   rw [zas (by omega)] at hz1
   have HZ1:=yq hz1;clear hz1
   have fin:=yq (zas (n:=x.sz) (L:=L) (by unfold DEquation.sz;omega))
   go_enter Tryz.func99,Tryz.ntmps99
   (go_wp2_with fail);refine (HZ0.out _).mono ?_;rintro e w1 ⟨rfl,hb1⟩;have hsz1:w.heap.size < w1.heap.size:=Nat.lt_of_lt_of_le yg hb1.size
   have x1_0_2:w1.cell? ⟨w.heap.size,2,none⟩=some (.int .i64 x.fi.fh):=(hb1.cell (p:=⟨w.heap.size,2,none⟩) yd).trans (by go_simp)
   have x1_0_3:w1.cell? ⟨w.heap.size,3,none⟩=some (.int .i64 x.fi.fN):=(hb1.cell (p:=⟨w.heap.size,3,none⟩) yd).trans (by go_simp)
   have x1_0_4:w1.cell? ⟨w.heap.size,4,none⟩=some (.int .i64 x.fi.fb):=(hb1.cell (p:=⟨w.heap.size,4,none⟩) yd).trans (by go_simp)
   have x1_0_5:w1.cell? ⟨w.heap.size,5,none⟩=some (.int .i64 x.fi.fk):=(hb1.cell (p:=⟨w.heap.size,5,none⟩) yd).trans (by go_simp)
   have x1_0_6:w1.cell? ⟨w.heap.size,6,none⟩=some (.string x.fi.fd):=(hb1.cell (p:=⟨w.heap.size,6,none⟩) yd).trans (by go_simp)
   have x1_0_7:w1.cell? ⟨w.heap.size,7,none⟩=some (.string x.fi.fa):=(hb1.cell (p:=⟨w.heap.size,7,none⟩) yd).trans (by go_simp)
   have x1_0_8:w1.cell? ⟨w.heap.size,8,none⟩=some (.slice a8 x.fi.fc.length c8):=(hb1.cell (p:=⟨w.heap.size,8,none⟩) yd).trans (by go_simp)
   have HB1:=yq (HB0.out.trans (hb1.mono HB0.out.size));clear hb1;(go_wp2_with fail);refine (HZ1.out _ (Nat.le_trans hhi HB1.out.size) (HS8.out.later HB1.out hhi)).mono ?_;rintro e w2 ⟨rfl,hb2⟩;have hsz2:w.heap.size < w2.heap.size:=Nat.lt_of_lt_of_le yg hb2.size;have HB2:=yq (HB1.out.trans (hb2.mono HB1.out.size));clear hb2;go_wp2;go_ret
   exact ⟨zan (by rw [fin.out];unfold DEquation.sz;omega),HB2.out⟩
theorem zcw {lo hi:Nat} {a:Option Addr} {cap:Nat} (l:List DEquation) (L:Int) (hL0:0≤L) (hL1:L≤1048576) (hok:okL DEquation.ok l) (w:World) (hhi:hi≤w.heap.size) (hs:Sl lo hi w 9 l.length (fun k=>DEquation.ct (l.getD k default)) a) :
  Calls Tryz.prog 60 #[.slice a l.length cap,.int .i64 L] w fun e w'=>e = .returned (.int .i64 (szR L (lsz DEquation.sz l)))∧Below w.heap.size w w':=by
 have HS:=yq hs;have HK:=yq hok;have hn:l.length≤9223372036854775807:=hok.1;clear hs hok
 by_cases hlong:L < ((l.length:Nat):Int)
 ·have fin:=yq (zae (n:=lsz DEquation.sz l) (L:=L) (by unfold lsz;omega))
  go_enter Tryz.func60,Tryz.ntmps60
  go_wp2;go_ret;exact ⟨zan fin.out.symm,Below.refl _ _⟩
 ·go_enter Tryz.func60,Tryz.ntmps60
  go_wp2
  go_loopw [1,5] (fun q i wr=>∃ k:Nat,k≤l.length∧i = .int .i64 (k:Int)∧q = .int .i64 (L - l.length - psz DEquation.sz l k)∧(l.length:Int)+psz DEquation.sz l k≤L∧Below w.heap.size w wr) (fun _ i _=>l.length - (intOf i).toNat)
  case atStart=>exact ⟨0,Nat.zero_le _,rfl,by rw [zba];go_num,by rw [zba];omega,Below.refl _ _⟩
  case round =>
   obtain ⟨k,hk,rfl,rfl,hle,hb⟩:=hrel;have HB:=yq hb
   by_cases hlt:k < l.length
   ·have hsu:=yq (zc0 DEquation.sz l k hlt)
    have hle2:=yq (zhd DEquation.sz l (k+1));have hokk:=HK.out.at hlt;have hhr:hi≤wr.heap.size:=Nat.le_trans hhi hb.size;obtain ⟨b,off,rfl,hlo,hhi',hc⟩:=(HS.out.later (hb.mono hhi) (Nat.le_refl _)).at k hlt;clear hb;obtain ⟨a8,c8,hc0_,hc1_,hc2_,hc3_,hc4_,hc5_,hc6_,hc7_,hc8_,hs8⟩:=DEquation.open hc;clear hc;generalize l.getD k default=x at *;generalize psz DEquation.sz l k=S at *
    have hZ:=zkz (c8:=c8) x (L - l.length - S) (by omega) (by omega) hokk wr hhr hs8
    by_cases hf:((x.sz:Nat):Int)≤L - l.length - S
    ·rw [zas hf] at hZ
     have HZ:=yq hZ;clear hZ hokk hs8;(go_wp2_with fail);refine HZ.out.mono ?_;rintro e w1 ⟨rfl,hb1⟩;have HB1:=yq hb1;clear hb1;go_wp2;go_roundw
     case rel=>exact ⟨k+1,by omega,by go_num,by rw [hsu.out];go_num,by rw [hsu.out];omega,HB.out.trans (HB1.out.mono HB.out.size)⟩
     case measure=>simp [intOf];omega
    ·have fin:=yq (zae (n:=lsz DEquation.sz l) (L:=L) (by have h1:=hsu.out;have h2:=hle2.out;omega))
     rw [zae (by omega)] at hZ
     have HZ:=yq hZ;clear hZ hokk hs8;(go_wp2_with fail);refine HZ.out.mono ?_;rintro e w1 ⟨rfl,hb1⟩;have HB1:=yq hb1;clear hb1;go_wp2;go_ret;exact ⟨zan fin.out.symm,HB.out.trans (HB1.out.mono HB.out.size)⟩
   ·obtain rfl:k=l.length:=by omega
    have fin:=yq (zas (n:=lsz DEquation.sz l) (L:=L) (by unfold lsz;rw [zb0] at hle;omega))
    have fin2:=yq (zb0 DEquation.sz l);go_wp2;go_ret
    exact ⟨zan (by rw [fin.out,fin2.out];unfold lsz;omega),HB.out⟩
theorem zkv {lo hi:Nat} {a8:Option Addr} {c8:Nat} (x:DEquation) (hsz:x.sz≤1048576) (w:World) (hhi:hi≤w.heap.size) (hs8:Sl lo hi w 7 x.fi.fc.length (ctE x.fi.fc) a8) :
  Calls Tryz.prog 110 #[.agg #[.int .i64 x.fAt.fb,.string x.fAt.fa,.int .i64 x.fi.fh,.int .i64 x.fi.fN,.int .i64 x.fi.fb,.int .i64 x.fi.fk,.string x.fi.fd,.string x.fi.fa,.slice a8 x.fi.fc.length c8]] w fun e w'=>∃ a8r c8r,e = .returned (.agg #[.int .i64 x.fAt.fb,.string x.fAt.fa,.int .i64 x.fi.fh,.int .i64 x.fi.fN,.int .i64 x.fi.fb,.int .i64 x.fi.fk,.string x.fi.fd,.string x.fi.fa,.slice a8r x.fi.fc.length c8r])∧OwnR w' (fun y=>w.heap.size≤y∧y < w'.heap.size) 9 x.ct (fun j=>[.int .i64 x.fAt.fb,.string x.fAt.fa,.int .i64 x.fi.fh,.int .i64 x.fi.fN,.int .i64 x.fi.fb,.int .i64 x.fi.fk,.string x.fi.fd,.string x.fi.fa,.slice a8r x.fi.fc.length c8r].getD j .nilFunc)∧Below w.heap.size w w':=by
 have HS8:=yq hs8;clear hs8;have HW:=yq hsz;clear hsz;have HB0:=yq (((((Below.refl w.heap.size w).alloc (Nat.le_refl _) (.cells #[.int .i64 x.fAt.fb,.string x.fAt.fa,.int .i64 x.fi.fh,.int .i64 x.fi.fN,.int .i64 x.fi.fb,.int .i64 x.fi.fk,.string x.fi.fd,.string x.fi.fa,.slice a8 x.fi.fc.length c8] 149)).alloc ye (.cells #[.int .i64 0,.string ⟨#[]⟩,.int .i64 0,.int .i64 0,.int .i64 0,.int .i64 0,.string ⟨#[]⟩,.string ⟨#[]⟩,.slice none 0 0] 95))).alloc ye (.cells #[.int .i64 0,.string ⟨#[]⟩,.int .i64 0,.int .i64 0,.int .i64 0,.int .i64 0,.string ⟨#[]⟩,.string ⟨#[]⟩,.slice none 0 0] 95))
 have HSZ0:=yq (show w.heap.size+2 < (((w.alloc (.cells #[.int .i64 x.fAt.fb,.string x.fAt.fa,.int .i64 x.fi.fh,.int .i64 x.fi.fN,.int .i64 x.fi.fb,.int .i64 x.fi.fk,.string x.fi.fd,.string x.fi.fa,.slice a8 x.fi.fc.length c8] 149)).alloc (.cells #[.int .i64 0,.string ⟨#[]⟩,.int .i64 0,.int .i64 0,.int .i64 0,.int .i64 0,.string ⟨#[]⟩,.string ⟨#[]⟩,.slice none 0 0] 95)).alloc (.cells #[.int .i64 0,.string ⟨#[]⟩,.int .i64 0,.int .i64 0,.int .i64 0,.int .i64 0,.string ⟨#[]⟩,.string ⟨#[]⟩,.slice none 0 0] 95)).heap.size by simp)
 have ht0:=fun (w':World)=>zh9 x.fAt w'
 have HT0:=yq ht0;clear ht0
 have ht1:=fun (w':World) (hhi:hi≤w'.heap.size) (hs8:Sl lo hi w' 7 x.fi.fc.length (ctE x.fi.fc) a8)=>zf7 (c6:=c8) x.fi (by have h:=HW.out;unfold DEquation.sz at h;omega) w' hhi hs8
 have HT1:=yq ht1;clear ht1
 go_enter Tryz.func110,Tryz.ntmps110
 (go_wp2_with fail);refine (HT0.out _).mono ?_;rintro e w1 ⟨rfl,hb1⟩
 have hsz1:w.heap.size+2 < w1.heap.size:=Nat.lt_of_lt_of_le (by have h:=HSZ0.out;first|(with_reducible exact h)|(simp;done)|(simp;omega)|(simp [World.setCell];omega)) hb1.size
 have hlo1:w.heap.size+3≤w1.heap.size:=Nat.le_trans yk hb1.size
 have hbw1:Below w.heap.size w w1:=Below.trans ((by repeat (first|(with_reducible exact HB0.out)|(with_reducible exact Below.refl _ _)|(refine Below.setCell ?_ ye _)|(refine Below.alloc ?_ ye _)):Below w.heap.size w _)) (hb1.mono (Below.size ((by repeat (first|(with_reducible exact HB0.out)|(with_reducible exact Below.refl _ _)|(refine Below.setCell ?_ ye _)|(refine Below.alloc ?_ ye _)):Below w.heap.size w _))))
 have HP1:=yq (show w1.heap[w.heap.size]? = some (.cells #[.int .i64 x.fAt.fb,.string x.fAt.fa,.int .i64 x.fi.fh,.int .i64 x.fi.fN,.int .i64 x.fi.fb,.int .i64 x.fi.fk,.string x.fi.fd,.string x.fi.fa,.slice a8 x.fi.fc.length c8] 149) from (hb1.block _ (by have h9:=HSZ0.out;first|(simp;done)|(simp;omega)|(simp at h9 ⊢;omega))).trans (by (repeat (refine zaj ye ?_));exact zn ye (zn (by simp) (ze (by simp)))))
 have HG1:=yq (show w1.heap[w.heap.size+1]? = some (.cells #[.int .i64 0,.string ⟨#[]⟩,.int .i64 0,.int .i64 0,.int .i64 0,.int .i64 0,.string ⟨#[]⟩,.string ⟨#[]⟩,.slice none 0 0] 95) from (hb1.block _ (by have h9:=HSZ0.out;first|(simp;done)|(simp;omega)|(simp at h9 ⊢;omega))).trans (by (repeat (refine zaj ye ?_));exact zn (by simp) (ze (by simp))))
 have HK1:=yq (show w1.heap[w.heap.size+2]? = some (.cells #[.int .i64 0,.string ⟨#[]⟩,.int .i64 0,.int .i64 0,.int .i64 0,.int .i64 0,.string ⟨#[]⟩,.string ⟨#[]⟩,.slice none 0 0] 95) from (hb1.block _ (by have h9:=HSZ0.out;first|(simp;done)|(simp;omega)|(simp at h9 ⊢;omega))).trans (by first|exact ze (by simp)|(exact ze (by simp))))
 have x1_0_2:w1.cell? ⟨w.heap.size,2,none⟩=some (.int .i64 x.fi.fh):=(cell_of_row _ _ _ _ _ _ HP1.out).trans rfl;have x1_0_3:w1.cell? ⟨w.heap.size,3,none⟩=some (.int .i64 x.fi.fN):=(cell_of_row _ _ _ _ _ _ HP1.out).trans rfl;have x1_0_4:w1.cell? ⟨w.heap.size,4,none⟩=some (.int .i64 x.fi.fb):=(cell_of_row _ _ _ _ _ _ HP1.out).trans rfl;have x1_0_5:w1.cell? ⟨w.heap.size,5,none⟩=some (.int .i64 x.fi.fk):=(cell_of_row _ _ _ _ _ _ HP1.out).trans rfl;have x1_0_6:w1.cell? ⟨w.heap.size,6,none⟩=some (.string x.fi.fd):=(cell_of_row _ _ _ _ _ _ HP1.out).trans rfl;have x1_0_7:w1.cell? ⟨w.heap.size,7,none⟩=some (.string x.fi.fa):=(cell_of_row _ _ _ _ _ _ HP1.out).trans rfl;have x1_0_8:w1.cell? ⟨w.heap.size,8,none⟩=some (.slice a8 x.fi.fc.length c8):=(cell_of_row _ _ _ _ _ _ HP1.out).trans rfl;have x1_2_0:w1.cell? ⟨w.heap.size+2,0,none⟩=some (.int .i64 0):=(cell_of_row _ _ _ _ _ _ HK1.out).trans rfl;have z1_2_0:w1.frozen? ⟨w.heap.size+2,0,none⟩=false:=frozen_of_row _ _ _ _ _ HK1.out;have x1_2_1:w1.cell? ⟨w.heap.size+2,1,none⟩=some (.string ⟨#[]⟩):=(cell_of_row _ _ _ _ _ _ HK1.out).trans rfl;have z1_2_1:w1.frozen? ⟨w.heap.size+2,1,none⟩=false:=frozen_of_row _ _ _ _ _ HK1.out;have x1_2_2:w1.cell? ⟨w.heap.size+2,2,none⟩=some (.int .i64 0):=(cell_of_row _ _ _ _ _ _ HK1.out).trans rfl;have z1_2_2:w1.frozen? ⟨w.heap.size+2,2,none⟩=false:=frozen_of_row _ _ _ _ _ HK1.out;have x1_2_3:w1.cell? ⟨w.heap.size+2,3,none⟩=some (.int .i64 0):=(cell_of_row _ _ _ _ _ _ HK1.out).trans rfl;have z1_2_3:w1.frozen? ⟨w.heap.size+2,3,none⟩=false:=frozen_of_row _ _ _ _ _ HK1.out;have x1_2_4:w1.cell? ⟨w.heap.size+2,4,none⟩=some (.int .i64 0):=(cell_of_row _ _ _ _ _ _ HK1.out).trans rfl;have z1_2_4:w1.frozen? ⟨w.heap.size+2,4,none⟩=false:=frozen_of_row _ _ _ _ _ HK1.out;have x1_2_5:w1.cell? ⟨w.heap.size+2,5,none⟩=some (.int .i64 0):=(cell_of_row _ _ _ _ _ _ HK1.out).trans rfl;have z1_2_5:w1.frozen? ⟨w.heap.size+2,5,none⟩=false:=frozen_of_row _ _ _ _ _ HK1.out;have x1_2_6:w1.cell? ⟨w.heap.size+2,6,none⟩=some (.string ⟨#[]⟩):=(cell_of_row _ _ _ _ _ _ HK1.out).trans rfl
 have z1_2_6:w1.frozen? ⟨w.heap.size+2,6,none⟩=false:=frozen_of_row _ _ _ _ _ HK1.out;have x1_2_7:w1.cell? ⟨w.heap.size+2,7,none⟩=some (.string ⟨#[]⟩):=(cell_of_row _ _ _ _ _ _ HK1.out).trans rfl;have z1_2_7:w1.frozen? ⟨w.heap.size+2,7,none⟩=false:=frozen_of_row _ _ _ _ _ HK1.out;have x1_2_8:w1.cell? ⟨w.heap.size+2,8,none⟩=some (.slice none 0 0):=(cell_of_row _ _ _ _ _ _ HK1.out).trans rfl;have z1_2_8:w1.frozen? ⟨w.heap.size+2,8,none⟩=false:=frozen_of_row _ _ _ _ _ HK1.out;have HB1:=yq hbw1;have HSZ1:=yq hsz1;have HLO1:=yq hlo1;clear hb1 hbw1 hsz1 hlo1;(go_wp2_with fail)
 refine (HT1.out _ (Nat.le_trans hhi (Below.size ((by repeat (first|(with_reducible exact HB1.out)|(with_reducible exact Below.refl _ _)|(refine Below.setCell ?_ ye _)|(refine Below.alloc ?_ ye _)):Below w.heap.size w _)))) (HS8.out.later ((by repeat (first|(with_reducible exact HB1.out)|(with_reducible exact Below.refl _ _)|(refine Below.setCell ?_ ye _)|(refine Below.alloc ?_ ye _)):Below w.heap.size w _)) hhi)).mono ?_
 rintro e w2 ⟨a8r,c8r,rfl,ho2,hb2⟩
 have hsz2:w.heap.size+2 < w2.heap.size:=Nat.lt_of_lt_of_le (by have h:=HSZ1.out;first|(with_reducible exact h)|(simp;done)|(simp;omega)|(simp [World.setCell];omega)) hb2.size
 have hlo2:w1.heap.size≤w2.heap.size:=Nat.le_trans yk hb2.size
 have hbw2:Below w.heap.size w w2:=Below.trans ((by repeat (first|(with_reducible exact HB1.out)|(with_reducible exact Below.refl _ _)|(refine Below.setCell ?_ ye _)|(refine Below.alloc ?_ ye _)):Below w.heap.size w _)) (hb2.mono (Below.size ((by repeat (first|(with_reducible exact HB1.out)|(with_reducible exact Below.refl _ _)|(refine Below.setCell ?_ ye _)|(refine Below.alloc ?_ ye _)):Below w.heap.size w _))))
 have HO2_2:=yq (ho2.sub (F':=fun y=>w1.heap.size≤y∧y < w2.heap.size) (fun y hy=>⟨Nat.le_trans yj hy.1,hy.2⟩))
 clear ho2
 have HP2:=yq (show w2.heap[w.heap.size]? = some (.cells #[.int .i64 x.fAt.fb,.string x.fAt.fa,.int .i64 x.fi.fh,.int .i64 x.fi.fN,.int .i64 x.fi.fb,.int .i64 x.fi.fk,.string x.fi.fd,.string x.fi.fa,.slice a8 x.fi.fc.length c8] 149) from (hb2.block _ (by have h9:=HSZ1.out;first|(simp;done)|(simp;omega)|(simp at h9 ⊢;omega))).trans (by repeat (first|(with_reducible exact HP1.out)|(refine zaj ye ?_))))
 have HG2:=yq (show w2.heap[w.heap.size+1]? = some (.cells #[.int .i64 0,.string ⟨#[]⟩,.int .i64 0,.int .i64 0,.int .i64 0,.int .i64 0,.string ⟨#[]⟩,.string ⟨#[]⟩,.slice none 0 0] 95) from (hb2.block _ (by have h9:=HSZ1.out;first|(simp;done)|(simp;omega)|(simp at h9 ⊢;omega))).trans (by repeat (first|(with_reducible exact HG1.out)|(refine zaj ye ?_))))
 have HK2:=yq (show w2.heap[w.heap.size+2]? = some (.cells #[.int .i64 x.fAt.fb,.string x.fAt.fa,.int .i64 0,.int .i64 0,.int .i64 0,.int .i64 0,.string ⟨#[]⟩,.string ⟨#[]⟩,.slice none 0 0] 95) from (hb2.block _ (by have h9:=HSZ1.out;first|(simp;done)|(simp;omega)|(simp at h9 ⊢;omega))).trans (by refine Eq.trans (zm (cs:=#[.int .i64 x.fAt.fb,.string ⟨#[]⟩,.int .i64 0,.int .i64 0,.int .i64 0,.int .i64 0,.string ⟨#[]⟩,.string ⟨#[]⟩,.slice none 0 0]) (t:=95) (fr:=(0,0)) ?_) rfl;refine Eq.trans (zm (cs:=#[.int .i64 0,.string ⟨#[]⟩,.int .i64 0,.int .i64 0,.int .i64 0,.int .i64 0,.string ⟨#[]⟩,.string ⟨#[]⟩,.slice none 0 0]) (t:=95) (fr:=(0,0)) ?_) rfl;exact HK1.out))
 clear HP1 HG1 HK1;have x2_2_0:w2.cell? ⟨w.heap.size+2,0,none⟩=some (.int .i64 x.fAt.fb):=(cell_of_row _ _ _ _ _ _ HK2.out).trans rfl;have z2_2_0:w2.frozen? ⟨w.heap.size+2,0,none⟩=false:=frozen_of_row _ _ _ _ _ HK2.out;have x2_2_1:w2.cell? ⟨w.heap.size+2,1,none⟩=some (.string x.fAt.fa):=(cell_of_row _ _ _ _ _ _ HK2.out).trans rfl;have z2_2_1:w2.frozen? ⟨w.heap.size+2,1,none⟩=false:=frozen_of_row _ _ _ _ _ HK2.out;have x2_2_2:w2.cell? ⟨w.heap.size+2,2,none⟩=some (.int .i64 0):=(cell_of_row _ _ _ _ _ _ HK2.out).trans rfl;have z2_2_2:w2.frozen? ⟨w.heap.size+2,2,none⟩=false:=frozen_of_row _ _ _ _ _ HK2.out;have x2_2_3:w2.cell? ⟨w.heap.size+2,3,none⟩=some (.int .i64 0):=(cell_of_row _ _ _ _ _ _ HK2.out).trans rfl;have z2_2_3:w2.frozen? ⟨w.heap.size+2,3,none⟩=false:=frozen_of_row _ _ _ _ _ HK2.out;have x2_2_4:w2.cell? ⟨w.heap.size+2,4,none⟩=some (.int .i64 0):=(cell_of_row _ _ _ _ _ _ HK2.out).trans rfl;have z2_2_4:w2.frozen? ⟨w.heap.size+2,4,none⟩=false:=frozen_of_row _ _ _ _ _ HK2.out;have x2_2_5:w2.cell? ⟨w.heap.size+2,5,none⟩=some (.int .i64 0):=(cell_of_row _ _ _ _ _ _ HK2.out).trans rfl;have z2_2_5:w2.frozen? ⟨w.heap.size+2,5,none⟩=false:=frozen_of_row _ _ _ _ _ HK2.out;have x2_2_6:w2.cell? ⟨w.heap.size+2,6,none⟩=some (.string ⟨#[]⟩):=(cell_of_row _ _ _ _ _ _ HK2.out).trans rfl;have z2_2_6:w2.frozen? ⟨w.heap.size+2,6,none⟩=false:=frozen_of_row _ _ _ _ _ HK2.out;have x2_2_7:w2.cell? ⟨w.heap.size+2,7,none⟩=some (.string ⟨#[]⟩):=(cell_of_row _ _ _ _ _ _ HK2.out).trans rfl;have z2_2_7:w2.frozen? ⟨w.heap.size+2,7,none⟩=false:=frozen_of_row _ _ _ _ _ HK2.out;have x2_2_8:w2.cell? ⟨w.heap.size+2,8,none⟩=some (.slice none 0 0):=(cell_of_row _ _ _ _ _ _ HK2.out).trans rfl;have z2_2_8:w2.frozen? ⟨w.heap.size+2,8,none⟩=false:=frozen_of_row _ _ _ _ _ HK2.out;have x2_1_0:w2.cell? ⟨w.heap.size+1,0,none⟩=some (.int .i64 0):=(cell_of_row _ _ _ _ _ _ HG2.out).trans rfl;have z2_1_0:w2.frozen? ⟨w.heap.size+1,0,none⟩=false:=frozen_of_row _ _ _ _ _ HG2.out;have x2_1_1:w2.cell? ⟨w.heap.size+1,1,none⟩=some (.string ⟨#[]⟩):=(cell_of_row _ _ _ _ _ _ HG2.out).trans rfl
 have z2_1_1:w2.frozen? ⟨w.heap.size+1,1,none⟩=false:=frozen_of_row _ _ _ _ _ HG2.out;have x2_1_2:w2.cell? ⟨w.heap.size+1,2,none⟩=some (.int .i64 0):=(cell_of_row _ _ _ _ _ _ HG2.out).trans rfl;have z2_1_2:w2.frozen? ⟨w.heap.size+1,2,none⟩=false:=frozen_of_row _ _ _ _ _ HG2.out;have x2_1_3:w2.cell? ⟨w.heap.size+1,3,none⟩=some (.int .i64 0):=(cell_of_row _ _ _ _ _ _ HG2.out).trans rfl;have z2_1_3:w2.frozen? ⟨w.heap.size+1,3,none⟩=false:=frozen_of_row _ _ _ _ _ HG2.out;have x2_1_4:w2.cell? ⟨w.heap.size+1,4,none⟩=some (.int .i64 0):=(cell_of_row _ _ _ _ _ _ HG2.out).trans rfl;have z2_1_4:w2.frozen? ⟨w.heap.size+1,4,none⟩=false:=frozen_of_row _ _ _ _ _ HG2.out;have x2_1_5:w2.cell? ⟨w.heap.size+1,5,none⟩=some (.int .i64 0):=(cell_of_row _ _ _ _ _ _ HG2.out).trans rfl;have z2_1_5:w2.frozen? ⟨w.heap.size+1,5,none⟩=false:=frozen_of_row _ _ _ _ _ HG2.out;have x2_1_6:w2.cell? ⟨w.heap.size+1,6,none⟩=some (.string ⟨#[]⟩):=(cell_of_row _ _ _ _ _ _ HG2.out).trans rfl;have z2_1_6:w2.frozen? ⟨w.heap.size+1,6,none⟩=false:=frozen_of_row _ _ _ _ _ HG2.out;have x2_1_7:w2.cell? ⟨w.heap.size+1,7,none⟩=some (.string ⟨#[]⟩):=(cell_of_row _ _ _ _ _ _ HG2.out).trans rfl;have z2_1_7:w2.frozen? ⟨w.heap.size+1,7,none⟩=false:=frozen_of_row _ _ _ _ _ HG2.out;have x2_1_8:w2.cell? ⟨w.heap.size+1,8,none⟩=some (.slice none 0 0):=(cell_of_row _ _ _ _ _ _ HG2.out).trans rfl;have z2_1_8:w2.frozen? ⟨w.heap.size+1,8,none⟩=false:=frozen_of_row _ _ _ _ _ HG2.out;have HB2:=yq hbw2;have HSZ2:=yq hsz2;have HLO2:=yq hlo2;clear hb2 hbw2 hsz2 hlo2;clear x1_0_2 x1_0_3 x1_0_4 x1_0_5 x1_0_6 x1_0_7 x1_0_8 x1_2_0 x1_2_1 x1_2_2 x1_2_3 x1_2_4 x1_2_5 x1_2_6 x1_2_7 x1_2_8 z1_2_0 z1_2_1 z1_2_2 z1_2_3 z1_2_4 z1_2_5 z1_2_6 z1_2_7 z1_2_8;go_wp2
 refine bodyPost_ret (v:=.agg #[.int .i64 x.fAt.fb,.string x.fAt.fa,.int .i64 x.fi.fh,.int .i64 x.fi.fN,.int .i64 x.fi.fb,.int .i64 x.fi.fk,.string x.fi.fd,.string x.fi.fa,.slice a8r x.fi.fc.length c8r]) (results_cell_row Tryz.results110 _ _ (w.heap.size+1) 95 #[.int .i64 x.fAt.fb,.string x.fAt.fa,.int .i64 x.fi.fh,.int .i64 x.fi.fN,.int .i64 x.fi.fb,.int .i64 x.fi.fk,.string x.fi.fd,.string x.fi.fa,.slice a8r x.fi.fc.length c8r] (0,0) _ rfl (by refine Eq.trans (zm (cs:=#[.int .i64 x.fAt.fb,.string x.fAt.fa,.int .i64 x.fi.fh,.int .i64 x.fi.fN,.int .i64 x.fi.fb,.int .i64 x.fi.fk,.string x.fi.fd,.string x.fi.fa,.slice none 0 0]) (t:=95) (fr:=(0,0)) ?_) rfl;refine Eq.trans (zm (cs:=#[.int .i64 x.fAt.fb,.string x.fAt.fa,.int .i64 x.fi.fh,.int .i64 x.fi.fN,.int .i64 x.fi.fb,.int .i64 x.fi.fk,.string x.fi.fd,.string ⟨#[]⟩,.slice none 0 0]) (t:=95) (fr:=(0,0)) ?_) rfl;refine Eq.trans (zm (cs:=#[.int .i64 x.fAt.fb,.string x.fAt.fa,.int .i64 x.fi.fh,.int .i64 x.fi.fN,.int .i64 x.fi.fb,.int .i64 x.fi.fk,.string ⟨#[]⟩,.string ⟨#[]⟩,.slice none 0 0]) (t:=95) (fr:=(0,0)) ?_) rfl;refine Eq.trans (zm (cs:=#[.int .i64 x.fAt.fb,.string x.fAt.fa,.int .i64 x.fi.fh,.int .i64 x.fi.fN,.int .i64 x.fi.fb,.int .i64 0,.string ⟨#[]⟩,.string ⟨#[]⟩,.slice none 0 0]) (t:=95) (fr:=(0,0)) ?_) rfl;refine Eq.trans (zm (cs:=#[.int .i64 x.fAt.fb,.string x.fAt.fa,.int .i64 x.fi.fh,.int .i64 x.fi.fN,.int .i64 0,.int .i64 0,.string ⟨#[]⟩,.string ⟨#[]⟩,.slice none 0 0]) (t:=95) (fr:=(0,0)) ?_) rfl;refine Eq.trans (zm (cs:=#[.int .i64 x.fAt.fb,.string x.fAt.fa,.int .i64 x.fi.fh,.int .i64 0,.int .i64 0,.int .i64 0,.string ⟨#[]⟩,.string ⟨#[]⟩,.slice none 0 0]) (t:=95) (fr:=(0,0)) ?_) rfl;refine Eq.trans (zm (cs:=#[.int .i64 x.fAt.fb,.string x.fAt.fa,.int .i64 0,.int .i64 0,.int .i64 0,.int .i64 0,.string ⟨#[]⟩,.string ⟨#[]⟩,.slice none 0 0]) (t:=95) (fr:=(0,0)) ?_) rfl;refine Eq.trans (zm (cs:=#[.int .i64 x.fAt.fb,.string ⟨#[]⟩,.int .i64 0,.int .i64 0,.int .i64 0,.int .i64 0,.string ⟨#[]⟩,.string ⟨#[]⟩,.slice none 0 0]) (t:=95) (fr:=(0,0)) ?_) rfl;refine Eq.trans (zm (cs:=#[.int .i64 0,.string ⟨#[]⟩,.int .i64 0,.int .i64 0,.int .i64 0,.int .i64 0,.string ⟨#[]⟩,.string ⟨#[]⟩,.slice none 0 0]) (t:=95) (fr:=(0,0)) ?_) rfl;repeat (first|(with_reducible exact HG2.out)|(refine zaj (by simp) ?_))) Tryz.underlying95 rfl rfl) rfl ⟨a8r,c8r,rfl,?_,(by repeat (first|(with_reducible exact HB2.out)|(with_reducible exact Below.refl _ _)|(refine Below.setCell ?_ ye _)|(refine Below.alloc ?_ ye _)):Below w.heap.size w _)⟩
 have ho2:=HO2_2.out;clear HO2_2;have q1:=HLO1.out;have q2:=HLO2.out;skip
 have hkk : ∀ w9:World,Kept (fun y=>w.heap.size+3≤y) w2 w9→OwnR w9 (fun y=>w.heap.size≤y∧y < w2.heap.size) 9 x.ct (fun j=>[.int .i64 x.fAt.fb,.string x.fAt.fa,.int .i64 x.fi.fh,.int .i64 x.fi.fN,.int .i64 x.fi.fb,.int .i64 x.fi.fk,.string x.fi.fd,.string x.fi.fa,.slice a8r x.fi.fc.length c8r].getD j .nilFunc):=fun w9 hk=>by
  refine OwnR.append (F1:=fun _=>False) (F2:=fun y=>w1.heap.size≤y∧y < w2.heap.size) (m:=2) (n:=7) ?_ ?_ yo ym ym
  ·skip
   refine OwnR.lits (F:=fun _=>False) fun j hj=>?_
   match j,hj with
   | 0,_=>rfl
   | 1,_=>rfl
  ·skip
   refine OwnR.congr (ho2.kept (hk.sub fun y hy=>by have h:=hy.1;omega)) (fun j hj=>?_) (fun j hj=>?_)
   ·match j,hj with
    | 0,_=>rfl
    | 1,_=>rfl
    | 2,_=>rfl
    | 3,_=>rfl
    | 4,_=>rfl
    | 5,_=>rfl
    | 6,_=>rfl
   ·match j,hj with
    | 0,_=>rfl
    | 1,_=>rfl
    | 2,_=>rfl
    | 3,_=>rfl
    | 4,_=>rfl
    | 5,_=>rfl
    | 6,_=>rfl
 refine (hkk _ (by repeat (first|(with_reducible exact Kept.refl)|(refine Kept.put ?_ (by intro h1;dsimp only at h1;omega))))).sub (fun y hy=>⟨hy.1,Nat.lt_of_lt_of_le hy.2 (by simp)⟩)
theorem zoo:(Tryz.prog.info? 95).map (fun i=>(i.zero,i.size,i.bytes))=some (some (.agg #[.int .i64 0,.string ⟨#[]⟩,.int .i64 0,.int .i64 0,.int .i64 0,.int .i64 0,.string ⟨#[]⟩,.string ⟨#[]⟩,.slice none 0 0]),9,112):=by kernel_rfl
theorem ziz {lo hi:Nat} {a:Option Addr} {cap:Nat} (l:List DEquation) (hsz:lsz DEquation.sz l≤1048576) (w:World) (hhi:hi≤w.heap.size) (hs:Sl lo hi w 9 l.length (fun k=>DEquation.ct (l.getD k default)) a) :
  Calls Tryz.prog 74 #[.slice a l.length cap] w fun e w'=>∃ a' cap',e = .returned (.slice a' l.length cap')∧Own w' (fun x=>w.heap.size≤x∧x < w'.heap.size) (.sl 9 l.length (fun k=>DEquation.ct (l.getD k default))) (.slice a' l.length cap')∧Below w.heap.size w w':=by
 have HS:=yq hs;clear hs;have HW:=yq hsz
 have hn:l.length≤1048576:=by unfold lsz at hsz;omega
 clear hsz;obtain ⟨i0,hi',hz0,hz1,hz2⟩:=info_parts zoo
 go_enter Tryz.func74,Tryz.ntmps74
 go_wp2_with (at_make;refine wpList_make_full _ rfl (.tmp 6) (.tmp 6) 47 rfl w.heap.size 95 i0 (.agg #[.int .i64 0,.string ⟨#[]⟩,.int .i64 0,.int .i64 0,.int .i64 0,.int .i64 0,.string ⟨#[]⟩,.string ⟨#[]⟩,.slice none 0 0]) 9 Tryz.underlying47 hi' hz0 hz1 .i64 .i64 (l.length:Int) (l.length:Int) l.length rfl rfl rfl rfl (by rw [hz2];omega) yl (Nat.le_refl _) ?_;intro w1 hown hgrow)
 have hb1:Below w.heap.size w w1:=(Below.refl _ w).grown hgrow (Nat.le_refl _) (fun k hk=>by cases hk)
 clear hgrow;have hblk:=(zak hown).1
 go_loopw [4] (fun i wr=>∃ (k:Nat) (xs:List Value),k≤l.length∧i = .int .i64 (k:Int)∧wr.ownsRow w.heap.size 95 9 (.slice (some ⟨w.heap.size,0,none⟩) l.length l.length) l.length xs∧za7 w.heap.size wr 9 k (fun k=>DEquation.ct (l.getD k default)) xs∧Below w.heap.size w wr) (fun i _=>l.length - (intOf i).toNat)
 case atStart=>exact ⟨0,_,Nat.zero_le _,rfl,hown,za7.zero hblk,hb1⟩
 case round =>
  clear hown hb1 hblk;obtain ⟨k,xs,hk,rfl,hown,hfill,hb⟩:=hrel;have hblk:=zak hown;have HO:=yq hown;have HF:=yq hfill;have HB:=yq hb;clear hown hfill
  by_cases hlt:k < l.length
  ·have hhr:hi≤wr.heap.size:=Nat.le_trans hhi hb.size
   obtain ⟨b,off,rfl,hlo,hhi',hc⟩:=(HS.out.later (hb.mono hhi) (Nat.le_refl _)).at k hlt;obtain ⟨a8,c8,hc0_,hc1_,hc2_,hc3_,hc4_,hc5_,hc6_,hc7_,hc8_,hs8⟩:=DEquation.open hc
   have hkn:k * 9+9≤l.length * 9:=by omega
   have d0:=hblk.2.2.1 (k * 9) (by omega)
   have z0:=hblk.2.2.2 (k * 9)
   have d1:=hblk.2.2.1 (k * 9+1) (by omega)
   have z1:=hblk.2.2.2 (k * 9+1)
   have d2:=hblk.2.2.1 (k * 9+2) (by omega)
   have z2:=hblk.2.2.2 (k * 9+2)
   have d3:=hblk.2.2.1 (k * 9+3) (by omega)
   have z3:=hblk.2.2.2 (k * 9+3)
   have d4:=hblk.2.2.1 (k * 9+4) (by omega)
   have z4:=hblk.2.2.2 (k * 9+4)
   have d5:=hblk.2.2.1 (k * 9+5) (by omega)
   have z5:=hblk.2.2.2 (k * 9+5)
   have d6:=hblk.2.2.1 (k * 9+6) (by omega)
   have z6:=hblk.2.2.2 (k * 9+6)
   have d7:=hblk.2.2.1 (k * 9+7) (by omega)
   have z7:=hblk.2.2.2 (k * 9+7)
   have d8:=hblk.2.2.1 (k * 9+8) (by omega)
   have z8:=hblk.2.2.2 (k * 9+8);have hsz:=hblk.1;clear hblk hb hc;have hxs:=zab (f:=DEquation.sz) l k hlt;generalize hx:l.getD k default=x at *;have HX:=yq hx;clear hx;generalize xs.getD (k * 9) Value.nilFunc=v0 at d0;generalize xs.getD (k * 9+1) Value.nilFunc=v1 at d1;generalize xs.getD (k * 9+2) Value.nilFunc=v2 at d2;generalize xs.getD (k * 9+3) Value.nilFunc=v3 at d3;generalize xs.getD (k * 9+4) Value.nilFunc=v4 at d4;generalize xs.getD (k * 9+5) Value.nilFunc=v5 at d5;generalize xs.getD (k * 9+6) Value.nilFunc=v6 at d6;generalize xs.getD (k * 9+7) Value.nilFunc=v7 at d7;generalize xs.getD (k * 9+8) Value.nilFunc=v8 at d8
   have HT:=yq (zkv (c8:=c8) x (by have h1:=HW.out;omega) wr hhr hs8)
   clear hxs hs8;(go_wp2_with fail);refine HT.out.mono ?_;rintro e w1 ⟨a8r,c8r,rfl,ho1,hb1⟩;have HOR:=yq ho1;clear ho1;have e0:=(hb1.cell (p:=⟨w.heap.size,k * 9,none⟩) hsz).trans d0;have y0:=(hb1.frozen (p:=⟨w.heap.size,k * 9,none⟩) hsz).trans z0;have e1:=(hb1.cell (p:=⟨w.heap.size,k * 9+1,none⟩) hsz).trans d1;have y1:=(hb1.frozen (p:=⟨w.heap.size,k * 9+1,none⟩) hsz).trans z1;have e2:=(hb1.cell (p:=⟨w.heap.size,k * 9+2,none⟩) hsz).trans d2;have y2:=(hb1.frozen (p:=⟨w.heap.size,k * 9+2,none⟩) hsz).trans z2;have e3:=(hb1.cell (p:=⟨w.heap.size,k * 9+3,none⟩) hsz).trans d3;have y3:=(hb1.frozen (p:=⟨w.heap.size,k * 9+3,none⟩) hsz).trans z3;have e4:=(hb1.cell (p:=⟨w.heap.size,k * 9+4,none⟩) hsz).trans d4;have y4:=(hb1.frozen (p:=⟨w.heap.size,k * 9+4,none⟩) hsz).trans z4;have e5:=(hb1.cell (p:=⟨w.heap.size,k * 9+5,none⟩) hsz).trans d5;have y5:=(hb1.frozen (p:=⟨w.heap.size,k * 9+5,none⟩) hsz).trans z5;have e6:=(hb1.cell (p:=⟨w.heap.size,k * 9+6,none⟩) hsz).trans d6;have y6:=(hb1.frozen (p:=⟨w.heap.size,k * 9+6,none⟩) hsz).trans z6;have e7:=(hb1.cell (p:=⟨w.heap.size,k * 9+7,none⟩) hsz).trans d7;have y7:=(hb1.frozen (p:=⟨w.heap.size,k * 9+7,none⟩) hsz).trans z7;have e8:=(hb1.cell (p:=⟨w.heap.size,k * 9+8,none⟩) hsz).trans d8;have y8:=(hb1.frozen (p:=⟨w.heap.size,k * 9+8,none⟩) hsz).trans z8;have HB1:=yq hb1;clear hb1 d0 z0 d1 z1 d2 z2 d3 z3 d4 z4 d5 z5 d6 z6 d7 z7 d8 z8;go_wp2;go_roundw
   case rel =>
    have hst:=HF.out.stored HB1.out hsz (zl HO.out HB1.out) hlt [.int .i64 x.fAt.fb,.string x.fAt.fa,.int .i64 x.fi.fh,.int .i64 x.fi.fN,.int .i64 x.fi.fb,.int .i64 x.fi.fk,.string x.fi.fd,.string x.fi.fa,.slice a8r x.fi.fc.length c8r] rfl ((by rw [HX.out];exact HOR.out))
    exact ⟨k+1,_,by omega,by go_num,hst.1,hst.2,za8 (Nat.le_refl _) [_,_,_,_,_,_,_,_,_] _ (HB.out.trans (HB1.out.mono HB.out.size))⟩
   case measure=>simp [intOf];omega
  ·obtain rfl:k=l.length:=by omega
   go_wp2;go_ret;exact ⟨_,_,rfl,HF.out.own hblk.1 hblk.2.2.1 hblk.2.2.2,hb⟩
theorem zj9 {lo hi lo2 hi2:Nat} {a8:Option Addr} {c8:Nat} {a8q:Option Addr} {c8q:Nat} (x:DEquation) (hsz:x.sz≤1048576) (w:World) (hhi:hi≤w.heap.size) (hhi2:hi2≤w.heap.size) (hs8:Sl lo hi w 7 x.fi.fc.length (ctE x.fi.fc) a8) (hs8q:Sl lo2 hi2 w 7 x.fi.fc.length (ctE x.fi.fc) a8q) :
  Calls Tryz.prog 132 #[.agg #[.int .i64 x.fAt.fb,.string x.fAt.fa,.int .i64 x.fi.fh,.int .i64 x.fi.fN,.int .i64 x.fi.fb,.int .i64 x.fi.fk,.string x.fi.fd,.string x.fi.fa,.slice a8 x.fi.fc.length c8],.agg #[.int .i64 x.fAt.fb,.string x.fAt.fa,.int .i64 x.fi.fh,.int .i64 x.fi.fN,.int .i64 x.fi.fb,.int .i64 x.fi.fk,.string x.fi.fd,.string x.fi.fa,.slice a8q x.fi.fc.length c8q]] w fun e w'=>e = .returned (.bool true)∧Below w.heap.size w w':=by
 have HS8:=yq hs8;have HS8q:=yq hs8q;clear hs8 hs8q;have HW:=yq hsz;clear hsz;have HB0:=yq (((Below.refl w.heap.size w).alloc (Nat.le_refl _) (.cells #[.int .i64 x.fAt.fb,.string x.fAt.fa,.int .i64 x.fi.fh,.int .i64 x.fi.fN,.int .i64 x.fi.fb,.int .i64 x.fi.fk,.string x.fi.fd,.string x.fi.fa,.slice a8 x.fi.fc.length c8] 95)).alloc ye (.cells #[.int .i64 x.fAt.fb,.string x.fAt.fa,.int .i64 x.fi.fh,.int .i64 x.fi.fN,.int .i64 x.fi.fb,.int .i64 x.fi.fk,.string x.fi.fd,.string x.fi.fa,.slice a8q x.fi.fc.length c8q] 95))
 have ht0:=fun (w':World)=>zh0 x.fAt w'
 have HT0:=yq ht0;clear ht0
 have ht1:=fun (w':World) (hhi:hi≤w'.heap.size) (hhi2:hi2≤w'.heap.size) (hs8:Sl lo hi w' 7 x.fi.fc.length (ctE x.fi.fc) a8) (hs8q:Sl lo2 hi2 w' 7 x.fi.fc.length (ctE x.fi.fc) a8q)=>zf2 (c6:=c8) (c6q:=c8q) x.fi (by have h:=HW.out;unfold DEquation.sz at h;omega) w' hhi hhi2 hs8 hs8q
 have HT1:=yq ht1;clear ht1
 go_enter Tryz.func132,Tryz.ntmps132
 (go_wp2_with fail);refine (HT0.out _).mono ?_;rintro e w1 ⟨rfl,hb1⟩
 have x1_0_2:w1.cell? ⟨w.heap.size,2,none⟩=some (.int .i64 x.fi.fh):=(hb1.cell (p:=⟨w.heap.size,2,none⟩) yd).trans (by go_simp)
 have x1_0_3:w1.cell? ⟨w.heap.size,3,none⟩=some (.int .i64 x.fi.fN):=(hb1.cell (p:=⟨w.heap.size,3,none⟩) yd).trans (by go_simp)
 have x1_0_4:w1.cell? ⟨w.heap.size,4,none⟩=some (.int .i64 x.fi.fb):=(hb1.cell (p:=⟨w.heap.size,4,none⟩) yd).trans (by go_simp)
 have x1_0_5:w1.cell? ⟨w.heap.size,5,none⟩=some (.int .i64 x.fi.fk):=(hb1.cell (p:=⟨w.heap.size,5,none⟩) yd).trans (by go_simp)
 have x1_0_6:w1.cell? ⟨w.heap.size,6,none⟩=some (.string x.fi.fd):=(hb1.cell (p:=⟨w.heap.size,6,none⟩) yd).trans (by go_simp)
 have x1_0_7:w1.cell? ⟨w.heap.size,7,none⟩=some (.string x.fi.fa):=(hb1.cell (p:=⟨w.heap.size,7,none⟩) yd).trans (by go_simp)
 have x1_0_8:w1.cell? ⟨w.heap.size,8,none⟩=some (.slice a8 x.fi.fc.length c8):=(hb1.cell (p:=⟨w.heap.size,8,none⟩) yd).trans (by go_simp)
 have x1_1_2:w1.cell? ⟨w.heap.size+1,2,none⟩=some (.int .i64 x.fi.fh):=(hb1.cell (p:=⟨w.heap.size+1,2,none⟩) yd).trans (by go_simp)
 have x1_1_3:w1.cell? ⟨w.heap.size+1,3,none⟩=some (.int .i64 x.fi.fN):=(hb1.cell (p:=⟨w.heap.size+1,3,none⟩) yd).trans (by go_simp)
 have x1_1_4:w1.cell? ⟨w.heap.size+1,4,none⟩=some (.int .i64 x.fi.fb):=(hb1.cell (p:=⟨w.heap.size+1,4,none⟩) yd).trans (by go_simp)
 have x1_1_5:w1.cell? ⟨w.heap.size+1,5,none⟩=some (.int .i64 x.fi.fk):=(hb1.cell (p:=⟨w.heap.size+1,5,none⟩) yd).trans (by go_simp)
 have x1_1_6:w1.cell? ⟨w.heap.size+1,6,none⟩=some (.string x.fi.fd):=(hb1.cell (p:=⟨w.heap.size+1,6,none⟩) yd).trans (by go_simp)
 have x1_1_7:w1.cell? ⟨w.heap.size+1,7,none⟩=some (.string x.fi.fa):=(hb1.cell (p:=⟨w.heap.size+1,7,none⟩) yd).trans (by go_simp)
 have x1_1_8:w1.cell? ⟨w.heap.size+1,8,none⟩=some (.slice a8q x.fi.fc.length c8q):=(hb1.cell (p:=⟨w.heap.size+1,8,none⟩) yd).trans (by go_simp)
 have hsz1:w.heap.size+1 < w1.heap.size:=Nat.lt_of_lt_of_le yd hb1.size;have HB1:=yq (HB0.out.trans (hb1.mono HB0.out.size));clear hb1;(go_wp2_with fail);refine (HT1.out _ (Nat.le_trans hhi (HB1.out.size)) (Nat.le_trans hhi2 (HB1.out.size)) (HS8.out.later HB1.out hhi) (HS8q.out.later HB1.out hhi2)).mono ?_;rintro e w2 ⟨rfl,hb2⟩;have HB2:=yq (HB1.out.trans (hb2.mono HB1.out.size));clear hb2;clear x1_0_2 x1_0_3 x1_0_4 x1_0_5 x1_0_6 x1_0_7 x1_0_8 x1_1_2 x1_1_3 x1_1_4 x1_1_5 x1_1_6 x1_1_7 x1_1_8 hsz1;go_wp2;go_ret;exact ⟨rfl,HB2.out⟩
theorem zje {lo hi lo2 hi2:Nat} {a a2:Option Addr} {cap cap2:Nat} (l:List DEquation) (hsz:lsz DEquation.sz l≤1048576) (w:World) (hhi:hi≤w.heap.size) (hhi2:hi2≤w.heap.size) (hs:Sl lo hi w 9 l.length (fun k=>DEquation.ct (l.getD k default)) a) (hs2:Sl lo2 hi2 w 9 l.length (fun k=>DEquation.ct (l.getD k default)) a2) :
  Calls Tryz.prog 96 #[.slice a l.length cap,.slice a2 l.length cap2] w fun e w'=>e = .returned (.bool true)∧Below w.heap.size w w':=by
 have HS:=yq hs;have HS2:=yq hs2;have HW:=yq hsz
 have hn:l.length≤1048576:=by unfold lsz at hsz;omega
 clear hs hs2 hsz
 go_enter Tryz.func96,Tryz.ntmps96
 go_wp2
 go_loopw [5] (fun i wr=>∃ k:Nat,k≤l.length∧i = .int .i64 (k:Int)∧Below w.heap.size w wr) (fun i _=>l.length - (intOf i).toNat)
 case atStart=>exact ⟨0,Nat.zero_le _,rfl,Below.refl _ _⟩
 case round =>
  obtain ⟨k,hk,rfl,hb⟩:=hrel;have HB:=yq hb
  by_cases hlt:k < l.length
  ·have hhr:hi≤wr.heap.size:=Nat.le_trans hhi hb.size
   have hhr2:hi2≤wr.heap.size:=Nat.le_trans hhi2 hb.size;obtain ⟨b,off,rfl,_,hhi',hc⟩:=(HS.out.later (hb.mono hhi) (Nat.le_refl _)).at k hlt;obtain ⟨b2,off2,rfl,_,hhi2',hc2⟩:=(HS2.out.later (hb.mono hhi2) (Nat.le_refl _)).at k hlt;obtain ⟨a8,c8,hc0_,hc1_,hc2_,hc3_,hc4_,hc5_,hc6_,hc7_,hc8_,hs8⟩:=DEquation.open hc;obtain ⟨a8q,c8q,hc0q_,hc1q_,hc2q_,hc3q_,hc4q_,hc5q_,hc6q_,hc7q_,hc8q_,hs8q⟩:=DEquation.open hc2;have hxs:=zab (f:=DEquation.sz) l k hlt;clear hb hc hc2;generalize l.getD k default=x at *
   have HT:=yq (fun (w':World) (hw:Below wr.heap.size wr w')=>zj9 (c8:=c8) (c8q:=c8q) x (by have h1:=HW.out;omega) w' (Nat.le_trans hhr hw.size) (Nat.le_trans hhr2 hw.size) (hs8.later hw hhr) (hs8q.later hw hhr2))
   clear hxs hs8 hs8q;(go_wp2_with fail)
   go_region_with ((go_at_call 132;refine (HT.out _ (by first|exact Below.refl _ _|exact (Below.refl _ _).drew|exact below_drewN (Below.refl _ _) _)).mono ?_;rintro e w1 ⟨rfl,hb1⟩))
   all_goals
    go_wp2;go_roundw
    case rel =>
     refine ⟨k+1,by omega,by go_num,?_⟩
     have hb2:Below wr.heap.size wr w1:=⟨hb1.os,hb1.tape,hb1.output,hb1.size,hb1.block⟩
     repeat (first|exact HB.out.trans (hb2.mono HB.out.size)|apply Below.drew|refine below_drewN ?_ _)
    case measure=>simp [intOf];omega
  ·go_wp2
   go_ret;exact ⟨rfl,HB.out⟩
structure ENode where
 fh:Int
 fN:Int
 fb:Int
 fk:Int
 fd:ByteArray
 fa:ByteArray
 fc:Nat
 fw:Nat
 deriving Inhabited
def ENode.vals (n:ENode):List Value:=[.int .i64 n.fh,.int .i64 n.fN,.int .i64 n.fb,.int .i64 n.fk,.string n.fd,.string n.fa,.int .i64 n.fc,.int .i64 n.fw]
def zf (x:DExpr) (d:Nat):ENode:=⟨x.fh,x.fN,x.fb,x.fk,x.fd,x.fa,x.fc.length,d⟩
mutual
def zu:DExpr→Nat→List ENode
 | ⟨k,n,p,t,s,m,args⟩,d=>⟨k,n,p,t,s,m,args.length,d⟩ :: zca args (d+1)
def zca:List DExpr→Nat→List ENode
 | [],_=>[]
 | e :: es,d=>zu e d ++ zca es d
end
theorem za2 (x:DExpr) (d:Nat):zu x d=zf x d :: zca x.fc (d+1):=by cases x;rfl
def cntX (x:DExpr):Nat:=(zu x 0).length
theorem lenL (P:DExpr→Prop) (hP : ∀ x,P x → ∀ d,(zu x d).length=cntX x) (d:Nat) : ∀ l:List DExpr,(∀ a ∈ l,P a)→(zca l d).length=(l.map cntX).sum
 | [],_=>rfl
 | e :: es,h=>by
  show (zu e d ++ zca es d).length=_
  rw [List.length_append,hP e (h e (List.mem_cons_self ..)),lenL P hP d es fun a ha=>h a (List.mem_cons_of_mem _ ha),List.map_cons,List.sum_cons]
theorem zcg : ∀ (x:DExpr) (d:Nat),(zu x d).length=cntX x:=by
 intro x
 refine DExpr.ind (P:=fun x=>∀ d,(zu x d).length=cntX x) (fun x ih d=>?_) x
 unfold cntX
 rw [za2,za2,List.length_cons,List.length_cons,lenL (fun a=>∀ d,(zu a d).length=cntX a) (fun _ h=>h) _ _ ih,lenL (fun a=>∀ d,(zu a d).length=cntX a) (fun _ h=>h) _ _ ih]
theorem ztb (l:List DExpr) (d:Nat):(zca l d).length=(l.map cntX).sum:=lenL (fun _=>True) (fun x _=>zcg x) d l fun _ _=>trivial
theorem zf9 (x:DExpr):cntX x=(x.fc.map cntX).sum+1:=by
 unfold cntX
 rw [za2,List.length_cons,ztb]
 rfl
theorem zsj (x:DExpr):1≤cntX x:=by rw [zf9];omega
theorem zwo {α : Type} (f g : α → Nat) : ∀ l:List α,(∀ a ∈ l,f a≤g a+1)→(l.map f).sum≤l.length+(l.map g).sum
 | [],_=>Nat.le_refl _
 | a :: l,h=>by
  have h1:=h a (List.mem_cons_self ..)
  have h2:=zwo f g l fun b hb=>h b (List.mem_cons_of_mem _ hb)
  rw [List.map_cons,List.map_cons,List.sum_cons,List.sum_cons,List.length_cons]
  omega
theorem zey : ∀ x:DExpr,cntX x≤x.sz+1:=DExpr.ind fun x ih=>by
 rw [zf9,DExpr.sz_eq]
 have:=zwo cntX DExpr.sz x.fc ih
 unfold lsz
 omega
structure Stp where
 b:Nat
 off:Nat
 x:DExpr
 d:Nat
 leaving:Bool
def Stp.vals (s:Stp):List Value:=[.pointer (some ⟨s.b,s.off,none⟩),.int .i64 s.d,.bool s.leaving]
def Stp.nodes (s:Stp):List ENode:=if s.leaving then [] else zu s.x s.d
def Stp.work (s:Stp):Nat:=if s.leaving then 1 else 2 * cntX s.x
def zcb (T:List Stp):Nat:=(T.map Stp.work).sum
def zbf (T:List Stp):List ENode:=T.flatMap Stp.nodes
def zbb (T:List Stp):List (Nat × Nat):=(T.reverse.filter Stp.leaving).map fun s=>(s.b,s.off)
def zb3 (b off:Nat) (d:Nat):Nat→List DExpr→List Stp
 | _,[]=>[]
 | i,e :: es=>⟨b,off+i * 7,e,d,false⟩ :: zb3 b off d (i+1) es
theorem zck (b off d:Nat) : ∀ (l:List DExpr) (i:Nat),(zb3 b off d i l).length=l.length
 | [],_=>rfl
 | e :: es,i=>by unfold zb3;rw [List.length_cons,zck b off d es,List.length_cons]
theorem zit (b off d:Nat) : ∀ (l:List DExpr) (i:Nat),zbf (zb3 b off d i l)=zca l d
 | [],_=>rfl
 | e :: es,i=>by
  show (Stp.nodes _ ++ zbf (zb3 b off d (i+1) es))=_
  rw [zit b off d es];rfl
theorem zj6 (b off d:Nat) : ∀ (l:List DExpr) (i:Nat),zcb (zb3 b off d i l)=2 * (l.map cntX).sum
 | [],_=>rfl
 | e :: es,i=>by
  have h:=zj6 b off d es (i+1)
  unfold zcb at h ⊢
  unfold zb3
  rw [List.map_cons,List.sum_cons,h,List.map_cons,List.sum_cons,Nat.mul_add]
  rfl
theorem zkd (b off d:Nat) : ∀ (l:List DExpr) (i k:Nat),k < l.length→(zb3 b off d i l)[k]? = some ⟨b,off+(i+k) * 7,l.getD k default,d,false⟩
 | [],_,_,h=>absurd h (Nat.not_lt_zero _)
 | e :: es,i,0,_=>rfl
 | e :: es,i,k+1,h=>by
  unfold zb3
  rw [List.getElem?_cons_succ,zkd b off d es (i+1) k (Nat.lt_of_succ_lt_succ h),show i+1+k=i+(k+1) by omega]
  rfl
theorem ze9 {b off d:Nat} {l:List DExpr} {i:Nat} {s:Stp} (h:s ∈ zb3 b off d i l) : ∃ k,k < l.length∧s=⟨b,off+(i+k) * 7,l.getD k default,d,false⟩:=by
 obtain ⟨k,hk,hs⟩:=List.getElem_of_mem h;rw [zck] at hk;have h2:=zkd b off d l i k hk
 rw [List.getElem?_eq_getElem (by rw [zck];exact hk),hs] at h2
 exact ⟨k,hk,Option.some.inj h2⟩
theorem zed (s:Stp) (T:List Stp):zcb (s :: T)=s.work+zcb T:=by unfold zcb;rw [List.map_cons,List.sum_cons]
theorem zoi (S T:List Stp):zcb (S ++ T)=zcb S+zcb T:=by unfold zcb;rw [List.map_append,List.sum_append]
theorem zls (S T:List Stp):zbf (S ++ T)=zbf S ++ zbf T:=by unfold zbf;rw [List.flatMap_append]
theorem zbl (s:Stp) (T:List Stp):zbb (s :: T)=if s.leaving then zbb T ++ [(s.b,s.off)] else zbb T:=by
 unfold zbb
 rw [List.reverse_cons,List.filter_append,List.map_append]
 cases h:s.leaving<;>simp [h]
theorem ze7 (b off d:Nat) (T:List Stp) : ∀ (l:List DExpr) (i:Nat),zbb (zb3 b off d i l ++ T)=zbb T
 | [],_=>rfl
 | e :: es,i=>by
  unfold zb3
  rw [List.cons_append,zbl,ze7 b off d T es]
  rfl
theorem zm6 {α : Type} (f : α → Nat) : ∀ {l:List α} {a : α},a ∈ l→f a≤(l.map f).sum
 | b :: l,a,h=>by
  rw [List.map_cons,List.sum_cons]
  rcases List.mem_cons.1 h with rfl|h
  ·omega
  ·have:=zm6 f h
   omega
theorem znj {x a:DExpr} (h:a ∈ x.fc):cntX a < cntX x:=by
 rw [zf9 x]
 have:=zm6 cntX h
 omega
end Go.Proofs.YtmbaajangkmjdaaGreat
