/-
  The type Attribute of the laws: its data, and the contracts of the laws' own helpers on it.
  The type Symbol of the laws: its data, and the contracts of the laws' own helpers on it.
  The type Grammar of the laws: its data, and the contracts of the laws' own helpers on it.
  firstFailure of the program: the first check that fails, and where. Each check may rely on those before it.
  CheckShape of the program, by what its checks say.
  The checks of CheckShape in the program: the size, a symbol's mode.
  The checks of CheckShape in the program: a symbol with an attribute of a mode.
  The cells of a rule that is not frozen.
  What the laws make of a grammar: its lists fill their slices.
-/
import Derived.Test.YtmbaajangkmjdaaGreatZz4
set_option maxHeartbeats 6400000
set_option maxRecDepth 100000
namespace Go.Proofs.YtmbaajangkmjdaaGreat
open Go.ChangeShapes Go.WideShapes Go.ChangeAt Go.RowKit Go.Deep
structure DAttribute where
 fa:ByteArray
 fk:Int
 fv:Int
 fx:Bool
 deriving Inhabited
def DAttribute.ct (x:DAttribute):Nat→Ct
 | 0=>.lit (.string x.fa)
 | 1=>.lit (.int .i64 x.fk)
 | 2=>.lit (.int .i64 x.fv)
 | 3=>.lit (.bool x.fx)
 | _=>.lit .nilFunc
def DAttribute.ok (x:DAttribute):Prop:=okS x.fa∧okI x.fk∧okI x.fv∧okB x.fx
def DAttribute.sz (x:DAttribute):Nat:=x.fa.size
theorem DAttribute.open {lo hi b o:Nat} {w:World} {x:DAttribute} (h : ∀ j,j < 4 → ∃ u,w.cell? ⟨b,o+j,none⟩=some u∧Lies lo hi w (x.ct j) u) :
  w.cell? ⟨b,o,none⟩=some (.string x.fa)∧w.cell? ⟨b,o+1,none⟩=some (.int .i64 x.fk)∧w.cell? ⟨b,o+2,none⟩=some (.int .i64 x.fv)∧w.cell? ⟨b,o+3,none⟩=some (.bool x.fx):=by
 obtain ⟨u0,hc0,hl0⟩:=h 0 (by decide)
 obtain rfl:=zr hl0
 obtain ⟨u1,hc1,hl1⟩:=h 1 (by decide)
 obtain rfl:=zr hl1
 obtain ⟨u2,hc2,hl2⟩:=h 2 (by decide)
 obtain rfl:=zr hl2
 obtain ⟨u3,hc3,hl3⟩:=h 3 (by decide)
 obtain rfl:=zr hl3;exact ⟨hc0,hc1,hc2,hc3⟩
theorem zlv {H:Type} {enc:TypeId × Value→H} {w:World} (fuel:Nat):zg1 enc Tryz.prog w 142 4 DAttribute.ct DAttribute.ok fuel:=by
 intro cs x h;have hl:=zct Tryz.underlying142 h
 obtain ⟨y0,k0,q0⟩:=zq Tryz.underlying142 h 0 _ rfl (ft:=9) (o:=0) (n:=1) rfl rfl (fun m _=>za1 Tryz.underlying9 m) (by kernel_rfl)
 obtain ⟨y1,k1,q1⟩:=zq Tryz.underlying142 h 1 _ rfl (ft:=3) (o:=1) (n:=1) rfl rfl (fun m _=>zc9 Tryz.underlying3 m) (by kernel_rfl)
 obtain ⟨y2,k2,q2⟩:=zq Tryz.underlying142 h 2 _ rfl (ft:=3) (o:=2) (n:=1) rfl rfl (fun m _=>zc9 Tryz.underlying3 m) (by kernel_rfl)
 obtain ⟨y3,k3,q3⟩:=zq Tryz.underlying142 h 3 _ rfl (ft:=4) (o:=3) (n:=1) rfl rfl (fun m _=>zna Tryz.underlying4 m) (by kernel_rfl)
 refine ⟨⟨y0,y1,y2,y3⟩,⟨k0,k1,k2,k3⟩,hl.trans (by kernel_rfl),fun j hj=>?_⟩
 match j,hj with
 | 0,_=>exact q0 0 (by decide)
 | 1,_=>exact q1 0 (by decide)
 | 2,_=>exact q2 0 (by decide)
 | 3,_=>exact q3 0 (by decide)
theorem zjk (x:DAttribute) (L:Int) (hL0:0≤L) (hL1:L≤1048576) (hx:x.ok) (w:World) :
  Calls Tryz.prog 98 #[.agg #[.string x.fa,.int .i64 x.fk,.int .i64 x.fv,.bool x.fx],.int .i64 L] w fun e w'=>e = .returned (.int .i64 (szR L x.sz))∧Below w.heap.size w w':=by
 have HX:=yq hx;clear hx;have okName:x.fa.size≤9223372036854775807:=HX.out.1;have HB0:=yq ((Below.refl w.heap.size w).alloc (Nat.le_refl _) (.cells #[.string x.fa,.int .i64 x.fk,.int .i64 x.fv,.bool x.fx] 142))
 by_cases h0:L < ((x.fa.size:Nat):Int)
 ·skip
  have fin:=yq (zae (n:=x.sz) (L:=L) (by unfold DAttribute.sz;omega))
  go_enter Tryz.func98,Tryz.ntmps98
  go_wp2;go_ret
  exact ⟨zan (by rw [fin.out]),HB0.out⟩
 ·skip
  have fin:=yq (zas (n:=x.sz) (L:=L) (by unfold DAttribute.sz;omega))
  go_enter Tryz.func98,Tryz.ntmps98
  go_wp2;go_ret
  exact ⟨zan (by rw [fin.out];unfold DAttribute.sz;omega),HB0.out⟩
theorem zdw {lo hi:Nat} {a:Option Addr} {cap:Nat} (l:List DAttribute) (L:Int) (hL0:0≤L) (hL1:L≤1048576) (hok:okL DAttribute.ok l) (w:World) (hhi:hi≤w.heap.size) (hs:Sl lo hi w 4 l.length (fun k=>DAttribute.ct (l.getD k default)) a) :
  Calls Tryz.prog 58 #[.slice a l.length cap,.int .i64 L] w fun e w'=>e = .returned (.int .i64 (szR L (lsz DAttribute.sz l)))∧Below w.heap.size w w':=by
 have HS:=yq hs;have HK:=yq hok;have hn:l.length≤9223372036854775807:=hok.1;clear hs hok
 by_cases hlong:L < ((l.length:Nat):Int)
 ·have fin:=yq (zae (n:=lsz DAttribute.sz l) (L:=L) (by unfold lsz;omega))
  go_enter Tryz.func58,Tryz.ntmps58
  go_wp2;go_ret;exact ⟨zan fin.out.symm,Below.refl _ _⟩
 ·go_enter Tryz.func58,Tryz.ntmps58
  go_wp2
  go_loopw [1,5] (fun q i wr=>∃ k:Nat,k≤l.length∧i = .int .i64 (k:Int)∧q = .int .i64 (L - l.length - psz DAttribute.sz l k)∧(l.length:Int)+psz DAttribute.sz l k≤L∧Below w.heap.size w wr) (fun _ i _=>l.length - (intOf i).toNat)
  case atStart=>exact ⟨0,Nat.zero_le _,rfl,by rw [zba];go_num,by rw [zba];omega,Below.refl _ _⟩
  case round =>
   obtain ⟨k,hk,rfl,rfl,hle,hb⟩:=hrel;have HB:=yq hb
   by_cases hlt:k < l.length
   ·have hsu:=yq (zc0 DAttribute.sz l k hlt)
    have hle2:=yq (zhd DAttribute.sz l (k+1));have hokk:=HK.out.at hlt;have hhr:hi≤wr.heap.size:=Nat.le_trans hhi hb.size;obtain ⟨b,off,rfl,hlo,hhi',hc⟩:=(HS.out.later (hb.mono hhi) (Nat.le_refl _)).at k hlt;clear hb;obtain ⟨hc0_,hc1_,hc2_,hc3_⟩:=DAttribute.open hc;clear hc;generalize l.getD k default=x at *;generalize psz DAttribute.sz l k=S at *
    have hZ:=zjk x (L - l.length - S) (by omega) (by omega) hokk wr
    by_cases hf:((x.sz:Nat):Int)≤L - l.length - S
    ·rw [zas hf] at hZ
     have HZ:=yq hZ;clear hZ hokk;(go_wp2_with fail);refine HZ.out.mono ?_;rintro e w1 ⟨rfl,hb1⟩;have HB1:=yq hb1;clear hb1;go_wp2;go_roundw
     case rel=>exact ⟨k+1,by omega,by go_num,by rw [hsu.out];go_num,by rw [hsu.out];omega,HB.out.trans (HB1.out.mono HB.out.size)⟩
     case measure=>simp [intOf];omega
    ·have fin:=yq (zae (n:=lsz DAttribute.sz l) (L:=L) (by have h1:=hsu.out;have h2:=hle2.out;omega))
     rw [zae (by omega)] at hZ
     have HZ:=yq hZ;clear hZ hokk;(go_wp2_with fail);refine HZ.out.mono ?_;rintro e w1 ⟨rfl,hb1⟩;have HB1:=yq hb1;clear hb1;go_wp2;go_ret;exact ⟨zan fin.out.symm,HB.out.trans (HB1.out.mono HB.out.size)⟩
   ·obtain rfl:k=l.length:=by omega
    have fin:=yq (zas (n:=lsz DAttribute.sz l) (L:=L) (by unfold lsz;rw [zb0] at hle;omega))
    have fin2:=yq (zb0 DAttribute.sz l);go_wp2;go_ret
    exact ⟨zan (by rw [fin.out,fin2.out];unfold lsz;omega),HB.out⟩
theorem zi3 (x:DAttribute) (w:World) :
  Calls Tryz.prog 109 #[.agg #[.string x.fa,.int .i64 x.fk,.int .i64 x.fv,.bool x.fx]] w fun e w'=>e = .returned (.agg #[.string x.fa,.int .i64 x.fk,.int .i64 x.fv,.bool x.fx])∧Below w.heap.size w w':=by
 go_enter Tryz.func109,Tryz.ntmps109
 go_wp2
 exact bodyPost_ret (v:=.agg #[.string x.fa,.int .i64 x.fk,.int .i64 x.fv,.bool x.fx]) (by simp [results,Tryz.results109,go_sem]) rfl ⟨rfl,by
  repeat (first|exact Below.refl _ _|(refine Below.setCell ?_ ye _)|(refine Below.alloc ?_ ye _))⟩
theorem zfz:(Tryz.prog.info? 44).map (fun i=>(i.zero,i.size,i.bytes))=some (some (.agg #[.string ⟨#[]⟩,.int .i64 0,.int .i64 0,.bool false]),4,40):=by kernel_rfl
theorem zh4 {lo hi:Nat} {a:Option Addr} {cap:Nat} (l:List DAttribute) (hsz:lsz DAttribute.sz l≤1048576) (w:World) (hhi:hi≤w.heap.size) (hs:Sl lo hi w 4 l.length (fun k=>DAttribute.ct (l.getD k default)) a) :
  Calls Tryz.prog 72 #[.slice a l.length cap] w fun e w'=>∃ a' cap',e = .returned (.slice a' l.length cap')∧Own w' (fun x=>w.heap.size≤x∧x < w'.heap.size) (.sl 4 l.length (fun k=>DAttribute.ct (l.getD k default))) (.slice a' l.length cap')∧Below w.heap.size w w':=by
 have HS:=yq hs;clear hs;have HW:=yq hsz
 have hn:l.length≤1048576:=by unfold lsz at hsz;omega
 clear hsz;obtain ⟨i0,hi',hz0,hz1,hz2⟩:=info_parts zfz
 go_enter Tryz.func72,Tryz.ntmps72
 go_wp2_with (at_make;refine wpList_make_full _ rfl (.tmp 6) (.tmp 6) 40 rfl w.heap.size 44 i0 (.agg #[.string ⟨#[]⟩,.int .i64 0,.int .i64 0,.bool false]) 4 Tryz.underlying40 hi' hz0 hz1 .i64 .i64 (l.length:Int) (l.length:Int) l.length rfl rfl rfl rfl (by rw [hz2];omega) yl (Nat.le_refl _) ?_;intro w1 hown hgrow)
 have hb1:Below w.heap.size w w1:=(Below.refl _ w).grown hgrow (Nat.le_refl _) (fun k hk=>by cases hk)
 clear hgrow;have hblk:=(zak hown).1
 go_loopw [4] (fun i wr=>∃ (k:Nat) (xs:List Value),k≤l.length∧i = .int .i64 (k:Int)∧wr.ownsRow w.heap.size 44 4 (.slice (some ⟨w.heap.size,0,none⟩) l.length l.length) l.length xs∧za7 w.heap.size wr 4 k (fun k=>DAttribute.ct (l.getD k default)) xs∧Below w.heap.size w wr) (fun i _=>l.length - (intOf i).toNat)
 case atStart=>exact ⟨0,_,Nat.zero_le _,rfl,hown,za7.zero hblk,hb1⟩
 case round =>
  clear hown hb1 hblk;obtain ⟨k,xs,hk,rfl,hown,hfill,hb⟩:=hrel;have hblk:=zak hown;have HO:=yq hown;have HF:=yq hfill;have HB:=yq hb;clear hown hfill
  by_cases hlt:k < l.length
  ·have hhr:hi≤wr.heap.size:=Nat.le_trans hhi hb.size
   obtain ⟨b,off,rfl,hlo,hhi',hc⟩:=(HS.out.later (hb.mono hhi) (Nat.le_refl _)).at k hlt;obtain ⟨hc0_,hc1_,hc2_,hc3_⟩:=DAttribute.open hc
   have hkn:k * 4+4≤l.length * 4:=by omega
   have d0:=hblk.2.2.1 (k * 4) (by omega)
   have z0:=hblk.2.2.2 (k * 4)
   have d1:=hblk.2.2.1 (k * 4+1) (by omega)
   have z1:=hblk.2.2.2 (k * 4+1)
   have d2:=hblk.2.2.1 (k * 4+2) (by omega)
   have z2:=hblk.2.2.2 (k * 4+2)
   have d3:=hblk.2.2.1 (k * 4+3) (by omega)
   have z3:=hblk.2.2.2 (k * 4+3);have hsz:=hblk.1;clear hblk hb hc;generalize hx:l.getD k default=x at *;have HX:=yq hx;clear hx;generalize xs.getD (k * 4) Value.nilFunc=v0 at d0;generalize xs.getD (k * 4+1) Value.nilFunc=v1 at d1;generalize xs.getD (k * 4+2) Value.nilFunc=v2 at d2;generalize xs.getD (k * 4+3) Value.nilFunc=v3 at d3;have HT:=yq (zi3 x wr);clear hkn;(go_wp2_with fail);refine HT.out.mono ?_;rintro e w1 ⟨rfl,hb1⟩;have e0:=(hb1.cell (p:=⟨w.heap.size,k * 4,none⟩) hsz).trans d0;have y0:=(hb1.frozen (p:=⟨w.heap.size,k * 4,none⟩) hsz).trans z0;have e1:=(hb1.cell (p:=⟨w.heap.size,k * 4+1,none⟩) hsz).trans d1;have y1:=(hb1.frozen (p:=⟨w.heap.size,k * 4+1,none⟩) hsz).trans z1;have e2:=(hb1.cell (p:=⟨w.heap.size,k * 4+2,none⟩) hsz).trans d2;have y2:=(hb1.frozen (p:=⟨w.heap.size,k * 4+2,none⟩) hsz).trans z2;have e3:=(hb1.cell (p:=⟨w.heap.size,k * 4+3,none⟩) hsz).trans d3;have y3:=(hb1.frozen (p:=⟨w.heap.size,k * 4+3,none⟩) hsz).trans z3;have HB1:=yq hb1;clear hb1 d0 z0 d1 z1 d2 z2 d3 z3;go_wp2;go_roundw
   case rel =>
    have hst:=HF.out.stored HB1.out hsz (zl HO.out HB1.out) hlt [.string x.fa,.int .i64 x.fk,.int .i64 x.fv,.bool x.fx] rfl (OwnR.lits fun j hj=>by
     rw [HX.out]
     match j,hj with
     | 0,_=>rfl
     | 1,_=>rfl
     | 2,_=>rfl
     | 3,_=>rfl)
    exact ⟨k+1,_,by omega,by go_num,hst.1,hst.2,za8 (Nat.le_refl _) [_,_,_,_] _ (HB.out.trans (HB1.out.mono HB.out.size))⟩
   case measure=>simp [intOf];omega
  ·obtain rfl:k=l.length:=by omega
   go_wp2;go_ret;exact ⟨_,_,rfl,HF.out.own hblk.1 hblk.2.2.1 hblk.2.2.2,hb⟩
theorem zi0 (x:DAttribute) (w:World) :
  Calls Tryz.prog 131 #[.agg #[.string x.fa,.int .i64 x.fk,.int .i64 x.fv,.bool x.fx],.agg #[.string x.fa,.int .i64 x.fk,.int .i64 x.fv,.bool x.fx]] w fun e w'=>e = .returned (.bool true)∧Below w.heap.size w w':=by
 go_enter Tryz.func131,Tryz.ntmps131
 go_wp2;go_ret
 exact ⟨rfl,by
  repeat (first|exact Below.refl _ _|(refine Below.setCell ?_ ye _)|(refine Below.alloc ?_ ye _))⟩
theorem zhu {lo hi lo2 hi2:Nat} {a a2:Option Addr} {cap cap2:Nat} (l:List DAttribute) (hsz:lsz DAttribute.sz l≤1048576) (w:World) (hhi:hi≤w.heap.size) (hhi2:hi2≤w.heap.size) (hs:Sl lo hi w 4 l.length (fun k=>DAttribute.ct (l.getD k default)) a) (hs2:Sl lo2 hi2 w 4 l.length (fun k=>DAttribute.ct (l.getD k default)) a2) :
  Calls Tryz.prog 94 #[.slice a l.length cap,.slice a2 l.length cap2] w fun e w'=>e = .returned (.bool true)∧Below w.heap.size w w':=by
 have HS:=yq hs;have HS2:=yq hs2;have HW:=yq hsz
 have hn:l.length≤1048576:=by unfold lsz at hsz;omega
 clear hs hs2 hsz
 go_enter Tryz.func94,Tryz.ntmps94
 go_wp2
 go_loopw [5] (fun i wr=>∃ k:Nat,k≤l.length∧i = .int .i64 (k:Int)∧Below w.heap.size w wr) (fun i _=>l.length - (intOf i).toNat)
 case atStart=>exact ⟨0,Nat.zero_le _,rfl,Below.refl _ _⟩
 case round =>
  obtain ⟨k,hk,rfl,hb⟩:=hrel;have HB:=yq hb
  by_cases hlt:k < l.length
  ·have hhr:hi≤wr.heap.size:=Nat.le_trans hhi hb.size
   have hhr2:hi2≤wr.heap.size:=Nat.le_trans hhi2 hb.size;obtain ⟨b,off,rfl,_,hhi',hc⟩:=(HS.out.later (hb.mono hhi) (Nat.le_refl _)).at k hlt;obtain ⟨b2,off2,rfl,_,hhi2',hc2⟩:=(HS2.out.later (hb.mono hhi2) (Nat.le_refl _)).at k hlt;obtain ⟨hc0_,hc1_,hc2_,hc3_⟩:=DAttribute.open hc;obtain ⟨hc0q_,hc1q_,hc2q_,hc3q_⟩:=DAttribute.open hc2;clear hb hc hc2;generalize l.getD k default=x at *
   have HT:=yq (fun (w':World)=>zi0 x w')
   skip;(go_wp2_with fail)
   go_region_with ((go_at_call 131;refine (HT.out _).mono ?_;rintro e w1 ⟨rfl,hb1⟩))
   all_goals
    go_wp2;go_roundw
    case rel =>
     refine ⟨k+1,by omega,by go_num,?_⟩
     have hb2:Below wr.heap.size wr w1:=⟨hb1.os,hb1.tape,hb1.output,hb1.size,hb1.block⟩
     repeat (first|exact HB.out.trans (hb2.mono HB.out.size)|apply Below.drew|refine below_drewN ?_ _)
    case measure=>simp [intOf];omega
  ·go_wp2
   go_ret;exact ⟨rfl,HB.out⟩
structure DSymbol where
 fa:ByteArray
 fu:List (DAttribute)
 deriving Inhabited
def DSymbol.ct (x:DSymbol):Nat→Ct
 | 0=>.lit (.string x.fa)
 | 1=>.sl 4 x.fu.length (fun k=>DAttribute.ct (x.fu.getD k default))
 | _=>.lit .nilFunc
def DSymbol.ok (x:DSymbol):Prop:=okS x.fa∧(okL DAttribute.ok) x.fu
def DSymbol.sz (x:DSymbol):Nat:=x.fa.size+(lsz DAttribute.sz) x.fu
theorem DSymbol.open {lo hi b o:Nat} {w:World} {x:DSymbol} (h : ∀ j,j < 2 → ∃ u,w.cell? ⟨b,o+j,none⟩=some u∧Lies lo hi w (x.ct j) u) :
  ∃ a1 c1,w.cell? ⟨b,o,none⟩=some (.string x.fa)∧w.cell? ⟨b,o+1,none⟩=some (.slice a1 x.fu.length c1)∧Sl lo hi w 4 x.fu.length (fun k=>DAttribute.ct (x.fu.getD k default)) a1:=by
 obtain ⟨u0,hc0,hl0⟩:=h 0 (by decide)
 obtain rfl:=zr hl0
 obtain ⟨u1,hc1,hl1⟩:=h 1 (by decide)
 obtain ⟨a1,c1,rfl,hs1⟩:=zc6 hl1;exact ⟨a1,c1,hc0,hc1,hs1⟩
theorem zpw {H:Type} {enc:TypeId × Value→H} {w:World} (fuel:Nat):zg1 enc Tryz.prog w 67 2 DSymbol.ct DSymbol.ok fuel:=by
 intro cs x h;have hl:=zct Tryz.underlying67 h
 obtain ⟨y0,k0,q0⟩:=zq Tryz.underlying67 h 0 _ rfl (ft:=9) (o:=0) (n:=1) rfl rfl (fun m _=>za1 Tryz.underlying9 m) (by kernel_rfl)
 obtain ⟨y1,k1,q1⟩:=zq Tryz.underlying67 h 1 _ rfl (ft:=65) (o:=1) (n:=1) rfl rfl (fun m _=>(fun fuel=>zb1 Tryz.underlying65 (e:=142) (n:=4) (by kernel_rfl) (by decide) fuel (fun m _=>zlv m)) m) (by kernel_rfl)
 refine ⟨⟨y0,y1⟩,⟨k0,k1⟩,hl.trans (by kernel_rfl),fun j hj=>?_⟩
 match j,hj with
 | 0,_=>exact q0 0 (by decide)
 | 1,_=>exact q1 0 (by decide)
theorem zox {lo hi:Nat} {a1:Option Addr} {c1:Nat} (x:DSymbol) (L:Int) (hL0:0≤L) (hL1:L≤1048576) (hx:x.ok) (w:World) (hhi:hi≤w.heap.size) (hs1:Sl lo hi w 4 x.fu.length (fun k=>DAttribute.ct (x.fu.getD k default)) a1) :
  Calls Tryz.prog 35 #[.agg #[.string x.fa,.slice a1 x.fu.length c1],.int .i64 L] w fun e w'=>e = .returned (.int .i64 (szR L x.sz))∧Below w.heap.size w w':=by
 have HS1:=yq hs1;clear hs1;have HX:=yq hx;clear hx;have okName:x.fa.size≤9223372036854775807:=HX.out.1;have HB0:=yq ((Below.refl w.heap.size w).alloc (Nat.le_refl _) (.cells #[.string x.fa,.slice a1 x.fu.length c1] 67))
 by_cases h0:L < ((x.fa.size:Nat):Int)
 ·skip
  have fin:=yq (zae (n:=x.sz) (L:=L) (by unfold DSymbol.sz;omega))
  go_enter Tryz.func35,Tryz.ntmps35
  go_wp2;go_ret
  exact ⟨zan (by rw [fin.out]),HB0.out⟩
 ·skip
  by_cases h1:(L - (x.fa.size:Nat)) < (((lsz DAttribute.sz) x.fu:Nat):Int)
  ·skip
   have hz0:=fun (w':World) (hhi:hi≤w'.heap.size) (hs1:Sl lo hi w' 4 x.fu.length (fun k=>DAttribute.ct (x.fu.getD k default)) a1)=>zdw (cap:=c1) x.fu (L - (x.fa.size:Nat)) (by omega) (by omega) HX.out.2 w' hhi hs1
   rw [zae (by omega)] at hz0
   have HZ0:=yq hz0;clear hz0
   have fin:=yq (zae (n:=x.sz) (L:=L) (by unfold DSymbol.sz;omega))
   go_enter Tryz.func35,Tryz.ntmps35
   (go_wp2_with fail);refine (HZ0.out _ (Nat.le_trans hhi HB0.out.size) (HS1.out.later HB0.out hhi)).mono ?_;rintro e w1 ⟨rfl,hb1⟩;have hsz1:w.heap.size < w1.heap.size:=Nat.lt_of_lt_of_le yg hb1.size;have HB1:=yq (HB0.out.trans (hb1.mono HB0.out.size));clear hb1;go_wp2;go_ret
   exact ⟨zan (by rw [fin.out]),HB1.out⟩
  ·skip
   have hz0:=fun (w':World) (hhi:hi≤w'.heap.size) (hs1:Sl lo hi w' 4 x.fu.length (fun k=>DAttribute.ct (x.fu.getD k default)) a1)=>zdw (cap:=c1) x.fu (L - (x.fa.size:Nat)) (by omega) (by omega) HX.out.2 w' hhi hs1
   rw [zas (by omega)] at hz0
   have HZ0:=yq hz0;clear hz0
   have fin:=yq (zas (n:=x.sz) (L:=L) (by unfold DSymbol.sz;omega))
   go_enter Tryz.func35,Tryz.ntmps35
   (go_wp2_with fail);refine (HZ0.out _ (Nat.le_trans hhi HB0.out.size) (HS1.out.later HB0.out hhi)).mono ?_;rintro e w1 ⟨rfl,hb1⟩;have hsz1:w.heap.size < w1.heap.size:=Nat.lt_of_lt_of_le yg hb1.size;have HB1:=yq (HB0.out.trans (hb1.mono HB0.out.size));clear hb1;go_wp2;go_ret
   exact ⟨zan (by rw [fin.out];unfold DSymbol.sz;omega),HB1.out⟩
theorem zdt {lo hi:Nat} {a:Option Addr} {cap:Nat} (l:List DSymbol) (L:Int) (hL0:0≤L) (hL1:L≤1048576) (hok:okL DSymbol.ok l) (w:World) (hhi:hi≤w.heap.size) (hs:Sl lo hi w 2 l.length (fun k=>DSymbol.ct (l.getD k default)) a) :
  Calls Tryz.prog 9 #[.slice a l.length cap,.int .i64 L] w fun e w'=>e = .returned (.int .i64 (szR L (lsz DSymbol.sz l)))∧Below w.heap.size w w':=by
 have HS:=yq hs;have HK:=yq hok;have hn:l.length≤9223372036854775807:=hok.1;clear hs hok
 by_cases hlong:L < ((l.length:Nat):Int)
 ·have fin:=yq (zae (n:=lsz DSymbol.sz l) (L:=L) (by unfold lsz;omega))
  go_enter Tryz.func9,Tryz.ntmps9
  go_wp2;go_ret;exact ⟨zan fin.out.symm,Below.refl _ _⟩
 ·go_enter Tryz.func9,Tryz.ntmps9
  go_wp2
  go_loopw [1,5] (fun q i wr=>∃ k:Nat,k≤l.length∧i = .int .i64 (k:Int)∧q = .int .i64 (L - l.length - psz DSymbol.sz l k)∧(l.length:Int)+psz DSymbol.sz l k≤L∧Below w.heap.size w wr) (fun _ i _=>l.length - (intOf i).toNat)
  case atStart=>exact ⟨0,Nat.zero_le _,rfl,by rw [zba];go_num,by rw [zba];omega,Below.refl _ _⟩
  case round =>
   obtain ⟨k,hk,rfl,rfl,hle,hb⟩:=hrel;have HB:=yq hb
   by_cases hlt:k < l.length
   ·have hsu:=yq (zc0 DSymbol.sz l k hlt)
    have hle2:=yq (zhd DSymbol.sz l (k+1));have hokk:=HK.out.at hlt;have hhr:hi≤wr.heap.size:=Nat.le_trans hhi hb.size;obtain ⟨b,off,rfl,hlo,hhi',hc⟩:=(HS.out.later (hb.mono hhi) (Nat.le_refl _)).at k hlt;clear hb;obtain ⟨a1,c1,hc0_,hc1_,hs1⟩:=DSymbol.open hc;clear hc;generalize l.getD k default=x at *;generalize psz DSymbol.sz l k=S at *
    have hZ:=zox (c1:=c1) x (L - l.length - S) (by omega) (by omega) hokk wr hhr hs1
    by_cases hf:((x.sz:Nat):Int)≤L - l.length - S
    ·rw [zas hf] at hZ
     have HZ:=yq hZ;clear hZ hokk hs1;(go_wp2_with fail);refine HZ.out.mono ?_;rintro e w1 ⟨rfl,hb1⟩;have HB1:=yq hb1;clear hb1;go_wp2;go_roundw
     case rel=>exact ⟨k+1,by omega,by go_num,by rw [hsu.out];go_num,by rw [hsu.out];omega,HB.out.trans (HB1.out.mono HB.out.size)⟩
     case measure=>simp [intOf];omega
    ·have fin:=yq (zae (n:=lsz DSymbol.sz l) (L:=L) (by have h1:=hsu.out;have h2:=hle2.out;omega))
     rw [zae (by omega)] at hZ
     have HZ:=yq hZ;clear hZ hokk hs1;(go_wp2_with fail);refine HZ.out.mono ?_;rintro e w1 ⟨rfl,hb1⟩;have HB1:=yq hb1;clear hb1;go_wp2;go_ret;exact ⟨zan fin.out.symm,HB.out.trans (HB1.out.mono HB.out.size)⟩
   ·obtain rfl:k=l.length:=by omega
    have fin:=yq (zas (n:=lsz DSymbol.sz l) (L:=L) (by unfold lsz;rw [zb0] at hle;omega))
    have fin2:=yq (zb0 DSymbol.sz l);go_wp2;go_ret
    exact ⟨zan (by rw [fin.out,fin2.out];unfold lsz;omega),HB.out⟩
theorem zov {lo hi:Nat} {a1:Option Addr} {c1:Nat} (x:DSymbol) (hsz:x.sz≤1048576) (w:World) (hhi:hi≤w.heap.size) (hs1:Sl lo hi w 4 x.fu.length (fun k=>DAttribute.ct (x.fu.getD k default)) a1) :
  Calls Tryz.prog 44 #[.agg #[.string x.fa,.slice a1 x.fu.length c1]] w fun e w'=>∃ a1r c1r,e = .returned (.agg #[.string x.fa,.slice a1r x.fu.length c1r])∧OwnR w' (fun y=>w.heap.size≤y∧y < w'.heap.size) 2 x.ct (fun j=>[.string x.fa,.slice a1r x.fu.length c1r].getD j .nilFunc)∧Below w.heap.size w w':=by
 have HS1:=yq hs1;clear hs1;have HW:=yq hsz;clear hsz;have HB0:=yq (((((Below.refl w.heap.size w).alloc (Nat.le_refl _) (.cells #[.string x.fa,.slice a1 x.fu.length c1] 67)).alloc ye (.cells #[.string ⟨#[]⟩,.slice none 0 0] 42))).alloc ye (.cells #[.string ⟨#[]⟩,.slice none 0 0] 42))
 have HSZ0:=yq (show w.heap.size+2 < (((w.alloc (.cells #[.string x.fa,.slice a1 x.fu.length c1] 67)).alloc (.cells #[.string ⟨#[]⟩,.slice none 0 0] 42)).alloc (.cells #[.string ⟨#[]⟩,.slice none 0 0] 42)).heap.size by simp)
 have ht0:=fun (w':World) (hhi:hi≤w'.heap.size) (hs:Sl lo hi w' 4 x.fu.length (fun k=>DAttribute.ct (x.fu.getD k default)) a1)=>zh4 (cap:=c1) x.fu (by have h:=HW.out;unfold DSymbol.sz at h;omega) w' hhi hs
 have HT0:=yq ht0;clear ht0
 go_enter Tryz.func44,Tryz.ntmps44
 (go_wp2_with fail)
 refine (HT0.out _ (Nat.le_trans hhi (Below.size ((by repeat (first|(with_reducible exact HB0.out)|(with_reducible exact Below.refl _ _)|(refine Below.setCell ?_ ye _)|(refine Below.alloc ?_ ye _)):Below w.heap.size w _)))) (HS1.out.later ((by repeat (first|(with_reducible exact HB0.out)|(with_reducible exact Below.refl _ _)|(refine Below.setCell ?_ ye _)|(refine Below.alloc ?_ ye _)):Below w.heap.size w _)) hhi)).mono ?_
 rintro e w1 ⟨a1r,c1r,rfl,ho1,hb1⟩
 have hsz1:w.heap.size+2 < w1.heap.size:=Nat.lt_of_lt_of_le (by have h:=HSZ0.out;first|(with_reducible exact h)|(simp;done)|(simp;omega)|(simp [World.setCell];omega)) hb1.size
 have hlo1:w.heap.size+3≤w1.heap.size:=Nat.le_trans yk hb1.size
 have hbw1:Below w.heap.size w w1:=Below.trans ((by repeat (first|(with_reducible exact HB0.out)|(with_reducible exact Below.refl _ _)|(refine Below.setCell ?_ ye _)|(refine Below.alloc ?_ ye _)):Below w.heap.size w _)) (hb1.mono (Below.size ((by repeat (first|(with_reducible exact HB0.out)|(with_reducible exact Below.refl _ _)|(refine Below.setCell ?_ ye _)|(refine Below.alloc ?_ ye _)):Below w.heap.size w _))))
 have HO1_1:=yq (ho1.sub (F':=fun y=>w.heap.size+3≤y∧y < w1.heap.size) (fun y hy=>⟨Nat.le_trans yj hy.1,hy.2⟩))
 clear ho1
 have x1_1_0:w1.cell? ⟨w.heap.size+1,0,none⟩=some (.string ⟨#[]⟩):=(hb1.cell (p:=⟨w.heap.size+1,0,none⟩) yd).trans (by go_simp)
 have z1_1_0:w1.frozen? ⟨w.heap.size+1,0,none⟩=false:=(hb1.frozen (p:=⟨w.heap.size+1,0,none⟩) yd).trans (by go_simp)
 have x1_1_1:w1.cell? ⟨w.heap.size+1,1,none⟩=some (.slice none 0 0):=(hb1.cell (p:=⟨w.heap.size+1,1,none⟩) yd).trans (by go_simp)
 have z1_1_1:w1.frozen? ⟨w.heap.size+1,1,none⟩=false:=(hb1.frozen (p:=⟨w.heap.size+1,1,none⟩) yd).trans (by go_simp)
 have x1_2_0:w1.cell? ⟨w.heap.size+2,0,none⟩=some (.string x.fa):=(hb1.cell (p:=⟨w.heap.size+2,0,none⟩) yd).trans (by go_simp)
 have z1_2_0:w1.frozen? ⟨w.heap.size+2,0,none⟩=false:=(hb1.frozen (p:=⟨w.heap.size+2,0,none⟩) yd).trans (by go_simp)
 have x1_2_1:w1.cell? ⟨w.heap.size+2,1,none⟩=some (.slice none 0 0):=(hb1.cell (p:=⟨w.heap.size+2,1,none⟩) yd).trans (by go_simp)
 have z1_2_1:w1.frozen? ⟨w.heap.size+2,1,none⟩=false:=(hb1.frozen (p:=⟨w.heap.size+2,1,none⟩) yd).trans (by go_simp)
 have HG1:=yq (show w1.heap[w.heap.size+1]? = some (.cells #[.string ⟨#[]⟩,.slice none 0 0] 42) from (hb1.block _ yd).trans (by (repeat (refine zaj (by simp) ?_));exact zn (by simp) (ze (by simp))))
 have HB1:=yq hbw1;have HSZ1:=yq hsz1;have HLO1:=yq hlo1;clear hb1 hbw1 hsz1 hlo1;go_wp2
 refine bodyPost_ret (v:=.agg #[.string x.fa,.slice a1r x.fu.length c1r]) (results_cell_row Tryz.results44 _ _ (w.heap.size+1) 42 #[.string x.fa,.slice a1r x.fu.length c1r] (0,0) _ rfl (by refine Eq.trans (zm (cs:=#[.string x.fa,.slice none 0 0]) (t:=42) (fr:=(0,0)) ?_) rfl;refine Eq.trans (zm (cs:=#[.string ⟨#[]⟩,.slice none 0 0]) (t:=42) (fr:=(0,0)) ?_) rfl;repeat (first|(with_reducible exact HG1.out)|(refine zaj (by simp) ?_))) Tryz.underlying42 rfl rfl) rfl ⟨a1r,c1r,rfl,?_,(by repeat (first|(with_reducible exact HB1.out)|(with_reducible exact Below.refl _ _)|(refine Below.setCell ?_ ye _)|(refine Below.alloc ?_ ye _)):Below w.heap.size w _)⟩
 have ho1:=HO1_1.out;clear HO1_1;have q1:=HLO1.out;skip
 have hkk : ∀ w9:World,Kept (fun y=>w.heap.size+3≤y) w1 w9→OwnR w9 (fun y=>w.heap.size≤y∧y < w1.heap.size) 2 x.ct (fun j=>[.string x.fa,.slice a1r x.fu.length c1r].getD j .nilFunc):=fun w9 hk=>by
  refine OwnR.append (F1:=fun _=>False) (F2:=fun y=>w.heap.size+3≤y∧y < w1.heap.size) (m:=1) (n:=1) ?_ ?_ yo ym ym
  ·skip
   refine OwnR.lits (F:=fun _=>False) fun j hj=>?_
   match j,hj with
   | 0,_=>rfl
  ·skip
   exact OwnR.one (ho1.kept (hk.sub fun y hy=>by have h:=hy.1;omega))
 refine (hkk _ (by repeat (first|(with_reducible exact Kept.refl)|(refine Kept.put ?_ (by intro h1;dsimp only at h1;omega))))).sub (fun y hy=>⟨hy.1,Nat.lt_of_lt_of_le hy.2 (by simp)⟩)
theorem zl1:(Tryz.prog.info? 42).map (fun i=>(i.zero,i.size,i.bytes))=some (some (.agg #[.string ⟨#[]⟩,.slice none 0 0]),2,40):=by kernel_rfl
theorem zn4 {lo hi lo2 hi2:Nat} {a1:Option Addr} {c1:Nat} {a1q:Option Addr} {c1q:Nat} (x:DSymbol) (hsz:x.sz≤1048576) (w:World) (hhi:hi≤w.heap.size) (hhi2:hi2≤w.heap.size) (hs1:Sl lo hi w 4 x.fu.length (fun k=>DAttribute.ct (x.fu.getD k default)) a1) (hs1q:Sl lo2 hi2 w 4 x.fu.length (fun k=>DAttribute.ct (x.fu.getD k default)) a1q) :
  Calls Tryz.prog 56 #[.agg #[.string x.fa,.slice a1 x.fu.length c1],.agg #[.string x.fa,.slice a1q x.fu.length c1q]] w fun e w'=>e = .returned (.bool true)∧Below w.heap.size w w':=by
 have HS1:=yq hs1;have HS1q:=yq hs1q;clear hs1 hs1q;have HW:=yq hsz;clear hsz;have HB0:=yq (((Below.refl w.heap.size w).alloc (Nat.le_refl _) (.cells #[.string x.fa,.slice a1 x.fu.length c1] 42)).alloc ye (.cells #[.string x.fa,.slice a1q x.fu.length c1q] 42))
 have ht0:=fun (w':World) (hhi:hi≤w'.heap.size) (hhi2:hi2≤w'.heap.size) (hs:Sl lo hi w' 4 x.fu.length (fun k=>DAttribute.ct (x.fu.getD k default)) a1) (hs2:Sl lo2 hi2 w' 4 x.fu.length (fun k=>DAttribute.ct (x.fu.getD k default)) a1q)=>zhu (cap:=c1) (cap2:=c1q) x.fu (by have h:=HW.out;unfold DSymbol.sz at h;omega) w' hhi hhi2 hs hs2
 have HT0:=yq ht0;clear ht0
 go_enter Tryz.func56,Tryz.ntmps56
 (go_wp2_with fail);refine (HT0.out _ (Nat.le_trans hhi (HB0.out.size)) (Nat.le_trans hhi2 (HB0.out.size)) (HS1.out.later HB0.out hhi) (HS1q.out.later HB0.out hhi2)).mono ?_;rintro e w1 ⟨rfl,hb1⟩;have HB1:=yq (HB0.out.trans (hb1.mono HB0.out.size));clear hb1;go_wp2;go_ret;exact ⟨rfl,HB1.out⟩
theorem zma {lo hi lo2 hi2:Nat} {a a2:Option Addr} {cap cap2:Nat} (l:List DSymbol) (hsz:lsz DSymbol.sz l≤1048576) (w:World) (hhi:hi≤w.heap.size) (hhi2:hi2≤w.heap.size) (hs:Sl lo hi w 2 l.length (fun k=>DSymbol.ct (l.getD k default)) a) (hs2:Sl lo2 hi2 w 2 l.length (fun k=>DSymbol.ct (l.getD k default)) a2) :
  Calls Tryz.prog 33 #[.slice a l.length cap,.slice a2 l.length cap2] w fun e w'=>e = .returned (.bool true)∧Below w.heap.size w w':=by
 have HS:=yq hs;have HS2:=yq hs2;have HW:=yq hsz
 have hn:l.length≤1048576:=by unfold lsz at hsz;omega
 clear hs hs2 hsz
 go_enter Tryz.func33,Tryz.ntmps33
 go_wp2
 go_loopw [5] (fun i wr=>∃ k:Nat,k≤l.length∧i = .int .i64 (k:Int)∧Below w.heap.size w wr) (fun i _=>l.length - (intOf i).toNat)
 case atStart=>exact ⟨0,Nat.zero_le _,rfl,Below.refl _ _⟩
 case round =>
  obtain ⟨k,hk,rfl,hb⟩:=hrel;have HB:=yq hb
  by_cases hlt:k < l.length
  ·have hhr:hi≤wr.heap.size:=Nat.le_trans hhi hb.size
   have hhr2:hi2≤wr.heap.size:=Nat.le_trans hhi2 hb.size;obtain ⟨b,off,rfl,_,hhi',hc⟩:=(HS.out.later (hb.mono hhi) (Nat.le_refl _)).at k hlt;obtain ⟨b2,off2,rfl,_,hhi2',hc2⟩:=(HS2.out.later (hb.mono hhi2) (Nat.le_refl _)).at k hlt;obtain ⟨a1,c1,hc0_,hc1_,hs1⟩:=DSymbol.open hc;obtain ⟨a1q,c1q,hc0q_,hc1q_,hs1q⟩:=DSymbol.open hc2;have hxs:=zab (f:=DSymbol.sz) l k hlt;clear hb hc hc2;generalize l.getD k default=x at *
   have HT:=yq (fun (w':World) (hw:Below wr.heap.size wr w')=>zn4 (c1:=c1) (c1q:=c1q) x (by have h1:=HW.out;omega) w' (Nat.le_trans hhr hw.size) (Nat.le_trans hhr2 hw.size) (hs1.later hw hhr) (hs1q.later hw hhr2))
   clear hxs hs1 hs1q;(go_wp2_with fail)
   go_region_with ((go_at_call 56;refine (HT.out _ (by first|exact Below.refl _ _|exact (Below.refl _ _).drew|exact below_drewN (Below.refl _ _) _)).mono ?_;rintro e w1 ⟨rfl,hb1⟩))
   all_goals
    go_wp2;go_roundw
    case rel =>
     refine ⟨k+1,by omega,by go_num,?_⟩
     have hb2:Below wr.heap.size wr w1:=⟨hb1.os,hb1.tape,hb1.output,hb1.size,hb1.block⟩
     repeat (first|exact HB.out.trans (hb2.mono HB.out.size)|apply Below.drew|refine below_drewN ?_ _)
    case measure=>simp [intOf];omega
  ·go_wp2
   go_ret;exact ⟨rfl,HB.out⟩
structure DGrammar where
 fl:List (DSymbol)
 fm:List (DRule)
 deriving Inhabited
def DGrammar.ct (x:DGrammar):Nat→Ct
 | 0=>.sl 2 x.fl.length (fun k=>DSymbol.ct (x.fl.getD k default))
 | 1=>.sl 6 x.fm.length (fun k=>DRule.ct (x.fm.getD k default))
 | _=>.lit .nilFunc
def DGrammar.ok (x:DGrammar):Prop:=(okL DSymbol.ok) x.fl∧(okL DRule.ok) x.fm
def DGrammar.sz (x:DGrammar):Nat:=(lsz DSymbol.sz) x.fl+(lsz DRule.sz) x.fm
theorem zoa {H:Type} {enc:TypeId × Value→H} {w:World} (fuel:Nat):zg1 enc Tryz.prog w 25 2 DGrammar.ct DGrammar.ok fuel:=by
 intro cs x h;have hl:=zct Tryz.underlying25 h
 obtain ⟨y0,k0,q0⟩:=zq Tryz.underlying25 h 0 _ rfl (ft:=22) (o:=0) (n:=1) rfl rfl (fun m _=>(fun fuel=>zb1 Tryz.underlying22 (e:=67) (n:=2) (by kernel_rfl) (by decide) fuel (fun m _=>zpw m)) m) (by kernel_rfl)
 obtain ⟨y1,k1,q1⟩:=zq Tryz.underlying25 h 1 _ rfl (ft:=23) (o:=1) (n:=1) rfl rfl (fun m _=>(fun fuel=>zb1 Tryz.underlying23 (e:=72) (n:=6) (by kernel_rfl) (by decide) fuel (fun m _=>zs3 m)) m) (by kernel_rfl)
 refine ⟨⟨y0,y1⟩,⟨k0,k1⟩,hl.trans (by kernel_rfl),fun j hj=>?_⟩
 match j,hj with
 | 0,_=>exact q0 0 (by decide)
 | 1,_=>exact q1 0 (by decide)
open Go.WideElems Go.WideMaps in
theorem zq4 {H:Type} {enc:TypeId × Value→H} {W:World} {base:Nat} {v:Value} {d:DataW H} {p:List MemPlace} (hv:Value.okWide Tryz.prog W .any base 25 v) (h:DataW.Trod enc Tryz.prog W 0 (fun _=>true) true 25 v d p) :
  ∃ (x:DGrammar) (a0:Option Addr) (c0:Nat) (a1:Option Addr) (c1:Nat),v = .agg #[.slice a0 x.fl.length c0,.slice a1 x.fm.length c1]∧x.ok∧Sl 0 W.heap.size W 2 x.fl.length (fun k=>DSymbol.ct (x.fl.getD k default)) a0∧Sl 0 W.heap.size W 6 x.fm.length (fun k=>DRule.ct (x.fm.getD k default)) a1:=by
 obtain ⟨cs,rfl,hsz⟩:=okWide_struct Tryz.underlying25 hv;obtain ⟨fuel,hf⟩:=h;obtain ⟨x,hx,hl,hj⟩:=zoa fuel _ _ hf;obtain ⟨l⟩:=cs
 match l,hl,hj with
 | [e0,e1],_,hj =>
  obtain ⟨u0,hu0,hl0⟩:=hj 0 (by decide)
  obtain ⟨a0,c0,rfl,hs0⟩:=zc6 hl0;obtain rfl:e0=_:=Option.some.inj hu0
  obtain ⟨u1,hu1,hl1⟩:=hj 1 (by decide)
  obtain ⟨a1,c1,rfl,hs1⟩:=zc6 hl1;obtain rfl:e1=_:=Option.some.inj hu1;exact ⟨x,a0,c0,a1,c1,rfl,hx,hs0,hs1⟩
theorem zfy {lo hi:Nat} {a0:Option Addr} {c0:Nat} {a1:Option Addr} {c1:Nat} (x:DGrammar) (L:Int) (hL0:0≤L) (hL1:L≤1048576) (hx:x.ok) (w:World) (hhi:hi≤w.heap.size) (hs0:Sl lo hi w 2 x.fl.length (fun k=>DSymbol.ct (x.fl.getD k default)) a0) (hs1:Sl lo hi w 6 x.fm.length (fun k=>DRule.ct (x.fm.getD k default)) a1) :
  Calls Tryz.prog 4 #[.agg #[.slice a0 x.fl.length c0,.slice a1 x.fm.length c1],.int .i64 L] w fun e w'=>e = .returned (.int .i64 (szR L x.sz))∧Below w.heap.size w w':=by
 have HS0:=yq hs0;have HS1:=yq hs1;clear hs0 hs1;have HX:=yq hx;clear hx;have HB0:=yq ((Below.refl w.heap.size w).alloc (Nat.le_refl _) (.cells #[.slice a0 x.fl.length c0,.slice a1 x.fm.length c1] 25))
 by_cases h0:L < (((lsz DSymbol.sz) x.fl:Nat):Int)
 ·skip
  have hz0:=fun (w':World) (hhi:hi≤w'.heap.size) (hs0:Sl lo hi w' 2 x.fl.length (fun k=>DSymbol.ct (x.fl.getD k default)) a0)=>zdt (cap:=c0) x.fl L (by omega) (by omega) HX.out.1 w' hhi hs0
  rw [zae (by omega)] at hz0
  have HZ0:=yq hz0;clear hz0
  have fin:=yq (zae (n:=x.sz) (L:=L) (by unfold DGrammar.sz;omega))
  go_enter Tryz.func4,Tryz.ntmps4
  (go_wp2_with fail);refine (HZ0.out _ (Nat.le_trans hhi HB0.out.size) (HS0.out.later HB0.out hhi)).mono ?_;rintro e w1 ⟨rfl,hb1⟩;have hsz1:w.heap.size < w1.heap.size:=Nat.lt_of_lt_of_le yg hb1.size;have HB1:=yq (HB0.out.trans (hb1.mono HB0.out.size));clear hb1;go_wp2;go_ret
  exact ⟨zan (by rw [fin.out]),HB1.out⟩
 ·skip
  by_cases h1:(L - ((lsz DSymbol.sz) x.fl:Nat)) < (((lsz DRule.sz) x.fm:Nat):Int)
  ·skip
   have hz0:=fun (w':World) (hhi:hi≤w'.heap.size) (hs0:Sl lo hi w' 2 x.fl.length (fun k=>DSymbol.ct (x.fl.getD k default)) a0)=>zdt (cap:=c0) x.fl L (by omega) (by omega) HX.out.1 w' hhi hs0
   rw [zas (by omega)] at hz0
   have HZ0:=yq hz0;clear hz0
   have hz1:=fun (w':World) (hhi:hi≤w'.heap.size) (hs1:Sl lo hi w' 6 x.fm.length (fun k=>DRule.ct (x.fm.getD k default)) a1)=>zis (cap:=c1) x.fm (L - ((lsz DSymbol.sz) x.fl:Nat)) (by omega) (by omega) HX.out.2 w' hhi hs1
   rw [zae (by omega)] at hz1
   have HZ1:=yq hz1;clear hz1
   have fin:=yq (zae (n:=x.sz) (L:=L) (by unfold DGrammar.sz;omega))
   go_enter Tryz.func4,Tryz.ntmps4
   (go_wp2_with fail);refine (HZ0.out _ (Nat.le_trans hhi HB0.out.size) (HS0.out.later HB0.out hhi)).mono ?_;rintro e w1 ⟨rfl,hb1⟩;have hsz1:w.heap.size < w1.heap.size:=Nat.lt_of_lt_of_le yg hb1.size
   have x1_0_1:w1.cell? ⟨w.heap.size,1,none⟩=some (.slice a1 x.fm.length c1):=(hb1.cell (p:=⟨w.heap.size,1,none⟩) yd).trans (by go_simp)
   have HB1:=yq (HB0.out.trans (hb1.mono HB0.out.size));clear hb1;(go_wp2_with fail);refine (HZ1.out _ (Nat.le_trans hhi HB1.out.size) (HS1.out.later HB1.out hhi)).mono ?_;rintro e w2 ⟨rfl,hb2⟩;have hsz2:w.heap.size < w2.heap.size:=Nat.lt_of_lt_of_le yg hb2.size;have HB2:=yq (HB1.out.trans (hb2.mono HB1.out.size));clear hb2;go_wp2;go_ret
   exact ⟨zan (by rw [fin.out]),HB2.out⟩
  ·skip
   have hz0:=fun (w':World) (hhi:hi≤w'.heap.size) (hs0:Sl lo hi w' 2 x.fl.length (fun k=>DSymbol.ct (x.fl.getD k default)) a0)=>zdt (cap:=c0) x.fl L (by omega) (by omega) HX.out.1 w' hhi hs0
   rw [zas (by omega)] at hz0
   have HZ0:=yq hz0;clear hz0
   have hz1:=fun (w':World) (hhi:hi≤w'.heap.size) (hs1:Sl lo hi w' 6 x.fm.length (fun k=>DRule.ct (x.fm.getD k default)) a1)=>zis (cap:=c1) x.fm (L - ((lsz DSymbol.sz) x.fl:Nat)) (by omega) (by omega) HX.out.2 w' hhi hs1
   rw [zas (by omega)] at hz1
   have HZ1:=yq hz1;clear hz1
   have fin:=yq (zas (n:=x.sz) (L:=L) (by unfold DGrammar.sz;omega))
   go_enter Tryz.func4,Tryz.ntmps4
   (go_wp2_with fail);refine (HZ0.out _ (Nat.le_trans hhi HB0.out.size) (HS0.out.later HB0.out hhi)).mono ?_;rintro e w1 ⟨rfl,hb1⟩;have hsz1:w.heap.size < w1.heap.size:=Nat.lt_of_lt_of_le yg hb1.size
   have x1_0_1:w1.cell? ⟨w.heap.size,1,none⟩=some (.slice a1 x.fm.length c1):=(hb1.cell (p:=⟨w.heap.size,1,none⟩) yd).trans (by go_simp)
   have HB1:=yq (HB0.out.trans (hb1.mono HB0.out.size));clear hb1;(go_wp2_with fail);refine (HZ1.out _ (Nat.le_trans hhi HB1.out.size) (HS1.out.later HB1.out hhi)).mono ?_;rintro e w2 ⟨rfl,hb2⟩;have hsz2:w.heap.size < w2.heap.size:=Nat.lt_of_lt_of_le yg hb2.size;have HB2:=yq (HB1.out.trans (hb2.mono HB1.out.size));clear hb2;go_wp2;go_ret
   exact ⟨zan (by rw [fin.out];unfold DGrammar.sz;omega),HB2.out⟩
theorem zmn {lo hi lo2 hi2:Nat} {a0:Option Addr} {c0:Nat} {a1:Option Addr} {c1:Nat} {a0q:Option Addr} {c0q:Nat} {a1q:Option Addr} {c1q:Nat} (x:DGrammar) (hsz:x.sz≤1048576) (w:World) (hhi:hi≤w.heap.size) (hhi2:hi2≤w.heap.size) (hs0:Sl lo hi w 2 x.fl.length (fun k=>DSymbol.ct (x.fl.getD k default)) a0) (hs1:Sl lo hi w 6 x.fm.length (fun k=>DRule.ct (x.fm.getD k default)) a1) (hs0q:Sl lo2 hi2 w 2 x.fl.length (fun k=>DSymbol.ct (x.fl.getD k default)) a0q) (hs1q:Sl lo2 hi2 w 6 x.fm.length (fun k=>DRule.ct (x.fm.getD k default)) a1q) :
  Calls Tryz.prog 8 #[.agg #[.slice a0 x.fl.length c0,.slice a1 x.fm.length c1],.agg #[.slice a0q x.fl.length c0q,.slice a1q x.fm.length c1q]] w fun e w'=>e = .returned (.bool true)∧Below w.heap.size w w':=by
 have HS0:=yq hs0;have HS0q:=yq hs0q;have HS1:=yq hs1;have HS1q:=yq hs1q;clear hs0 hs0q hs1 hs1q;have HW:=yq hsz;clear hsz;have HB0:=yq (((Below.refl w.heap.size w).alloc (Nat.le_refl _) (.cells #[.slice a0 x.fl.length c0,.slice a1 x.fm.length c1] 32)).alloc ye (.cells #[.slice a0q x.fl.length c0q,.slice a1q x.fm.length c1q] 32))
 have ht0:=fun (w':World) (hhi:hi≤w'.heap.size) (hhi2:hi2≤w'.heap.size) (hs:Sl lo hi w' 2 x.fl.length (fun k=>DSymbol.ct (x.fl.getD k default)) a0) (hs2:Sl lo2 hi2 w' 2 x.fl.length (fun k=>DSymbol.ct (x.fl.getD k default)) a0q)=>zma (cap:=c0) (cap2:=c0q) x.fl (by have h:=HW.out;unfold DGrammar.sz at h;omega) w' hhi hhi2 hs hs2
 have HT0:=yq ht0;clear ht0
 have ht1:=fun (w':World) (hhi:hi≤w'.heap.size) (hhi2:hi2≤w'.heap.size) (hs:Sl lo hi w' 6 x.fm.length (fun k=>DRule.ct (x.fm.getD k default)) a1) (hs2:Sl lo2 hi2 w' 6 x.fm.length (fun k=>DRule.ct (x.fm.getD k default)) a1q)=>zpk (cap:=c1) (cap2:=c1q) x.fm (by have h:=HW.out;unfold DGrammar.sz at h;omega) w' hhi hhi2 hs hs2
 have HT1:=yq ht1;clear ht1
 go_enter Tryz.func8,Tryz.ntmps8
 (go_wp2_with fail);refine (HT0.out _ (Nat.le_trans hhi (HB0.out.size)) (Nat.le_trans hhi2 (HB0.out.size)) (HS0.out.later HB0.out hhi) (HS0q.out.later HB0.out hhi2)).mono ?_;rintro e w1 ⟨rfl,hb1⟩
 have x1_0_1:w1.cell? ⟨w.heap.size,1,none⟩=some (.slice a1 x.fm.length c1):=(hb1.cell (p:=⟨w.heap.size,1,none⟩) yd).trans (by go_simp)
 have x1_1_1:w1.cell? ⟨w.heap.size+1,1,none⟩=some (.slice a1q x.fm.length c1q):=(hb1.cell (p:=⟨w.heap.size+1,1,none⟩) yd).trans (by go_simp)
 have hsz1:w.heap.size+1 < w1.heap.size:=Nat.lt_of_lt_of_le yd hb1.size;have HB1:=yq (HB0.out.trans (hb1.mono HB0.out.size));clear hb1;(go_wp2_with fail);refine (HT1.out _ (Nat.le_trans hhi (HB1.out.size)) (Nat.le_trans hhi2 (HB1.out.size)) (HS1.out.later HB1.out hhi) (HS1q.out.later HB1.out hhi2)).mono ?_;rintro e w2 ⟨rfl,hb2⟩;have HB2:=yq (HB1.out.trans (hb2.mono HB1.out.size));clear hb2;clear x1_0_1 x1_1_1 hsz1;go_wp2;go_ret;exact ⟨rfl,HB2.out⟩
structure Chk where
 code:Int
 cnt:Nat
 fn:Nat
 bad:Nat→Bool
 deriving Inhabited
theorem zr0 {w:World} {g j:Nat} {v:Value} {cs:Array Value} {t:TypeId} {fr:Nat × Nat} (h:w.heap[g]? = some (.cells cs t fr)) (hj:cs[j]? = some v):w.cell? ⟨g,j,Option.none⟩=some v:=by
 simp only [World.cell?,h]
 exact hj
def zbd:List Chk→Int × Int
 | []=>(0,0)
 | c :: cs=>match (List.range c.cnt).find? c.bad with|some i=>(c.code,(i:Int))|none=>zbd cs
theorem zdr {L:List Chk} : ∀ {k:Nat},k≤L.length→(∀ q,q < k → ∀ i,i < (L.getD q default).cnt→(L.getD q default).bad i=false)→zbd L=zbd (L.drop k)
 | 0,_,_=>by rw [List.drop_zero]
 | k+1,hk,h=>by
  rw [zdr (k:=k) (by omega) (fun q hq=>h q (by omega))]
  rw [List.drop_eq_getElem_cons (show k < L.length by omega)]
  have h1:(List.range L[k].cnt).find? L[k].bad=none:=by
   rw [List.find?_eq_none];intro i hi
   have h2:=h k (by omega) i (by rw [List.getD_eq_getElem?_getD,List.getElem?_eq_getElem (show k < L.length by omega)];exact List.mem_range.1 hi)
   rw [List.getD_eq_getElem?_getD,List.getElem?_eq_getElem (show k < L.length by omega)] at h2
   simpa using h2
  show (match (List.range L[k].cnt).find? L[k].bad with|some i=>(L[k].code,(i:Int))|none=>zbd (L.drop (k+1)))=_
  rw [h1]
theorem zgp {L:List Chk} {k i:Nat} (hk:k < L.length) (h : ∀ q,q < k → ∀ i,i < (L.getD q default).cnt→(L.getD q default).bad i=false) (hi:i < (L.getD k default).cnt) (hb:(L.getD k default).bad i=true) (hno : ∀ j,j < i→(L.getD k default).bad j=false) :
  zbd L=((L.getD k default).code,(i:Int)):=by
 rw [zdr (by omega) h,List.drop_eq_getElem_cons hk]
 rw [List.getD_eq_getElem?_getD,List.getElem?_eq_getElem hk] at hi hb hno ⊢
 have h1:(List.range L[k].cnt).find? L[k].bad=some i:=by
  rw [List.find?_range_eq_some]
  exact ⟨by simpa using hb,by simpa using hi,fun j hj=>by have:=hno j hj;simpa using this⟩
 show (match (List.range L[k].cnt).find? L[k].bad with|some i=>(L[k].code,(i:Int))|none=>zbd (L.drop (k+1)))=_
 rw [h1]
 rfl
theorem zfu {L:List Chk} (h : ∀ q,q < L.length → ∀ i,i < (L.getD q default).cnt→(L.getD q default).bad i=false):zbd L=(0,0):=by
 rw [zdr (Nat.le_refl _) h,List.drop_length]
 rfl
theorem zhz {ba bg c:Nat} (L:List Chk) (hL:L.length≤1000) (hcn : ∀ k,k < L.length→(L.getD k default).cnt≤1048576) (hfn : ∀ k,k < L.length→(L.getD k default).fn=17∨(L.getD k default).fn=19∨(L.getD k default).fn=21∨(L.getD k default).fn=23∨(L.getD k default).fn=25∨(L.getD k default).fn=27∨(L.getD k default).fn=29∨(L.getD k default).fn=31) (w:World) (hba:ba < w.heap.size)
  (hrow : ∀ k,k < L.length→w.cell? ⟨ba,k * 3,none⟩=some (.int .i64 (L.getD k default).code)∧w.cell? ⟨ba,k * 3+1,none⟩=some (.int .i64 ((L.getD k default).cnt:Int))∧w.cell? ⟨ba,k * 3+2,none⟩=some (.func (.func (L.getD k default).fn) #[] #[.pointer (some ⟨bg,0,none⟩)]))
  (hF : ∀ k,k < L.length → ∀ i,i < (L.getD k default).cnt→(∀ q,q < k → ∀ i,i < (L.getD q default).cnt→(L.getD q default).bad i=false)→(∀ j,j < i→(L.getD k default).bad j=false) → ∀ W,Below w.heap.size w W →
   Calls Tryz.prog (L.getD k default).fn #[.int .i64 (i:Int),.pointer (some ⟨bg,0,none⟩)] W fun e w'=>e = .returned (.bool ((L.getD k default).bad i))∧Below W.heap.size W w') :
  Calls Tryz.prog 16 #[.slice (some ⟨ba,0,none⟩) L.length c] w fun e w'=>e = .returned (.tuple #[.int .i64 (zbd L).1,.int .i64 (zbd L).2])∧Below w.heap.size w w':=by
 have HROW:=yq (fun (W:World) (hW:Below w.heap.size w W) (k:Nat) (hk:k < L.length)=>And.intro ((hW.cell (p:=⟨ba,k * 3,none⟩) hba).trans (hrow k hk).1) (And.intro ((hW.cell (p:=⟨ba,k * 3+1,none⟩) hba).trans (hrow k hk).2.1) ((hW.cell (p:=⟨ba,k * 3+2,none⟩) hba).trans (hrow k hk).2.2)))
 have HF:=yq hF;have HCN:=yq hcn;have HFN:=yq hfn;clear hrow hF hcn hfn
 go_enter Tryz.func16,Tryz.ntmps16
 go_wp2
 go_loopw [9] (fun i wr=>∃ k:Nat,k≤L.length∧i = .int .i64 (k:Int)∧(∀ q,q < k → ∀ i,i < (L.getD q default).cnt→(L.getD q default).bad i=false)∧Below w.heap.size w wr) (fun i _=>L.length - (intOf i).toNat)
 case atStart=>exact ⟨0,Nat.zero_le _,rfl,fun _ h=>absurd h (Nat.not_lt_zero _),Below.refl _ _⟩
 case round =>
  obtain ⟨k,hk,rfl,hg,hb⟩:=hrel;obtain ⟨wq,rfl⟩ : ∃ wq:World,wq=wr:=⟨_,rfl⟩;have HG:=yq hg;have HB:=yq hb;clear hg hb
  by_cases hlt:k < L.length
  ·obtain ⟨r0,r1,r2⟩:=HROW.out wq HB.out k hlt
   have hkI:(0:Int)≤(k:Int)∧(k:Int) < (L.length:Int):=by omega
   have HFK:=yq (fun i hi=>HF.out k hlt i hi HG.out)
   have HHIT:=yq (fun i hi hb hno=>zgp (i:=i) hlt HG.out hi hb hno)
   have hcn:=HCN.out k hlt;have HFX:=yq (HFN.out k hlt)
   have HGN:=yq (fun (h : ∀ i,i < (L.getD k default).cnt→(L.getD k default).bad i=false)=>show ∀ q,q < k+1 → ∀ i,i < (L.getD q default).cnt→(L.getD q default).bad i=false from fun q hq=>by
    rcases Nat.lt_or_ge q k with h'|h'
    ·exact HG.out q h'
    ·obtain rfl:q=k:=by omega
     exact h)
   generalize hx:L.getD k default=x at HFK HHIT hcn HGN HFX r0 r1 r2;clear hx
   have HBX:=yq (show Below w.heap.size w (wq.alloc (.cells #[.int .i64 x.code,.int .i64 (x.cnt:Int),.func (.func x.fn) #[] #[.pointer (some ⟨bg,0,none⟩)]] 57)) from HB.out.trans (((Below.refl wq.heap.size wq).alloc (Nat.le_refl _) _).mono HB.out.size))
   have HXB:=yq (show (wq.alloc (.cells #[.int .i64 x.code,.int .i64 (x.cnt:Int),.func (.func x.fn) #[] #[.pointer (some ⟨bg,0,none⟩)]] 57)).heap[wq.heap.size]? = some (.cells #[.int .i64 x.code,.int .i64 (x.cnt:Int),.func (.func x.fn) #[] #[.pointer (some ⟨bg,0,none⟩)]] 57) from ze rfl)
   have HZ:=yq (show (wq.alloc (.cells #[.int .i64 x.code,.int .i64 (x.cnt:Int),.func (.func x.fn) #[] #[.pointer (some ⟨bg,0,none⟩)]] 57)).heap.size=wq.heap.size+1 by simp)
   have hszq:=HB.out.size
   have hst:(store ⟨wq.heap.size,2,none⟩ (.func (.func x.fn) #[] #[.pointer (some ⟨bg,0,none⟩)])).run Tryz.prog (wq.alloc (.cells #[.int .i64 x.code,.int .i64 (x.cnt:Int),.nilFunc] 57)) = .ok () (wq.alloc (.cells #[.int .i64 x.code,.int .i64 (x.cnt:Int),.func (.func x.fn) #[] #[.pointer (some ⟨bg,0,none⟩)]] 57)):=by
    have hc:(wq.alloc (.cells #[.int .i64 x.code,.int .i64 (x.cnt:Int),.nilFunc] 57)).cell? ⟨wq.heap.size,2,none⟩=some .nilFunc:=zr0 (ze rfl) rfl;rw [run_store _ _ _ _ _ rfl,hc]
    go_simp
   go_wp2;generalize hW0:wq.alloc (.cells #[.int .i64 x.code,.int .i64 (x.cnt:Int),.func (.func x.fn) #[] #[.pointer (some ⟨bg,0,none⟩)]] 57)=W0 at *;clear hW0
   go_loopw [15] (fun i wr=>∃ q:Nat,q≤x.cnt∧i = .int .i64 (q:Int)∧(∀ j,j < q→x.bad j=false)∧Below W0.heap.size W0 wr) (fun i _=>x.cnt - (intOf i).toNat)
   case atStart=>exact ⟨0,Nat.zero_le _,rfl,fun _ h=>absurd h (Nat.not_lt_zero _),Below.refl _ _⟩
   case round =>
    obtain ⟨q,hq,rfl,hno,hb⟩:=hrel;have HN:=yq hno;have HBW:=yq hb;have hz:=HZ.out
    have HXW:=yq ((hb.block wq.heap.size (by omega)).trans HXB.out)
    have HBT:=yq (HBX.out.trans (hb.mono HBX.out.size));clear hno hb
    by_cases hlq:q < x.cnt
    ·have HC:=yq (HFK.out q hlq HN.out wr HBT.out)
     have c0:wr.cell? ⟨wq.heap.size,0,none⟩=some (.int .i64 x.code):=zr0 HXW.out rfl;have c2:wr.cell? ⟨wq.heap.size,2,none⟩=some (.func (.func x.fn) #[] #[.pointer (some ⟨bg,0,none⟩)]):=zr0 HXW.out rfl
     have hqI:(q:Int) < (x.cnt:Int):=by omega
     rcases HFX.out with hfx|hfx|hfx|hfx|hfx|hfx|hfx|hfx
     all_goals (
      rw [hfx] at HC c2 ⊢;(go_wp2_with fail);refine HC.out.mono ?_;rintro e w1 ⟨rfl,hb1⟩;have HXV:=yq ((hb1.block wq.heap.size (Array.getElem?_eq_some_iff.1 HXW.out).1).trans HXW.out);have d0:w1.cell? ⟨wq.heap.size,0,none⟩=some (.int .i64 x.code):=zr0 HXV.out rfl;have HB1:=yq (HBW.out.trans (hb1.mono HBW.out.size));have HBF:=yq (HBT.out.trans (hb1.mono HBT.out.size));clear hb1 c0 c2
      cases hbad:x.bad q with
      | true =>
       have HE:=yq (HHIT.out q hlq hbad HN.out);go_wp2;go_ret2
       exact ⟨congrArg (fun p:Int × Int=>Ending.returned (Value.tuple #[.int .i64 p.1,.int .i64 p.2])) HE.out.symm,HBF.out⟩
      | false =>
       have HN1:=yq (show ∀ j,j < q+1→x.bad j=false from fun j hj=>by
        rcases Nat.lt_or_ge j q with h|h
        ·exact HN.out j h
        ·obtain rfl:j=q:=by omega
         exact hbad)
       go_wp2;go_roundw
       case rel=>exact ⟨q+1,by omega,by go_num,HN1.out,HB1.out⟩
       case measure=>simp [intOf];omega)
    ·obtain rfl:q=x.cnt:=by omega
     have HG1:=yq (HGN.out HN.out);go_wp2;go_roundw
     case rel=>exact ⟨k+1,by omega,by go_num,HG1.out,HBT.out⟩
     case measure=>simp [intOf];omega
  ·obtain rfl:k=L.length:=by omega
   have HE:=yq (zfu HG.out);go_wp2;go_ret2
   exact ⟨congrArg (fun p:Int × Int=>Ending.returned (Value.tuple #[.int .i64 p.1,.int .i64 p.2])) HE.out.symm,HB.out⟩
def zbj (g:DGrammar) (bad:Nat→Nat→Bool):List Chk:=[⟨1,1,17,bad 0⟩,⟨1,g.fl.length,19,bad 1⟩,⟨1,g.fm.length,21,bad 2⟩,⟨2,1,23,bad 3⟩,
 ⟨3,g.fm.length,25,bad 4⟩,⟨4,g.fm.length,27,bad 5⟩,⟨5,g.fm.length,29,bad 6⟩,⟨6,g.fm.length,31,bad 7⟩]
theorem zh3 {c0_0 c0_1:Nat} {a0 a1:Option Addr} (g:DGrammar) (bad:Nat→Nat→Bool) (w:World) (hs:g.fl.length≤1048576) (hr:g.fm.length≤1048576)
  (hF : ∀ k,k < 8 → ∀ i,i < ((zbj g bad).getD k default).cnt→(∀ q,q < k → ∀ i,i < ((zbj g bad).getD q default).cnt→((zbj g bad).getD q default).bad i=false)→(∀ j,j < i→((zbj g bad).getD k default).bad j=false) → ∀ W,Below w.heap.size w W→W.heap[w.heap.size]? = some (.cells #[.slice a0 g.fl.length c0_0,.slice a1 g.fm.length c0_1] 32) →
   Calls Tryz.prog ((zbj g bad).getD k default).fn #[.int .i64 (i:Int),.pointer (some ⟨w.heap.size,0,none⟩)] W fun e w'=>e = .returned (.bool (((zbj g bad).getD k default).bad i))∧Below W.heap.size W w') :
  Calls Tryz.prog 7 #[.agg #[.slice a0 g.fl.length c0_0,.slice a1 g.fm.length c0_1]] w fun e w'=>e = .returned (.tuple #[.int .i64 (zbd (zbj g bad)).1,.int .i64 (zbd (zbj g bad)).2])∧Below w.heap.size w w':=by
 have hmf : ∀ (fn:Fn) (first cap:Array Value) (w:World),(Instr.makeFunc fn first cap).run Tryz.prog w = .ok (.func fn first cap) w:=fun _ _ _ _=>rfl
 have HGB:=yq (show ((w.alloc (.cells #[.slice a0 g.fl.length c0_0,.slice a1 g.fm.length c0_1] 32)).alloc (.cells #[.int .i64 1,.int .i64 1,.func (.func 17) #[] #[.pointer (some ⟨w.heap.size,0,none⟩)],.int .i64 1,.int .i64 (g.fl.length:Int),.func (.func 19) #[] #[.pointer (some ⟨w.heap.size,0,none⟩)],.int .i64 1,.int .i64 (g.fm.length:Int),.func (.func 21) #[] #[.pointer (some ⟨w.heap.size,0,none⟩)],.int .i64 2,.int .i64 1,.func (.func 23) #[] #[.pointer (some ⟨w.heap.size,0,none⟩)],.int .i64 3,.int .i64 (g.fm.length:Int),.func (.func 25) #[] #[.pointer (some ⟨w.heap.size,0,none⟩)],.int .i64 4,.int .i64 (g.fm.length:Int),.func (.func 27) #[] #[.pointer (some ⟨w.heap.size,0,none⟩)],.int .i64 5,.int .i64 (g.fm.length:Int),.func (.func 29) #[] #[.pointer (some ⟨w.heap.size,0,none⟩)],.int .i64 6,.int .i64 (g.fm.length:Int),.func (.func 31) #[] #[.pointer (some ⟨w.heap.size,0,none⟩)]] 57)).heap[w.heap.size]? = some (.cells #[.slice a0 g.fl.length c0_0,.slice a1 g.fm.length c0_1] 32) from zn (by simp) (ze rfl))
 have HRB:=yq (show ((w.alloc (.cells #[.slice a0 g.fl.length c0_0,.slice a1 g.fm.length c0_1] 32)).alloc (.cells #[.int .i64 1,.int .i64 1,.func (.func 17) #[] #[.pointer (some ⟨w.heap.size,0,none⟩)],.int .i64 1,.int .i64 (g.fl.length:Int),.func (.func 19) #[] #[.pointer (some ⟨w.heap.size,0,none⟩)],.int .i64 1,.int .i64 (g.fm.length:Int),.func (.func 21) #[] #[.pointer (some ⟨w.heap.size,0,none⟩)],.int .i64 2,.int .i64 1,.func (.func 23) #[] #[.pointer (some ⟨w.heap.size,0,none⟩)],.int .i64 3,.int .i64 (g.fm.length:Int),.func (.func 25) #[] #[.pointer (some ⟨w.heap.size,0,none⟩)],.int .i64 4,.int .i64 (g.fm.length:Int),.func (.func 27) #[] #[.pointer (some ⟨w.heap.size,0,none⟩)],.int .i64 5,.int .i64 (g.fm.length:Int),.func (.func 29) #[] #[.pointer (some ⟨w.heap.size,0,none⟩)],.int .i64 6,.int .i64 (g.fm.length:Int),.func (.func 31) #[] #[.pointer (some ⟨w.heap.size,0,none⟩)]] 57)).heap[w.heap.size+1]? = some (.cells #[.int .i64 1,.int .i64 1,.func (.func 17) #[] #[.pointer (some ⟨w.heap.size,0,none⟩)],.int .i64 1,.int .i64 (g.fl.length:Int),.func (.func 19) #[] #[.pointer (some ⟨w.heap.size,0,none⟩)],.int .i64 1,.int .i64 (g.fm.length:Int),.func (.func 21) #[] #[.pointer (some ⟨w.heap.size,0,none⟩)],.int .i64 2,.int .i64 1,.func (.func 23) #[] #[.pointer (some ⟨w.heap.size,0,none⟩)],.int .i64 3,.int .i64 (g.fm.length:Int),.func (.func 25) #[] #[.pointer (some ⟨w.heap.size,0,none⟩)],.int .i64 4,.int .i64 (g.fm.length:Int),.func (.func 27) #[] #[.pointer (some ⟨w.heap.size,0,none⟩)],.int .i64 5,.int .i64 (g.fm.length:Int),.func (.func 29) #[] #[.pointer (some ⟨w.heap.size,0,none⟩)],.int .i64 6,.int .i64 (g.fm.length:Int),.func (.func 31) #[] #[.pointer (some ⟨w.heap.size,0,none⟩)]] 57) from ze (by simp))
 have HB:=yq (show Below w.heap.size w ((w.alloc (.cells #[.slice a0 g.fl.length c0_0,.slice a1 g.fm.length c0_1] 32)).alloc (.cells #[.int .i64 1,.int .i64 1,.func (.func 17) #[] #[.pointer (some ⟨w.heap.size,0,none⟩)],.int .i64 1,.int .i64 (g.fl.length:Int),.func (.func 19) #[] #[.pointer (some ⟨w.heap.size,0,none⟩)],.int .i64 1,.int .i64 (g.fm.length:Int),.func (.func 21) #[] #[.pointer (some ⟨w.heap.size,0,none⟩)],.int .i64 2,.int .i64 1,.func (.func 23) #[] #[.pointer (some ⟨w.heap.size,0,none⟩)],.int .i64 3,.int .i64 (g.fm.length:Int),.func (.func 25) #[] #[.pointer (some ⟨w.heap.size,0,none⟩)],.int .i64 4,.int .i64 (g.fm.length:Int),.func (.func 27) #[] #[.pointer (some ⟨w.heap.size,0,none⟩)],.int .i64 5,.int .i64 (g.fm.length:Int),.func (.func 29) #[] #[.pointer (some ⟨w.heap.size,0,none⟩)],.int .i64 6,.int .i64 (g.fm.length:Int),.func (.func 31) #[] #[.pointer (some ⟨w.heap.size,0,none⟩)]] 57)) from ((Below.refl _ _).alloc (Nat.le_refl _) _).alloc (by simp) _)
 have HZ:=yq (show ((w.alloc (.cells #[.slice a0 g.fl.length c0_0,.slice a1 g.fm.length c0_1] 32)).alloc (.cells #[.int .i64 1,.int .i64 1,.func (.func 17) #[] #[.pointer (some ⟨w.heap.size,0,none⟩)],.int .i64 1,.int .i64 (g.fl.length:Int),.func (.func 19) #[] #[.pointer (some ⟨w.heap.size,0,none⟩)],.int .i64 1,.int .i64 (g.fm.length:Int),.func (.func 21) #[] #[.pointer (some ⟨w.heap.size,0,none⟩)],.int .i64 2,.int .i64 1,.func (.func 23) #[] #[.pointer (some ⟨w.heap.size,0,none⟩)],.int .i64 3,.int .i64 (g.fm.length:Int),.func (.func 25) #[] #[.pointer (some ⟨w.heap.size,0,none⟩)],.int .i64 4,.int .i64 (g.fm.length:Int),.func (.func 27) #[] #[.pointer (some ⟨w.heap.size,0,none⟩)],.int .i64 5,.int .i64 (g.fm.length:Int),.func (.func 29) #[] #[.pointer (some ⟨w.heap.size,0,none⟩)],.int .i64 6,.int .i64 (g.fm.length:Int),.func (.func 31) #[] #[.pointer (some ⟨w.heap.size,0,none⟩)]] 57)).heap.size=w.heap.size+2 by simp)
 have HF:=yq hF;clear hF
 go_enter Tryz.func7,Tryz.ntmps7
 (go_wp2_with fail);generalize hW:(w.alloc (.cells #[.slice a0 g.fl.length c0_0,.slice a1 g.fm.length c0_1] 32)).alloc (.cells #[.int .i64 1,.int .i64 1,.func (.func 17) #[] #[.pointer (some ⟨w.heap.size,0,none⟩)],.int .i64 1,.int .i64 (g.fl.length:Int),.func (.func 19) #[] #[.pointer (some ⟨w.heap.size,0,none⟩)],.int .i64 1,.int .i64 (g.fm.length:Int),.func (.func 21) #[] #[.pointer (some ⟨w.heap.size,0,none⟩)],.int .i64 2,.int .i64 1,.func (.func 23) #[] #[.pointer (some ⟨w.heap.size,0,none⟩)],.int .i64 3,.int .i64 (g.fm.length:Int),.func (.func 25) #[] #[.pointer (some ⟨w.heap.size,0,none⟩)],.int .i64 4,.int .i64 (g.fm.length:Int),.func (.func 27) #[] #[.pointer (some ⟨w.heap.size,0,none⟩)],.int .i64 5,.int .i64 (g.fm.length:Int),.func (.func 29) #[] #[.pointer (some ⟨w.heap.size,0,none⟩)],.int .i64 6,.int .i64 (g.fm.length:Int),.func (.func 31) #[] #[.pointer (some ⟨w.heap.size,0,none⟩)]] 57)=W at *;clear hW
 refine (zhz (ba:=w.heap.size+1) (bg:=w.heap.size) (c:=8) (zbj g bad) (by show (8:Nat)≤1000;decide) ?hcn ?hfn W (by rw [HZ.out];omega) ?hrow ?hF).mono ?_
 case hcn =>
  intro k hk;have hk':k < 8:=hk
  match k,hk' with
  | 0,_=>show (1:Nat)≤1048576;decide
  | 1,_=>exact hs
  | 2,_=>exact hr
  | 3,_=>show (1:Nat)≤1048576;decide
  | 4,_=>exact hr
  | 5,_=>exact hr
  | 6,_=>exact hr
  | 7,_=>exact hr
 case hfn =>
  intro k hk;have hk':k < 8:=hk
  match k,hk' with
  | 0,_=>exact .inl rfl
  | 1,_=>exact .inr (.inl rfl)
  | 2,_=>exact .inr (.inr (.inl rfl))
  | 3,_=>exact .inr (.inr (.inr (.inl rfl)))
  | 4,_=>exact .inr (.inr (.inr (.inr (.inl rfl))))
  | 5,_=>exact .inr (.inr (.inr (.inr (.inr (.inl rfl)))))
  | 6,_=>exact .inr (.inr (.inr (.inr (.inr (.inr (.inl rfl))))))
  | 7,_=>exact .inr (.inr (.inr (.inr (.inr (.inr (.inr rfl))))))
 case hrow =>
  intro k hk;have hk':k < 8:=hk
  match k,hk' with
  | 0,_|1,_|2,_|3,_|4,_|5,_|6,_|7,_=>exact ⟨zr0 HRB.out rfl,zr0 HRB.out rfl,zr0 HRB.out rfl⟩
 case hF =>
  intro k hk i hi hg hj W' hW'
  exact HF.out k hk i hi hg hj W' (HB.out.trans (hW'.mono HB.out.size)) ((hW'.block w.heap.size (by rw [HZ.out];omega)).trans HGB.out)
 rintro e w' ⟨rfl,hb⟩;have HBF:=yq (HB.out.trans (hb.mono HB.out.size));clear hb;go_wp2;go_ret2;exact ⟨rfl,HBF.out⟩
def zbn (g:DGrammar):Bool:=decide (1≤g.fl.length∧g.fl.length≤4∧1≤g.fm.length∧g.fm.length≤8)
theorem zhr {c0_0 c0_1:Nat} {a0 a1:Option Addr} (g:DGrammar) (w:World) :
  Calls Tryz.prog 18 #[.agg #[.slice a0 g.fl.length c0_0,.slice a1 g.fm.length c0_1]] w fun e w'=>e = .returned (.bool (zbn g))∧Below w.heap.size w w':=by
 have HB:=yq (show Below w.heap.size w (w.alloc (.cells #[.slice a0 g.fl.length c0_0,.slice a1 g.fm.length c0_1] 32)) from (Below.refl _ _).alloc (Nat.le_refl _) _)
 have HS:=yq (show zbn g=decide (1≤g.fl.length∧g.fl.length≤4∧1≤g.fm.length∧g.fm.length≤8) from rfl)
 generalize zbn g=b at *;generalize g.fl.length=nS at *;generalize g.fm.length=nR at *
 by_cases h1:(1:Int)≤(nS:Int)
 ·by_cases h2:(nS:Int)≤4
  ·by_cases h3:(1:Int)≤(nR:Int)
   ·by_cases h4:(nR:Int)≤8
    ·have HE:=yq (HS.out.trans (decide_eq_true (by omega)))
     go_enter Tryz.func18,Tryz.ntmps18
     go_wp2
     go_quiet (fail)
     go_wp2;go_ret
     exact ⟨congrArg (fun q=>Ending.returned (Value.bool q)) HE.out.symm,below_drewN HB.out _⟩
    ·have HE:=yq (HS.out.trans (decide_eq_false (by omega)))
     go_enter Tryz.func18,Tryz.ntmps18
     go_wp2
     go_quiet (fail)
     go_wp2;go_ret
     exact ⟨congrArg (fun q=>Ending.returned (Value.bool q)) ((decide_eq_false (by omega)).trans HE.out.symm),below_drewN HB.out _⟩
   ·have HE:=yq (HS.out.trans (decide_eq_false (by omega)))
    go_enter Tryz.func18,Tryz.ntmps18
    go_wp2
    go_quiet (fail)
    go_wp2;go_ret
    exact ⟨congrArg (fun q=>Ending.returned (Value.bool q)) HE.out.symm,below_drewN HB.out _⟩
  ·have HE:=yq (HS.out.trans (decide_eq_false (by omega)))
   go_enter Tryz.func18,Tryz.ntmps18
   go_wp2
   go_quiet (fail)
   go_wp2;go_ret
   exact ⟨congrArg (fun q=>Ending.returned (Value.bool q)) HE.out.symm,below_drewN HB.out _⟩
 ·have HE:=yq (HS.out.trans (decide_eq_false (by omega)))
  go_enter Tryz.func18,Tryz.ntmps18
  go_wp2
  go_quiet (fail)
  go_wp2;go_ret
  exact ⟨congrArg (fun q=>Ending.returned (Value.bool q)) HE.out.symm,below_drewN HB.out _⟩
theorem zqn {bg c0_0 c0_1:Nat} {a0 a1:Option Addr} (g:DGrammar) (i:Int) (w:World) (hg:w.heap[bg]? = some (.cells #[.slice a0 g.fl.length c0_0,.slice a1 g.fm.length c0_1] 32)) :
  Calls Tryz.prog 17 #[.int .i64 i,.pointer (some ⟨bg,0,none⟩)] w fun e w'=>e = .returned (.bool (!zbn g))∧Below w.heap.size w w':=by
 have HC:=yq (zhr (c0_0:=c0_0) (c0_1:=c0_1) (a0:=a0) (a1:=a1) g w)
 have g0:w.cell? ⟨bg,0,none⟩=some (.slice a0 g.fl.length c0_0):=by simp only [World.cell?,hg];rfl
 have g1:w.cell? ⟨bg,1,none⟩=some (.slice a1 g.fm.length c0_1):=by simp only [World.cell?,hg];rfl
 clear hg
 go_enter Tryz.func17,Tryz.ntmps17
 (go_wp2_with fail);refine HC.out.mono ?_;rintro e w1 ⟨rfl,hb⟩;have HB:=yq hb;clear hb;go_wp2;go_ret;exact ⟨rfl,HB.out⟩
def zet (z:Int) (l:List DAttribute) (k:Nat):Prop:=∀ j,j < k→(l.getD j default).fv≠z
def zeh (z:Int) (l:List DAttribute):Bool:=decide (∃ j,j < l.length∧(l.getD j default).fv=z)
theorem znb {z:Int} {l:List DAttribute} {k:Nat} (hk:k < l.length) (h:(l.getD k default).fv=z):zeh z l=true:=decide_eq_true ⟨k,hk,h⟩
theorem zil {z:Int} {l:List DAttribute} (h:zet z l l.length):zeh z l=false:=decide_eq_false fun ⟨j,h1,h2⟩=>h j h1 h2
theorem zpb {lo hi c1:Nat} {a1:Option Addr} (nm:ByteArray) (l:List DAttribute) (hl:l.length≤1048576) (z:Int) (w:World) (hhi:hi≤w.heap.size) (hs:Sl lo hi w 4 l.length (fun k=>DAttribute.ct (l.getD k default)) a1) :
  Calls Tryz.prog 24 #[.agg #[.string nm,.slice a1 l.length c1],.int .i64 z] w fun e w'=>e = .returned (.bool (zeh z l))∧Below w.heap.size w w':=by
 have HB0:=yq (show Below w.heap.size w (w.alloc (.cells #[.string nm,.slice a1 l.length c1] 42)) from (Below.refl _ _).alloc (Nat.le_refl _) _)
 have HS:=yq (fun (W:World) (hW:Below w.heap.size w W)=>hs.later hW hhi)
 clear hs
 go_enter Tryz.func24,Tryz.ntmps24
 go_wp2
 go_loopw [10] (fun i wr=>∃ k:Nat,k≤l.length∧i = .int .i64 (k:Int)∧zet z l k∧Below w.heap.size w wr) (fun i _=>l.length - (intOf i).toNat)
 case atStart=>exact ⟨0,Nat.zero_le _,rfl,fun _ h=>absurd h (Nat.not_lt_zero _),HB0.out⟩
 case round =>
  obtain ⟨k,hk,rfl,hno,hb⟩:=hrel;have HN:=yq hno;have HB:=yq hb;clear hno
  by_cases hlt:k < l.length
  ·obtain ⟨b,off,rfl,_,_,hc⟩:=(HS.out wr hb).at k hlt
   obtain ⟨hc0,hc1,hc2,hc3⟩:=DAttribute.open hc;have hsz:=hb.size
   have hkI:(0:Int)≤(k:Int)∧(k:Int) < (l.length:Int):=by omega
   clear hb hc
   by_cases hm:(l.getD k default).fv=z
   ·have HE:=yq (znb hlt hm)
    rw [hm] at hc2;have e1:(z == z)=true:=beq_self_eq_true z
    have HW:=yq (fun (o:Obj)=>HB.out.trans (((Below.refl wr.heap.size wr).alloc (Nat.le_refl _) o).mono HB.out.size))
    clear hm;generalize l.getD k default=x at *;go_wp2;go_ret
    exact ⟨congrArg (fun q=>Ending.returned (Value.bool q)) HE.out.symm,HW.out _⟩
   ·have HN1:=yq (show zet z l (k+1) from fun j hj=>by
     rcases Nat.lt_or_ge j k with h|h
     ·exact HN.out j h
     ·obtain rfl:j=k:=by omega
      exact hm)
    have e1:((l.getD k default).fv == z)=false:=beq_eq_false_iff_ne.2 hm
    have HW:=yq (fun (o:Obj)=>HB.out.trans (((Below.refl wr.heap.size wr).alloc (Nat.le_refl _) o).mono HB.out.size))
    clear hm;generalize l.getD k default=x at *;go_wp2;go_roundw
    case rel=>exact ⟨k+1,by omega,by go_num,HN1.out,HW.out _⟩
    case measure=>simp [intOf];omega
  ·obtain rfl:k=l.length:=by omega
   have HE:=yq (zil HN.out);go_wp2;go_ret
   exact ⟨congrArg (fun q=>Ending.returned (Value.bool q)) HE.out.symm,HB.out⟩
theorem zqp {lo hi bg c0_0 c0_1:Nat} {a0 a1:Option Addr} (g:DGrammar) (i:Nat) (hi':i < g.fl.length) (hat:(g.fl.getD i default).fu.length≤1048576) (w:World) (hhi:hi≤w.heap.size) (hs0:Sl lo hi w 2 g.fl.length (fun k=>DSymbol.ct (g.fl.getD k default)) a0) (hg:w.heap[bg]? = some (.cells #[.slice a0 g.fl.length c0_0,.slice a1 g.fm.length c0_1] 32)) :
  Calls Tryz.prog 23 #[.int .i64 (i:Int),.pointer (some ⟨bg,0,none⟩)] w fun e w'=>e = .returned (.bool (zeh 1 (g.fl.getD i default).fu))∧Below w.heap.size w w':=by
 have g0:w.cell? ⟨bg,0,none⟩=some (.slice a0 g.fl.length c0_0):=by simp only [World.cell?,hg];rfl
 have hiI:(0:Int)≤(i:Int)∧(i:Int) < (g.fl.length:Int):=by omega
 obtain ⟨b,off,rfl,_,_,hc⟩:=hs0.at i hi';obtain ⟨a9,c9,h0,h1,hs9⟩:=DSymbol.open hc;have HC:=yq (zpb (c1:=c9) (g.fl.getD i default).fa (g.fl.getD i default).fu hat 1 w hhi hs9);clear hg hc hs9 hs0 hat;generalize g.fl.getD i default=x at *
 go_enter Tryz.func23,Tryz.ntmps23
 (go_wp2_with fail);refine HC.out.mono ?_;rintro e w1 ⟨rfl,hb⟩;have HB:=yq hb;clear hb;go_wp2;go_ret;exact ⟨rfl,HB.out⟩
theorem DRule.openS {lo hi b o:Nat} {w:World} {x:DRule} (h : ∀ j,j < 6 → ∃ u,w.cell? ⟨b,o+j,none⟩=some u∧Soft lo hi w (x.ct j) u) :
  ∃ a2 c2,∃ a4 c4,∃ a5 c5,w.cell? ⟨b,o,none⟩=some (.string x.fa)∧w.cell? ⟨b,o+1,none⟩=some (.string x.fp)∧w.cell? ⟨b,o+2,none⟩=some (.slice a2 x.fj.length c2)∧w.cell? ⟨b,o+3,none⟩=some (.bool x.fq)∧w.cell? ⟨b,o+4,none⟩=some (.slice a4 x.fg.length c4)∧w.cell? ⟨b,o+5,none⟩=some (.slice a5 x.fo.length c5)∧Sf lo hi w 1 x.fj.length (fun k=>ictS (x.fj.getD k default)) a2∧Sf lo hi w 9 x.fg.length (fun k=>DEquation.ct (x.fg.getD k default)) a4∧Sf lo hi w 16 x.fo.length (fun k=>DContribution.ct (x.fo.getD k default)) a5:=by
 obtain ⟨u0,hc0,hl0⟩:=h 0 (by decide)
 obtain rfl:=zv hl0
 obtain ⟨u1,hc1,hl1⟩:=h 1 (by decide)
 obtain rfl:=zv hl1
 obtain ⟨u2,hc2,hl2⟩:=h 2 (by decide)
 obtain ⟨a2,c2,rfl,hs2⟩:=zeg hl2
 obtain ⟨u3,hc3,hl3⟩:=h 3 (by decide)
 obtain rfl:=zv hl3
 obtain ⟨u4,hc4,hl4⟩:=h 4 (by decide)
 obtain ⟨a4,c4,rfl,hs4⟩:=zeg hl4
 obtain ⟨u5,hc5,hl5⟩:=h 5 (by decide)
 obtain ⟨a5,c5,rfl,hs5⟩:=zeg hl5;exact ⟨a2,c2,a4,c4,a5,c5,hc0,hc1,hc2,hc3,hc4,hc5,hs2,hs4,hs5⟩
theorem zk5 {lo hi:Nat} {a:Option Addr} {cap:Nat} (l:List DSymbol) (hsz:lsz DSymbol.sz l≤1048576) (w:World) (hhi:hi≤w.heap.size) (hs:Sl lo hi w 2 l.length (fun k=>DSymbol.ct (l.getD k default)) a) :
  Calls Tryz.prog 14 #[.slice a l.length cap] w fun e w'=>∃ a' cap',(e = .returned (.slice a' l.length cap')∧l.length≤cap')∧Own w' (fun x=>w.heap.size≤x∧x < w'.heap.size) (.sl 2 l.length (fun k=>DSymbol.ct (l.getD k default))) (.slice a' l.length cap')∧Below w.heap.size w w':=by
 have HS:=yq hs;clear hs;have HW:=yq hsz
 have hn:l.length≤1048576:=by unfold lsz at hsz;omega
 clear hsz;obtain ⟨i0,hi',hz0,hz1,hz2⟩:=info_parts zl1
 go_enter Tryz.func14,Tryz.ntmps14
 go_wp2_with (at_make;refine wpList_make_full _ rfl (.tmp 6) (.tmp 6) 29 rfl w.heap.size 42 i0 (.agg #[.string ⟨#[]⟩,.slice none 0 0]) 2 Tryz.underlying29 hi' hz0 hz1 .i64 .i64 (l.length:Int) (l.length:Int) l.length rfl rfl rfl rfl (by rw [hz2];omega) yl (Nat.le_refl _) ?_;intro w1 hown hgrow)
 have hb1:Below w.heap.size w w1:=(Below.refl _ w).grown hgrow (Nat.le_refl _) (fun k hk=>by cases hk)
 clear hgrow;have hblk:=(zak hown).1
 go_loopw [4] (fun i wr=>∃ (k:Nat) (xs:List Value),k≤l.length∧i = .int .i64 (k:Int)∧wr.ownsRow w.heap.size 42 2 (.slice (some ⟨w.heap.size,0,none⟩) l.length l.length) l.length xs∧za7 w.heap.size wr 2 k (fun k=>DSymbol.ct (l.getD k default)) xs∧Below w.heap.size w wr) (fun i _=>l.length - (intOf i).toNat)
 case atStart=>exact ⟨0,_,Nat.zero_le _,rfl,hown,za7.zero hblk,hb1⟩
 case round =>
  clear hown hb1 hblk;obtain ⟨k,xs,hk,rfl,hown,hfill,hb⟩:=hrel;have hblk:=zak hown;have HO:=yq hown;have HF:=yq hfill;have HB:=yq hb;clear hown hfill
  by_cases hlt:k < l.length
  ·have hhr:hi≤wr.heap.size:=Nat.le_trans hhi hb.size
   obtain ⟨b,off,rfl,hlo,hhi',hc⟩:=(HS.out.later (hb.mono hhi) (Nat.le_refl _)).at k hlt;obtain ⟨a1,c1,hc0_,hc1_,hs1⟩:=DSymbol.open hc
   have hkn:k * 2+2≤l.length * 2:=by omega
   have d0:=hblk.2.2.1 (k * 2) (by omega)
   have z0:=hblk.2.2.2 (k * 2)
   have d1:=hblk.2.2.1 (k * 2+1) (by omega)
   have z1:=hblk.2.2.2 (k * 2+1);have hsz:=hblk.1;clear hblk hb hc;have hxs:=zab (f:=DSymbol.sz) l k hlt;generalize hx:l.getD k default=x at *;have HX:=yq hx;clear hx;generalize xs.getD (k * 2) Value.nilFunc=v0 at d0;generalize xs.getD (k * 2+1) Value.nilFunc=v1 at d1
   have HT:=yq (zov (c1:=c1) x (by have h1:=HW.out;omega) wr hhr hs1)
   clear hxs hs1;(go_wp2_with fail);refine HT.out.mono ?_;rintro e w1 ⟨a1r,c1r,rfl,ho1,hb1⟩;have HOR:=yq ho1;clear ho1;have e0:=(hb1.cell (p:=⟨w.heap.size,k * 2,none⟩) hsz).trans d0;have y0:=(hb1.frozen (p:=⟨w.heap.size,k * 2,none⟩) hsz).trans z0;have e1:=(hb1.cell (p:=⟨w.heap.size,k * 2+1,none⟩) hsz).trans d1;have y1:=(hb1.frozen (p:=⟨w.heap.size,k * 2+1,none⟩) hsz).trans z1;have HB1:=yq hb1;clear hb1 d0 z0 d1 z1;go_wp2;go_roundw
   case rel =>
    have hst:=HF.out.stored HB1.out hsz (zl HO.out HB1.out) hlt [.string x.fa,.slice a1r x.fu.length c1r] rfl ((by rw [HX.out];exact HOR.out))
    exact ⟨k+1,_,by omega,by go_num,hst.1,hst.2,za8 (Nat.le_refl _) [_,_] _ (HB.out.trans (HB1.out.mono HB.out.size))⟩
   case measure=>simp [intOf];omega
  ·obtain rfl:k=l.length:=by omega
   go_wp2;go_ret;exact ⟨_,_,⟨rfl,Nat.le_refl _⟩,HF.out.own hblk.1 hblk.2.2.1 hblk.2.2.2,hb⟩
theorem zo1 {lo hi:Nat} {a:Option Addr} {cap:Nat} (l:List DRule) (hsz:lsz DRule.sz l≤1048576) (w:World) (hhi:hi≤w.heap.size) (hs:Sl lo hi w 6 l.length (fun k=>DRule.ct (l.getD k default)) a) :
  Calls Tryz.prog 15 #[.slice a l.length cap] w fun e w'=>∃ a' cap',(e = .returned (.slice a' l.length cap')∧l.length≤cap')∧Own w' (fun x=>w.heap.size≤x∧x < w'.heap.size) (.sl 6 l.length (fun k=>DRule.ct (l.getD k default))) (.slice a' l.length cap')∧Below w.heap.size w w':=by
 have HS:=yq hs;clear hs;have HW:=yq hsz
 have hn:l.length≤1048576:=by unfold lsz at hsz;omega
 clear hsz;obtain ⟨i0,hi',hz0,hz1,hz2⟩:=info_parts zqi
 go_enter Tryz.func15,Tryz.ntmps15
 go_wp2_with (at_make;refine wpList_make_full _ rfl (.tmp 6) (.tmp 6) 30 rfl w.heap.size 50 i0 (.agg #[.string ⟨#[]⟩,.string ⟨#[]⟩,.slice none 0 0,.bool false,.slice none 0 0,.slice none 0 0]) 6 Tryz.underlying30 hi' hz0 hz1 .i64 .i64 (l.length:Int) (l.length:Int) l.length rfl rfl rfl rfl (by rw [hz2];omega) yl (Nat.le_refl _) ?_;intro w1 hown hgrow)
 have hb1:Below w.heap.size w w1:=(Below.refl _ w).grown hgrow (Nat.le_refl _) (fun k hk=>by cases hk)
 clear hgrow;have hblk:=(zak hown).1
 go_loopw [4] (fun i wr=>∃ (k:Nat) (xs:List Value),k≤l.length∧i = .int .i64 (k:Int)∧wr.ownsRow w.heap.size 50 6 (.slice (some ⟨w.heap.size,0,none⟩) l.length l.length) l.length xs∧za7 w.heap.size wr 6 k (fun k=>DRule.ct (l.getD k default)) xs∧Below w.heap.size w wr) (fun i _=>l.length - (intOf i).toNat)
 case atStart=>exact ⟨0,_,Nat.zero_le _,rfl,hown,za7.zero hblk,hb1⟩
 case round =>
  clear hown hb1 hblk;obtain ⟨k,xs,hk,rfl,hown,hfill,hb⟩:=hrel;have hblk:=zak hown;have HO:=yq hown;have HF:=yq hfill;have HB:=yq hb;clear hown hfill
  by_cases hlt:k < l.length
  ·have hhr:hi≤wr.heap.size:=Nat.le_trans hhi hb.size
   obtain ⟨b,off,rfl,hlo,hhi',hc⟩:=(HS.out.later (hb.mono hhi) (Nat.le_refl _)).at k hlt;obtain ⟨a2,c2,a4,c4,a5,c5,hc0_,hc1_,hc2_,hc3_,hc4_,hc5_,hs2,hs4,hs5⟩:=DRule.open hc
   have hkn:k * 6+6≤l.length * 6:=by omega
   have d0:=hblk.2.2.1 (k * 6) (by omega)
   have z0:=hblk.2.2.2 (k * 6)
   have d1:=hblk.2.2.1 (k * 6+1) (by omega)
   have z1:=hblk.2.2.2 (k * 6+1)
   have d2:=hblk.2.2.1 (k * 6+2) (by omega)
   have z2:=hblk.2.2.2 (k * 6+2)
   have d3:=hblk.2.2.1 (k * 6+3) (by omega)
   have z3:=hblk.2.2.2 (k * 6+3)
   have d4:=hblk.2.2.1 (k * 6+4) (by omega)
   have z4:=hblk.2.2.2 (k * 6+4)
   have d5:=hblk.2.2.1 (k * 6+5) (by omega)
   have z5:=hblk.2.2.2 (k * 6+5);have hsz:=hblk.1;clear hblk hb hc;have hxs:=zab (f:=DRule.sz) l k hlt;generalize hx:l.getD k default=x at *;have HX:=yq hx;clear hx;generalize xs.getD (k * 6) Value.nilFunc=v0 at d0;generalize xs.getD (k * 6+1) Value.nilFunc=v1 at d1;generalize xs.getD (k * 6+2) Value.nilFunc=v2 at d2;generalize xs.getD (k * 6+3) Value.nilFunc=v3 at d3;generalize xs.getD (k * 6+4) Value.nilFunc=v4 at d4;generalize xs.getD (k * 6+5) Value.nilFunc=v5 at d5
   have HT:=yq (zq0 (c2:=c2) (c4:=c4) (c5:=c5) x (by have h1:=HW.out;omega) wr hhr hs2 hs4 hs5)
   clear hxs hs2 hs4 hs5;(go_wp2_with fail);refine HT.out.mono ?_;rintro e w1 ⟨a2r,c2r,a4r,c4r,a5r,c5r,rfl,ho1,hb1⟩;have HOR:=yq ho1;clear ho1;have e0:=(hb1.cell (p:=⟨w.heap.size,k * 6,none⟩) hsz).trans d0;have y0:=(hb1.frozen (p:=⟨w.heap.size,k * 6,none⟩) hsz).trans z0;have e1:=(hb1.cell (p:=⟨w.heap.size,k * 6+1,none⟩) hsz).trans d1;have y1:=(hb1.frozen (p:=⟨w.heap.size,k * 6+1,none⟩) hsz).trans z1;have e2:=(hb1.cell (p:=⟨w.heap.size,k * 6+2,none⟩) hsz).trans d2;have y2:=(hb1.frozen (p:=⟨w.heap.size,k * 6+2,none⟩) hsz).trans z2;have e3:=(hb1.cell (p:=⟨w.heap.size,k * 6+3,none⟩) hsz).trans d3;have y3:=(hb1.frozen (p:=⟨w.heap.size,k * 6+3,none⟩) hsz).trans z3;have e4:=(hb1.cell (p:=⟨w.heap.size,k * 6+4,none⟩) hsz).trans d4;have y4:=(hb1.frozen (p:=⟨w.heap.size,k * 6+4,none⟩) hsz).trans z4;have e5:=(hb1.cell (p:=⟨w.heap.size,k * 6+5,none⟩) hsz).trans d5;have y5:=(hb1.frozen (p:=⟨w.heap.size,k * 6+5,none⟩) hsz).trans z5;have HB1:=yq hb1;clear hb1 d0 z0 d1 z1 d2 z2 d3 z3 d4 z4 d5 z5;go_wp2;go_roundw
   case rel =>
    have hst:=HF.out.stored HB1.out hsz (zl HO.out HB1.out) hlt [.string x.fa,.string x.fp,.slice a2r x.fj.length c2r,.bool x.fq,.slice a4r x.fg.length c4r,.slice a5r x.fo.length c5r] rfl ((by rw [HX.out];exact HOR.out))
    exact ⟨k+1,_,by omega,by go_num,hst.1,hst.2,za8 (Nat.le_refl _) [_,_,_,_,_,_] _ (HB.out.trans (HB1.out.mono HB.out.size))⟩
   case measure=>simp [intOf];omega
  ·obtain rfl:k=l.length:=by omega
   go_wp2;go_ret;exact ⟨_,_,⟨rfl,Nat.le_refl _⟩,HF.out.own hblk.1 hblk.2.2.1 hblk.2.2.2,hb⟩
theorem zdg {lo hi:Nat} {a0:Option Addr} {c0:Nat} {a1:Option Addr} {c1:Nat} (x:DGrammar) (hsz:x.sz≤1048576) (w:World) (hhi:hi≤w.heap.size) (hs0:Sl lo hi w 2 x.fl.length (fun k=>DSymbol.ct (x.fl.getD k default)) a0) (hs1:Sl lo hi w 6 x.fm.length (fun k=>DRule.ct (x.fm.getD k default)) a1) :
  Calls Tryz.prog 6 #[.agg #[.slice a0 x.fl.length c0,.slice a1 x.fm.length c1]] w fun e w'=>∃ a0r c0r a1r c1r,(e = .returned (.agg #[.slice a0r x.fl.length c0r,.slice a1r x.fm.length c1r])∧x.fl.length≤c0r∧x.fm.length≤c1r)∧OwnR w' (fun y=>w.heap.size≤y∧y < w'.heap.size) 2 x.ct (fun j=>[.slice a0r x.fl.length c0r,.slice a1r x.fm.length c1r].getD j .nilFunc)∧Below w.heap.size w w':=by
 have HS0:=yq hs0;have HS1:=yq hs1;clear hs0 hs1;have HW:=yq hsz;clear hsz;have HB0:=yq (((((Below.refl w.heap.size w).alloc (Nat.le_refl _) (.cells #[.slice a0 x.fl.length c0,.slice a1 x.fm.length c1] 25)).alloc ye (.cells #[.slice none 0 0,.slice none 0 0] 32))).alloc ye (.cells #[.slice none 0 0,.slice none 0 0] 32))
 have HSZ0:=yq (show w.heap.size+2 < (((w.alloc (.cells #[.slice a0 x.fl.length c0,.slice a1 x.fm.length c1] 25)).alloc (.cells #[.slice none 0 0,.slice none 0 0] 32)).alloc (.cells #[.slice none 0 0,.slice none 0 0] 32)).heap.size by simp)
 have ht0:=fun (w':World) (hhi:hi≤w'.heap.size) (hs:Sl lo hi w' 2 x.fl.length (fun k=>DSymbol.ct (x.fl.getD k default)) a0)=>zk5 (cap:=c0) x.fl (by have h:=HW.out;unfold DGrammar.sz at h;omega) w' hhi hs
 have HT0:=yq ht0;clear ht0
 have ht1:=fun (w':World) (hhi:hi≤w'.heap.size) (hs:Sl lo hi w' 6 x.fm.length (fun k=>DRule.ct (x.fm.getD k default)) a1)=>zo1 (cap:=c1) x.fm (by have h:=HW.out;unfold DGrammar.sz at h;omega) w' hhi hs
 have HT1:=yq ht1;clear ht1
 go_enter Tryz.func6,Tryz.ntmps6
 (go_wp2_with fail)
 refine (HT0.out _ (Nat.le_trans hhi (Below.size ((by repeat (first|(with_reducible exact HB0.out)|(with_reducible exact Below.refl _ _)|(refine Below.setCell ?_ ye _)|(refine Below.alloc ?_ ye _)):Below w.heap.size w _)))) (HS0.out.later ((by repeat (first|(with_reducible exact HB0.out)|(with_reducible exact Below.refl _ _)|(refine Below.setCell ?_ ye _)|(refine Below.alloc ?_ ye _)):Below w.heap.size w _)) hhi)).mono ?_
 rintro e w1 ⟨a0r,c0r,⟨rfl,hcap0⟩,ho1,hb1⟩;have HCAP0:=yq hcap0;clear hcap0
 have hsz1:w.heap.size+2 < w1.heap.size:=Nat.lt_of_lt_of_le (by have h:=HSZ0.out;first|(with_reducible exact h)|(simp;done)|(simp;omega)|(simp [World.setCell];omega)) hb1.size
 have hlo1:w.heap.size+3≤w1.heap.size:=Nat.le_trans yk hb1.size
 have hbw1:Below w.heap.size w w1:=Below.trans ((by repeat (first|(with_reducible exact HB0.out)|(with_reducible exact Below.refl _ _)|(refine Below.setCell ?_ ye _)|(refine Below.alloc ?_ ye _)):Below w.heap.size w _)) (hb1.mono (Below.size ((by repeat (first|(with_reducible exact HB0.out)|(with_reducible exact Below.refl _ _)|(refine Below.setCell ?_ ye _)|(refine Below.alloc ?_ ye _)):Below w.heap.size w _))))
 have HO1_1:=yq (ho1.sub (F':=fun y=>w.heap.size+3≤y∧y < w1.heap.size) (fun y hy=>⟨Nat.le_trans yj hy.1,hy.2⟩))
 clear ho1
 have x1_0_1:w1.cell? ⟨w.heap.size,1,none⟩=some (.slice a1 x.fm.length c1):=(hb1.cell (p:=⟨w.heap.size,1,none⟩) yd).trans (by go_simp)
 have x1_1_0:w1.cell? ⟨w.heap.size+1,0,none⟩=some (.slice none 0 0):=(hb1.cell (p:=⟨w.heap.size+1,0,none⟩) yd).trans (by go_simp)
 have z1_1_0:w1.frozen? ⟨w.heap.size+1,0,none⟩=false:=(hb1.frozen (p:=⟨w.heap.size+1,0,none⟩) yd).trans (by go_simp)
 have x1_1_1:w1.cell? ⟨w.heap.size+1,1,none⟩=some (.slice none 0 0):=(hb1.cell (p:=⟨w.heap.size+1,1,none⟩) yd).trans (by go_simp)
 have z1_1_1:w1.frozen? ⟨w.heap.size+1,1,none⟩=false:=(hb1.frozen (p:=⟨w.heap.size+1,1,none⟩) yd).trans (by go_simp)
 have x1_2_0:w1.cell? ⟨w.heap.size+2,0,none⟩=some (.slice none 0 0):=(hb1.cell (p:=⟨w.heap.size+2,0,none⟩) yd).trans (by go_simp)
 have z1_2_0:w1.frozen? ⟨w.heap.size+2,0,none⟩=false:=(hb1.frozen (p:=⟨w.heap.size+2,0,none⟩) yd).trans (by go_simp)
 have x1_2_1:w1.cell? ⟨w.heap.size+2,1,none⟩=some (.slice none 0 0):=(hb1.cell (p:=⟨w.heap.size+2,1,none⟩) yd).trans (by go_simp)
 have z1_2_1:w1.frozen? ⟨w.heap.size+2,1,none⟩=false:=(hb1.frozen (p:=⟨w.heap.size+2,1,none⟩) yd).trans (by go_simp)
 have HG1:=yq (show w1.heap[w.heap.size+1]? = some (.cells #[.slice none 0 0,.slice none 0 0] 32) from (hb1.block _ yd).trans (by (repeat (refine zaj (by simp) ?_));exact zn (by simp) (ze (by simp))))
 have HB1:=yq hbw1;have HSZ1:=yq hsz1;have HLO1:=yq hlo1;clear hb1 hbw1 hsz1 hlo1;(go_wp2_with fail)
 refine (HT1.out _ (Nat.le_trans hhi (Below.size ((by repeat (first|(with_reducible exact HB1.out)|(with_reducible exact Below.refl _ _)|(refine Below.setCell ?_ ye _)|(refine Below.alloc ?_ ye _)):Below w.heap.size w _)))) (HS1.out.later ((by repeat (first|(with_reducible exact HB1.out)|(with_reducible exact Below.refl _ _)|(refine Below.setCell ?_ ye _)|(refine Below.alloc ?_ ye _)):Below w.heap.size w _)) hhi)).mono ?_
 rintro e w2 ⟨a1r,c1r,⟨rfl,hcap1⟩,ho2,hb2⟩;have HCAP1:=yq hcap1;clear hcap1
 have hsz2:w.heap.size+2 < w2.heap.size:=Nat.lt_of_lt_of_le (by have h:=HSZ1.out;first|(with_reducible exact h)|(simp;done)|(simp;omega)|(simp [World.setCell];omega)) hb2.size
 have hlo2:w1.heap.size≤w2.heap.size:=Nat.le_trans yk hb2.size
 have hbw2:Below w.heap.size w w2:=Below.trans ((by repeat (first|(with_reducible exact HB1.out)|(with_reducible exact Below.refl _ _)|(refine Below.setCell ?_ ye _)|(refine Below.alloc ?_ ye _)):Below w.heap.size w _)) (hb2.mono (Below.size ((by repeat (first|(with_reducible exact HB1.out)|(with_reducible exact Below.refl _ _)|(refine Below.setCell ?_ ye _)|(refine Below.alloc ?_ ye _)):Below w.heap.size w _))))
 have HO1_2:=yq (HO1_1.out.kept (Kept.trans (by repeat (first|(with_reducible exact Kept.refl)|(refine Kept.put ?_ (by rintro ⟨h1,h2⟩;dsimp only at h1;have h3:=HSZ0.out;omega)))) (Kept.of_below_all hb2)))
 clear HO1_1
 have HO2_2:=yq (ho2.sub (F':=fun y=>w1.heap.size≤y∧y < w2.heap.size) (fun y hy=>⟨Nat.le_trans yj hy.1,hy.2⟩))
 clear ho2;have hsp:=HSZ1.out
 have x2_1_0:w2.cell? ⟨w.heap.size+1,0,none⟩=some (.slice none 0 0):=(hb2.cell (p:=⟨w.heap.size+1,0,none⟩) yd).trans (by go_simp)
 have z2_1_0:w2.frozen? ⟨w.heap.size+1,0,none⟩=false:=(hb2.frozen (p:=⟨w.heap.size+1,0,none⟩) yd).trans (by go_simp)
 have x2_1_1:w2.cell? ⟨w.heap.size+1,1,none⟩=some (.slice none 0 0):=(hb2.cell (p:=⟨w.heap.size+1,1,none⟩) yd).trans (by go_simp)
 have z2_1_1:w2.frozen? ⟨w.heap.size+1,1,none⟩=false:=(hb2.frozen (p:=⟨w.heap.size+1,1,none⟩) yd).trans (by go_simp)
 have x2_2_0:w2.cell? ⟨w.heap.size+2,0,none⟩=some (.slice a0r x.fl.length c0r):=(hb2.cell (p:=⟨w.heap.size+2,0,none⟩) yd).trans (by go_simp)
 have z2_2_0:w2.frozen? ⟨w.heap.size+2,0,none⟩=false:=(hb2.frozen (p:=⟨w.heap.size+2,0,none⟩) yd).trans (by go_simp)
 have x2_2_1:w2.cell? ⟨w.heap.size+2,1,none⟩=some (.slice none 0 0):=(hb2.cell (p:=⟨w.heap.size+2,1,none⟩) yd).trans (by go_simp)
 have z2_2_1:w2.frozen? ⟨w.heap.size+2,1,none⟩=false:=(hb2.frozen (p:=⟨w.heap.size+2,1,none⟩) yd).trans (by go_simp)
 have HG2:=yq (show w2.heap[w.heap.size+1]? = some (.cells #[.slice none 0 0,.slice none 0 0] 32) from (hb2.block _ yd).trans (by repeat (first|(with_reducible exact HG1.out)|(refine zaj (by simp) ?_))))
 have HB2:=yq hbw2;have HSZ2:=yq hsz2;have HLO2:=yq hlo2;clear hb2 hbw2 hsz2 hlo2 hsp;clear x1_0_1 x1_1_0 x1_1_1 x1_2_0 x1_2_1 z1_1_0 z1_1_1 z1_2_0 z1_2_1;go_wp2
 refine bodyPost_ret (v:=.agg #[.slice a0r x.fl.length c0r,.slice a1r x.fm.length c1r]) (results_cell_row Tryz.results6 _ _ (w.heap.size+1) 32 #[.slice a0r x.fl.length c0r,.slice a1r x.fm.length c1r] (0,0) _ rfl (by refine Eq.trans (zm (cs:=#[.slice a0r x.fl.length c0r,.slice none 0 0]) (t:=32) (fr:=(0,0)) ?_) rfl;refine Eq.trans (zm (cs:=#[.slice none 0 0,.slice none 0 0]) (t:=32) (fr:=(0,0)) ?_) rfl;repeat (first|(with_reducible exact HG2.out)|(refine zaj (by simp) ?_))) Tryz.underlying32 rfl rfl) rfl ⟨a0r,c0r,a1r,c1r,⟨rfl,HCAP0.out,HCAP1.out⟩,?_,(by repeat (first|(with_reducible exact HB2.out)|(with_reducible exact Below.refl _ _)|(refine Below.setCell ?_ ye _)|(refine Below.alloc ?_ ye _)):Below w.heap.size w _)⟩
 have ho1:=HO1_2.out;clear HO1_2;have ho2:=HO2_2.out;clear HO2_2;have q1:=HLO1.out;have q2:=HLO2.out;skip;skip
 have hkk : ∀ w9:World,Kept (fun y=>w.heap.size+3≤y) w2 w9→OwnR w9 (fun y=>w.heap.size≤y∧y < w2.heap.size) 2 x.ct (fun j=>[.slice a0r x.fl.length c0r,.slice a1r x.fm.length c1r].getD j .nilFunc):=fun w9 hk=>by
  refine OwnR.append (F1:=fun y=>w.heap.size+3≤y∧y < w1.heap.size) (F2:=fun y=>w1.heap.size≤y∧y < w2.heap.size) (m:=1) (n:=1) ?_ ?_ yo ym ym
  ·skip
   exact OwnR.one (ho1.kept (hk.sub fun y hy=>by have h:=hy.1;omega))
  ·skip
   exact OwnR.one (ho2.kept (hk.sub fun y hy=>by have h:=hy.1;omega))
 refine (hkk _ (by repeat (first|(with_reducible exact Kept.refl)|(refine Kept.put ?_ (by intro h1;dsimp only at h1;omega))))).sub (fun y hy=>⟨hy.1,Nat.lt_of_lt_of_le hy.2 (by simp)⟩)
end Go.Proofs.YtmbaajangkmjdaaGreat
