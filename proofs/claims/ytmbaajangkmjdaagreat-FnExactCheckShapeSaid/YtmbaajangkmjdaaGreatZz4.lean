/-
  The type Contribution of the laws: its data, and the contracts of the laws' own helpers on it.
  The laws' own helpers on []string.
  The type Rule of the laws: its data, and the contracts of the laws' own helpers on it.
  The test of a range.
  Chapter 3, small things: Saturate and the helpers on integers that it calls.
  SymbolAt, in the model and in the program.
-/
import Derived.Test.YtmbaajangkmjdaaGreatZz3
set_option maxHeartbeats 6400000
set_option maxRecDepth 100000
namespace Go.Proofs.YtmbaajangkmjdaaGreat
open Go.ChangeShapes Go.WideShapes Go.ChangeAt Go.RowKit Go.Deep
structure DContribution where
 fd:ByteArray
 fa:ByteArray
 fe:DExpr
 ff:DExpr
 deriving Inhabited
def DContribution.ct (x:DContribution):Nat→Ct
 | 0=>.lit (.string x.fd)
 | 1=>.lit (.string x.fa)
 | 2=>.lit (.int .i64 x.fe.fh)
 | 3=>.lit (.int .i64 x.fe.fN)
 | 4=>.lit (.int .i64 x.fe.fb)
 | 5=>.lit (.int .i64 x.fe.fk)
 | 6=>.lit (.string x.fe.fd)
 | 7=>.lit (.string x.fe.fa)
 | 8=>.sl 7 x.fe.fc.length (ctE x.fe.fc)
 | 9=>.lit (.int .i64 x.ff.fh)
 | 10=>.lit (.int .i64 x.ff.fN)
 | 11=>.lit (.int .i64 x.ff.fb)
 | 12=>.lit (.int .i64 x.ff.fk)
 | 13=>.lit (.string x.ff.fd)
 | 14=>.lit (.string x.ff.fa)
 | 15=>.sl 7 x.ff.fc.length (ctE x.ff.fc)
 | _=>.lit .nilFunc
def DContribution.ok (x:DContribution):Prop:=okS x.fd∧okS x.fa∧DExpr.ok x.fe∧DExpr.ok x.ff
def DContribution.sz (x:DContribution):Nat:=x.fd.size+x.fa.size+DExpr.sz x.fe+DExpr.sz x.ff
theorem DContribution.open {lo hi b o:Nat} {w:World} {x:DContribution} (h : ∀ j,j < 16 → ∃ u,w.cell? ⟨b,o+j,none⟩=some u∧Lies lo hi w (x.ct j) u) :
  ∃ a8 c8,∃ a15 c15,w.cell? ⟨b,o,none⟩=some (.string x.fd)∧w.cell? ⟨b,o+1,none⟩=some (.string x.fa)∧w.cell? ⟨b,o+2,none⟩=some (.int .i64 x.fe.fh)∧w.cell? ⟨b,o+3,none⟩=some (.int .i64 x.fe.fN)∧w.cell? ⟨b,o+4,none⟩=some (.int .i64 x.fe.fb)∧w.cell? ⟨b,o+5,none⟩=some (.int .i64 x.fe.fk)∧w.cell? ⟨b,o+6,none⟩=some (.string x.fe.fd)∧w.cell? ⟨b,o+7,none⟩=some (.string x.fe.fa)∧w.cell? ⟨b,o+8,none⟩=some (.slice a8 x.fe.fc.length c8)∧w.cell? ⟨b,o+9,none⟩=some (.int .i64 x.ff.fh)∧w.cell? ⟨b,o+10,none⟩=some (.int .i64 x.ff.fN)∧w.cell? ⟨b,o+11,none⟩=some (.int .i64 x.ff.fb)∧w.cell? ⟨b,o+12,none⟩=some (.int .i64 x.ff.fk)∧w.cell? ⟨b,o+13,none⟩=some (.string x.ff.fd)∧w.cell? ⟨b,o+14,none⟩=some (.string x.ff.fa)∧w.cell? ⟨b,o+15,none⟩=some (.slice a15 x.ff.fc.length c15)∧Sl lo hi w 7 x.fe.fc.length (ctE x.fe.fc) a8∧Sl lo hi w 7 x.ff.fc.length (ctE x.ff.fc) a15:=by
 obtain ⟨u0,hc0,hl0⟩:=h 0 (by decide)
 obtain rfl:=zr hl0
 obtain ⟨u1,hc1,hl1⟩:=h 1 (by decide)
 obtain rfl:=zr hl1
 obtain ⟨u2,hc2,hl2⟩:=h 2 (by decide)
 obtain rfl:=zr hl2
 obtain ⟨u3,hc3,hl3⟩:=h 3 (by decide)
 obtain rfl:=zr hl3
 obtain ⟨u4,hc4,hl4⟩:=h 4 (by decide)
 obtain rfl:=zr hl4
 obtain ⟨u5,hc5,hl5⟩:=h 5 (by decide)
 obtain rfl:=zr hl5
 obtain ⟨u6,hc6,hl6⟩:=h 6 (by decide)
 obtain rfl:=zr hl6
 obtain ⟨u7,hc7,hl7⟩:=h 7 (by decide)
 obtain rfl:=zr hl7
 obtain ⟨u8,hc8,hl8⟩:=h 8 (by decide)
 obtain ⟨a8,c8,rfl,hs8⟩:=zc6 hl8
 obtain ⟨u9,hc9,hl9⟩:=h 9 (by decide)
 obtain rfl:=zr hl9
 obtain ⟨u10,hc10,hl10⟩:=h 10 (by decide)
 obtain rfl:=zr hl10
 obtain ⟨u11,hc11,hl11⟩:=h 11 (by decide)
 obtain rfl:=zr hl11
 obtain ⟨u12,hc12,hl12⟩:=h 12 (by decide)
 obtain rfl:=zr hl12
 obtain ⟨u13,hc13,hl13⟩:=h 13 (by decide)
 obtain rfl:=zr hl13
 obtain ⟨u14,hc14,hl14⟩:=h 14 (by decide)
 obtain rfl:=zr hl14
 obtain ⟨u15,hc15,hl15⟩:=h 15 (by decide)
 obtain ⟨a15,c15,rfl,hs15⟩:=zc6 hl15;exact ⟨a8,c8,a15,c15,hc0,hc1,hc2,hc3,hc4,hc5,hc6,hc7,hc8,hc9,hc10,hc11,hc12,hc13,hc14,hc15,hs8,hs15⟩
theorem zgl {H:Type} {enc:TypeId × Value→H} {w:World} (fuel:Nat):zg1 enc Tryz.prog w 152 16 DContribution.ct DContribution.ok fuel:=by
 intro cs x h;have hl:=zct Tryz.underlying152 h
 obtain ⟨y0,k0,q0⟩:=zq Tryz.underlying152 h 0 _ rfl (ft:=9) (o:=0) (n:=1) rfl rfl (fun m _=>za1 Tryz.underlying9 m) (by kernel_rfl)
 obtain ⟨y1,k1,q1⟩:=zq Tryz.underlying152 h 1 _ rfl (ft:=9) (o:=1) (n:=1) rfl rfl (fun m _=>za1 Tryz.underlying9 m) (by kernel_rfl)
 obtain ⟨y2,k2,q2⟩:=zq Tryz.underlying152 h 2 _ rfl (ft:=147) (o:=2) (n:=7) rfl rfl (fun m _=>zhx m) (by kernel_rfl)
 obtain ⟨y3,k3,q3⟩:=zq Tryz.underlying152 h 3 _ rfl (ft:=147) (o:=9) (n:=7) rfl rfl (fun m _=>zhx m) (by kernel_rfl)
 refine ⟨⟨y0,y1,y2,y3⟩,⟨k0,k1,k2,k3⟩,hl.trans (by kernel_rfl),fun j hj=>?_⟩
 match j,hj with
 | 0,_=>exact q0 0 (by decide)
 | 1,_=>exact q1 0 (by decide)
 | 2,_=>exact q2 0 (by decide)
 | 3,_=>exact q2 1 (by decide)
 | 4,_=>exact q2 2 (by decide)
 | 5,_=>exact q2 3 (by decide)
 | 6,_=>exact q2 4 (by decide)
 | 7,_=>exact q2 5 (by decide)
 | 8,_=>exact q2 6 (by decide)
 | 9,_=>exact q3 0 (by decide)
 | 10,_=>exact q3 1 (by decide)
 | 11,_=>exact q3 2 (by decide)
 | 12,_=>exact q3 3 (by decide)
 | 13,_=>exact q3 4 (by decide)
 | 14,_=>exact q3 5 (by decide)
 | 15,_=>exact q3 6 (by decide)
 | _+16,h9=>exact absurd h9 (by omega)
theorem zf8 {lo hi:Nat} {a8:Option Addr} {c8:Nat} {a15:Option Addr} {c15:Nat} (x:DContribution) (L:Int) (hL0:0≤L) (hL1:L≤1048576) (hx:x.ok) (w:World) (hhi:hi≤w.heap.size) (hs8:Sl lo hi w 7 x.fe.fc.length (ctE x.fe.fc) a8) (hs15:Sl lo hi w 7 x.ff.fc.length (ctE x.ff.fc) a15) :
  Calls Tryz.prog 100 #[.agg #[.string x.fd,.string x.fa,.int .i64 x.fe.fh,.int .i64 x.fe.fN,.int .i64 x.fe.fb,.int .i64 x.fe.fk,.string x.fe.fd,.string x.fe.fa,.slice a8 x.fe.fc.length c8,.int .i64 x.ff.fh,.int .i64 x.ff.fN,.int .i64 x.ff.fb,.int .i64 x.ff.fk,.string x.ff.fd,.string x.ff.fa,.slice a15 x.ff.fc.length c15],.int .i64 L] w fun e w'=>e = .returned (.int .i64 (szR L x.sz))∧Below w.heap.size w w':=by
 have HS8:=yq hs8;have HS15:=yq hs15;clear hs8 hs15;have HX:=yq hx;clear hx;have okSymbol:x.fd.size≤9223372036854775807:=HX.out.1;have okName:x.fa.size≤9223372036854775807:=HX.out.2.1;have HB0:=yq ((Below.refl w.heap.size w).alloc (Nat.le_refl _) (.cells #[.string x.fd,.string x.fa,.int .i64 x.fe.fh,.int .i64 x.fe.fN,.int .i64 x.fe.fb,.int .i64 x.fe.fk,.string x.fe.fd,.string x.fe.fa,.slice a8 x.fe.fc.length c8,.int .i64 x.ff.fh,.int .i64 x.ff.fN,.int .i64 x.ff.fb,.int .i64 x.ff.fk,.string x.ff.fd,.string x.ff.fa,.slice a15 x.ff.fc.length c15] 152))
 by_cases h0:L < ((x.fd.size:Nat):Int)
 ·skip
  have fin:=yq (zae (n:=x.sz) (L:=L) (by unfold DContribution.sz;omega))
  go_enter Tryz.func100,Tryz.ntmps100
  go_wp2;go_ret
  exact ⟨zan (by rw [fin.out]),HB0.out⟩
 ·skip
  by_cases h1:(L - (x.fd.size:Nat)) < ((x.fa.size:Nat):Int)
  ·skip
   have fin:=yq (zae (n:=x.sz) (L:=L) (by unfold DContribution.sz;omega))
   go_enter Tryz.func100,Tryz.ntmps100
   go_wp2;go_ret
   exact ⟨zan (by rw [fin.out]),HB0.out⟩
  ·skip
   by_cases h2:((L - (x.fd.size:Nat)) - (x.fa.size:Nat)) < ((DExpr.sz x.fe:Nat):Int)
   ·skip
    have hz0:=fun (w':World) (hhi:hi≤w'.heap.size) (hs8:Sl lo hi w' 7 x.fe.fc.length (ctE x.fe.fc) a8)=>zb2 (c6:=c8) x.fe ((L - (x.fd.size:Nat)) - (x.fa.size:Nat)) (by omega) (by omega) HX.out.2.2.1 w' hhi hs8
    rw [zae (by omega)] at hz0
    have HZ0:=yq hz0;clear hz0
    have fin:=yq (zae (n:=x.sz) (L:=L) (by unfold DContribution.sz;omega))
    go_enter Tryz.func100,Tryz.ntmps100
    (go_wp2_with fail);refine (HZ0.out _ (Nat.le_trans hhi HB0.out.size) (HS8.out.later HB0.out hhi)).mono ?_;rintro e w1 ⟨rfl,hb1⟩;have hsz1:w.heap.size < w1.heap.size:=Nat.lt_of_lt_of_le yg hb1.size;have HB1:=yq (HB0.out.trans (hb1.mono HB0.out.size));clear hb1;go_wp2;go_ret
    exact ⟨zan (by rw [fin.out]),HB1.out⟩
   ·skip
    by_cases h3:(((L - (x.fd.size:Nat)) - (x.fa.size:Nat)) - (DExpr.sz x.fe:Nat)) < ((DExpr.sz x.ff:Nat):Int)
    ·skip
     have hz0:=fun (w':World) (hhi:hi≤w'.heap.size) (hs8:Sl lo hi w' 7 x.fe.fc.length (ctE x.fe.fc) a8)=>zb2 (c6:=c8) x.fe ((L - (x.fd.size:Nat)) - (x.fa.size:Nat)) (by omega) (by omega) HX.out.2.2.1 w' hhi hs8
     rw [zas (by omega)] at hz0
     have HZ0:=yq hz0;clear hz0
     have hz1:=fun (w':World) (hhi:hi≤w'.heap.size) (hs15:Sl lo hi w' 7 x.ff.fc.length (ctE x.ff.fc) a15)=>zb2 (c6:=c15) x.ff (((L - (x.fd.size:Nat)) - (x.fa.size:Nat)) - (DExpr.sz x.fe:Nat)) (by omega) (by omega) HX.out.2.2.2 w' hhi hs15
     rw [zae (by omega)] at hz1
     have HZ1:=yq hz1;clear hz1
     have fin:=yq (zae (n:=x.sz) (L:=L) (by unfold DContribution.sz;omega))
     go_enter Tryz.func100,Tryz.ntmps100
     (go_wp2_with fail);refine (HZ0.out _ (Nat.le_trans hhi HB0.out.size) (HS8.out.later HB0.out hhi)).mono ?_;rintro e w1 ⟨rfl,hb1⟩;have hsz1:w.heap.size < w1.heap.size:=Nat.lt_of_lt_of_le yg hb1.size
     have x1_0_9:w1.cell? ⟨w.heap.size,9,none⟩=some (.int .i64 x.ff.fh):=(hb1.cell (p:=⟨w.heap.size,9,none⟩) yd).trans (by go_simp)
     have x1_0_10:w1.cell? ⟨w.heap.size,10,none⟩=some (.int .i64 x.ff.fN):=(hb1.cell (p:=⟨w.heap.size,10,none⟩) yd).trans (by go_simp)
     have x1_0_11:w1.cell? ⟨w.heap.size,11,none⟩=some (.int .i64 x.ff.fb):=(hb1.cell (p:=⟨w.heap.size,11,none⟩) yd).trans (by go_simp)
     have x1_0_12:w1.cell? ⟨w.heap.size,12,none⟩=some (.int .i64 x.ff.fk):=(hb1.cell (p:=⟨w.heap.size,12,none⟩) yd).trans (by go_simp)
     have x1_0_13:w1.cell? ⟨w.heap.size,13,none⟩=some (.string x.ff.fd):=(hb1.cell (p:=⟨w.heap.size,13,none⟩) yd).trans (by go_simp)
     have x1_0_14:w1.cell? ⟨w.heap.size,14,none⟩=some (.string x.ff.fa):=(hb1.cell (p:=⟨w.heap.size,14,none⟩) yd).trans (by go_simp)
     have x1_0_15:w1.cell? ⟨w.heap.size,15,none⟩=some (.slice a15 x.ff.fc.length c15):=(hb1.cell (p:=⟨w.heap.size,15,none⟩) yd).trans (by go_simp)
     have HB1:=yq (HB0.out.trans (hb1.mono HB0.out.size));clear hb1;(go_wp2_with fail);refine (HZ1.out _ (Nat.le_trans hhi HB1.out.size) (HS15.out.later HB1.out hhi)).mono ?_;rintro e w2 ⟨rfl,hb2⟩;have hsz2:w.heap.size < w2.heap.size:=Nat.lt_of_lt_of_le yg hb2.size;have HB2:=yq (HB1.out.trans (hb2.mono HB1.out.size));clear hb2;go_wp2;go_ret
     exact ⟨zan (by rw [fin.out]),HB2.out⟩
    ·skip
     have hz0:=fun (w':World) (hhi:hi≤w'.heap.size) (hs8:Sl lo hi w' 7 x.fe.fc.length (ctE x.fe.fc) a8)=>zb2 (c6:=c8) x.fe ((L - (x.fd.size:Nat)) - (x.fa.size:Nat)) (by omega) (by omega) HX.out.2.2.1 w' hhi hs8
     rw [zas (by omega)] at hz0
     have HZ0:=yq hz0;clear hz0
     have hz1:=fun (w':World) (hhi:hi≤w'.heap.size) (hs15:Sl lo hi w' 7 x.ff.fc.length (ctE x.ff.fc) a15)=>zb2 (c6:=c15) x.ff (((L - (x.fd.size:Nat)) - (x.fa.size:Nat)) - (DExpr.sz x.fe:Nat)) (by omega) (by omega) HX.out.2.2.2 w' hhi hs15
     rw [zas (by omega)] at hz1
     have HZ1:=yq hz1;clear hz1
     have fin:=yq (zas (n:=x.sz) (L:=L) (by unfold DContribution.sz;omega))
     go_enter Tryz.func100,Tryz.ntmps100
     (go_wp2_with fail);refine (HZ0.out _ (Nat.le_trans hhi HB0.out.size) (HS8.out.later HB0.out hhi)).mono ?_;rintro e w1 ⟨rfl,hb1⟩;have hsz1:w.heap.size < w1.heap.size:=Nat.lt_of_lt_of_le yg hb1.size
     have x1_0_9:w1.cell? ⟨w.heap.size,9,none⟩=some (.int .i64 x.ff.fh):=(hb1.cell (p:=⟨w.heap.size,9,none⟩) yd).trans (by go_simp)
     have x1_0_10:w1.cell? ⟨w.heap.size,10,none⟩=some (.int .i64 x.ff.fN):=(hb1.cell (p:=⟨w.heap.size,10,none⟩) yd).trans (by go_simp)
     have x1_0_11:w1.cell? ⟨w.heap.size,11,none⟩=some (.int .i64 x.ff.fb):=(hb1.cell (p:=⟨w.heap.size,11,none⟩) yd).trans (by go_simp)
     have x1_0_12:w1.cell? ⟨w.heap.size,12,none⟩=some (.int .i64 x.ff.fk):=(hb1.cell (p:=⟨w.heap.size,12,none⟩) yd).trans (by go_simp)
     have x1_0_13:w1.cell? ⟨w.heap.size,13,none⟩=some (.string x.ff.fd):=(hb1.cell (p:=⟨w.heap.size,13,none⟩) yd).trans (by go_simp)
     have x1_0_14:w1.cell? ⟨w.heap.size,14,none⟩=some (.string x.ff.fa):=(hb1.cell (p:=⟨w.heap.size,14,none⟩) yd).trans (by go_simp)
     have x1_0_15:w1.cell? ⟨w.heap.size,15,none⟩=some (.slice a15 x.ff.fc.length c15):=(hb1.cell (p:=⟨w.heap.size,15,none⟩) yd).trans (by go_simp)
     have HB1:=yq (HB0.out.trans (hb1.mono HB0.out.size));clear hb1;(go_wp2_with fail);refine (HZ1.out _ (Nat.le_trans hhi HB1.out.size) (HS15.out.later HB1.out hhi)).mono ?_;rintro e w2 ⟨rfl,hb2⟩;have hsz2:w.heap.size < w2.heap.size:=Nat.lt_of_lt_of_le yg hb2.size;have HB2:=yq (HB1.out.trans (hb2.mono HB1.out.size));clear hb2;go_wp2;go_ret
     exact ⟨zan (by rw [fin.out];unfold DContribution.sz;omega),HB2.out⟩
theorem zcz {lo hi:Nat} {a:Option Addr} {cap:Nat} (l:List DContribution) (L:Int) (hL0:0≤L) (hL1:L≤1048576) (hok:okL DContribution.ok l) (w:World) (hhi:hi≤w.heap.size) (hs:Sl lo hi w 16 l.length (fun k=>DContribution.ct (l.getD k default)) a) :
  Calls Tryz.prog 61 #[.slice a l.length cap,.int .i64 L] w fun e w'=>e = .returned (.int .i64 (szR L (lsz DContribution.sz l)))∧Below w.heap.size w w':=by
 have HS:=yq hs;have HK:=yq hok;have hn:l.length≤9223372036854775807:=hok.1;clear hs hok
 by_cases hlong:L < ((l.length:Nat):Int)
 ·have fin:=yq (zae (n:=lsz DContribution.sz l) (L:=L) (by unfold lsz;omega))
  go_enter Tryz.func61,Tryz.ntmps61
  go_wp2;go_ret;exact ⟨zan fin.out.symm,Below.refl _ _⟩
 ·go_enter Tryz.func61,Tryz.ntmps61
  go_wp2
  go_loopw [1,5] (fun q i wr=>∃ k:Nat,k≤l.length∧i = .int .i64 (k:Int)∧q = .int .i64 (L - l.length - psz DContribution.sz l k)∧(l.length:Int)+psz DContribution.sz l k≤L∧Below w.heap.size w wr) (fun _ i _=>l.length - (intOf i).toNat)
  case atStart=>exact ⟨0,Nat.zero_le _,rfl,by rw [zba];go_num,by rw [zba];omega,Below.refl _ _⟩
  case round =>
   obtain ⟨k,hk,rfl,rfl,hle,hb⟩:=hrel;have HB:=yq hb
   by_cases hlt:k < l.length
   ·have hsu:=yq (zc0 DContribution.sz l k hlt)
    have hle2:=yq (zhd DContribution.sz l (k+1));have hokk:=HK.out.at hlt;have hhr:hi≤wr.heap.size:=Nat.le_trans hhi hb.size;obtain ⟨b,off,rfl,hlo,hhi',hc⟩:=(HS.out.later (hb.mono hhi) (Nat.le_refl _)).at k hlt;clear hb;obtain ⟨a8,c8,a15,c15,hc0_,hc1_,hc2_,hc3_,hc4_,hc5_,hc6_,hc7_,hc8_,hc9_,hc10_,hc11_,hc12_,hc13_,hc14_,hc15_,hs8,hs15⟩:=DContribution.open hc;clear hc;generalize l.getD k default=x at *;generalize psz DContribution.sz l k=S at *
    have hZ:=zf8 (c8:=c8) (c15:=c15) x (L - l.length - S) (by omega) (by omega) hokk wr hhr hs8 hs15
    by_cases hf:((x.sz:Nat):Int)≤L - l.length - S
    ·rw [zas hf] at hZ
     have HZ:=yq hZ;clear hZ hokk hs8 hs15;(go_wp2_with fail);refine HZ.out.mono ?_;rintro e w1 ⟨rfl,hb1⟩;have HB1:=yq hb1;clear hb1;go_wp2;go_roundw
     case rel=>exact ⟨k+1,by omega,by go_num,by rw [hsu.out];go_num,by rw [hsu.out];omega,HB.out.trans (HB1.out.mono HB.out.size)⟩
     case measure=>simp [intOf];omega
    ·have fin:=yq (zae (n:=lsz DContribution.sz l) (L:=L) (by have h1:=hsu.out;have h2:=hle2.out;omega))
     rw [zae (by omega)] at hZ
     have HZ:=yq hZ;clear hZ hokk hs8 hs15;(go_wp2_with fail);refine HZ.out.mono ?_;rintro e w1 ⟨rfl,hb1⟩;have HB1:=yq hb1;clear hb1;go_wp2;go_ret;exact ⟨zan fin.out.symm,HB.out.trans (HB1.out.mono HB.out.size)⟩
   ·obtain rfl:k=l.length:=by omega
    have fin:=yq (zas (n:=lsz DContribution.sz l) (L:=L) (by unfold lsz;rw [zb0] at hle;omega))
    have fin2:=yq (zb0 DContribution.sz l);go_wp2;go_ret
    exact ⟨zan (by rw [fin.out,fin2.out];unfold lsz;omega),HB.out⟩
theorem zf0 {lo hi:Nat} {a8:Option Addr} {c8:Nat} {a15:Option Addr} {c15:Nat} (x:DContribution) (hsz:x.sz≤1048576) (w:World) (hhi:hi≤w.heap.size) (hs8:Sl lo hi w 7 x.fe.fc.length (ctE x.fe.fc) a8) (hs15:Sl lo hi w 7 x.ff.fc.length (ctE x.ff.fc) a15) :
  Calls Tryz.prog 111 #[.agg #[.string x.fd,.string x.fa,.int .i64 x.fe.fh,.int .i64 x.fe.fN,.int .i64 x.fe.fb,.int .i64 x.fe.fk,.string x.fe.fd,.string x.fe.fa,.slice a8 x.fe.fc.length c8,.int .i64 x.ff.fh,.int .i64 x.ff.fN,.int .i64 x.ff.fb,.int .i64 x.ff.fk,.string x.ff.fd,.string x.ff.fa,.slice a15 x.ff.fc.length c15]] w fun e w'=>∃ a8r c8r a15r c15r,e = .returned (.agg #[.string x.fd,.string x.fa,.int .i64 x.fe.fh,.int .i64 x.fe.fN,.int .i64 x.fe.fb,.int .i64 x.fe.fk,.string x.fe.fd,.string x.fe.fa,.slice a8r x.fe.fc.length c8r,.int .i64 x.ff.fh,.int .i64 x.ff.fN,.int .i64 x.ff.fb,.int .i64 x.ff.fk,.string x.ff.fd,.string x.ff.fa,.slice a15r x.ff.fc.length c15r])∧OwnR w' (fun y=>w.heap.size≤y∧y < w'.heap.size) 16 x.ct (fun j=>[.string x.fd,.string x.fa,.int .i64 x.fe.fh,.int .i64 x.fe.fN,.int .i64 x.fe.fb,.int .i64 x.fe.fk,.string x.fe.fd,.string x.fe.fa,.slice a8r x.fe.fc.length c8r,.int .i64 x.ff.fh,.int .i64 x.ff.fN,.int .i64 x.ff.fb,.int .i64 x.ff.fk,.string x.ff.fd,.string x.ff.fa,.slice a15r x.ff.fc.length c15r].getD j .nilFunc)∧Below w.heap.size w w':=by
 have HS8:=yq hs8;have HS15:=yq hs15;clear hs8 hs15;have HW:=yq hsz;clear hsz;have HB0:=yq (((((Below.refl w.heap.size w).alloc (Nat.le_refl _) (.cells #[.string x.fd,.string x.fa,.int .i64 x.fe.fh,.int .i64 x.fe.fN,.int .i64 x.fe.fb,.int .i64 x.fe.fk,.string x.fe.fd,.string x.fe.fa,.slice a8 x.fe.fc.length c8,.int .i64 x.ff.fh,.int .i64 x.ff.fN,.int .i64 x.ff.fb,.int .i64 x.ff.fk,.string x.ff.fd,.string x.ff.fa,.slice a15 x.ff.fc.length c15] 152)).alloc ye (.cells #[.string ⟨#[]⟩,.string ⟨#[]⟩,.int .i64 0,.int .i64 0,.int .i64 0,.int .i64 0,.string ⟨#[]⟩,.string ⟨#[]⟩,.slice none 0 0,.int .i64 0,.int .i64 0,.int .i64 0,.int .i64 0,.string ⟨#[]⟩,.string ⟨#[]⟩,.slice none 0 0] 110))).alloc ye (.cells #[.string ⟨#[]⟩,.string ⟨#[]⟩,.int .i64 0,.int .i64 0,.int .i64 0,.int .i64 0,.string ⟨#[]⟩,.string ⟨#[]⟩,.slice none 0 0,.int .i64 0,.int .i64 0,.int .i64 0,.int .i64 0,.string ⟨#[]⟩,.string ⟨#[]⟩,.slice none 0 0] 110))
 have HSZ0:=yq (show w.heap.size+2 < (((w.alloc (.cells #[.string x.fd,.string x.fa,.int .i64 x.fe.fh,.int .i64 x.fe.fN,.int .i64 x.fe.fb,.int .i64 x.fe.fk,.string x.fe.fd,.string x.fe.fa,.slice a8 x.fe.fc.length c8,.int .i64 x.ff.fh,.int .i64 x.ff.fN,.int .i64 x.ff.fb,.int .i64 x.ff.fk,.string x.ff.fd,.string x.ff.fa,.slice a15 x.ff.fc.length c15] 152)).alloc (.cells #[.string ⟨#[]⟩,.string ⟨#[]⟩,.int .i64 0,.int .i64 0,.int .i64 0,.int .i64 0,.string ⟨#[]⟩,.string ⟨#[]⟩,.slice none 0 0,.int .i64 0,.int .i64 0,.int .i64 0,.int .i64 0,.string ⟨#[]⟩,.string ⟨#[]⟩,.slice none 0 0] 110)).alloc (.cells #[.string ⟨#[]⟩,.string ⟨#[]⟩,.int .i64 0,.int .i64 0,.int .i64 0,.int .i64 0,.string ⟨#[]⟩,.string ⟨#[]⟩,.slice none 0 0,.int .i64 0,.int .i64 0,.int .i64 0,.int .i64 0,.string ⟨#[]⟩,.string ⟨#[]⟩,.slice none 0 0] 110)).heap.size by simp)
 have ht0:=fun (w':World) (hhi:hi≤w'.heap.size) (hs8:Sl lo hi w' 7 x.fe.fc.length (ctE x.fe.fc) a8)=>zf7 (c6:=c8) x.fe (by have h:=HW.out;unfold DContribution.sz at h;omega) w' hhi hs8
 have HT0:=yq ht0;clear ht0
 have ht1:=fun (w':World) (hhi:hi≤w'.heap.size) (hs15:Sl lo hi w' 7 x.ff.fc.length (ctE x.ff.fc) a15)=>zf7 (c6:=c15) x.ff (by have h:=HW.out;unfold DContribution.sz at h;omega) w' hhi hs15
 have HT1:=yq ht1;clear ht1
 go_enter Tryz.func111,Tryz.ntmps111
 (go_wp2_with fail)
 refine (HT0.out _ (Nat.le_trans hhi (Below.size ((by repeat (first|(with_reducible exact HB0.out)|(with_reducible exact Below.refl _ _)|(refine Below.setCell ?_ ye _)|(refine Below.alloc ?_ ye _)):Below w.heap.size w _)))) (HS8.out.later ((by repeat (first|(with_reducible exact HB0.out)|(with_reducible exact Below.refl _ _)|(refine Below.setCell ?_ ye _)|(refine Below.alloc ?_ ye _)):Below w.heap.size w _)) hhi)).mono ?_
 rintro e w1 ⟨a8r,c8r,rfl,ho1,hb1⟩
 have hsz1:w.heap.size+2 < w1.heap.size:=Nat.lt_of_lt_of_le (by have h:=HSZ0.out;first|(with_reducible exact h)|(simp;done)|(simp;omega)|(simp [World.setCell];omega)) hb1.size
 have hlo1:w.heap.size+3≤w1.heap.size:=Nat.le_trans yk hb1.size
 have hbw1:Below w.heap.size w w1:=Below.trans ((by repeat (first|(with_reducible exact HB0.out)|(with_reducible exact Below.refl _ _)|(refine Below.setCell ?_ ye _)|(refine Below.alloc ?_ ye _)):Below w.heap.size w _)) (hb1.mono (Below.size ((by repeat (first|(with_reducible exact HB0.out)|(with_reducible exact Below.refl _ _)|(refine Below.setCell ?_ ye _)|(refine Below.alloc ?_ ye _)):Below w.heap.size w _))))
 have HO1_1:=yq (ho1.sub (F':=fun y=>w.heap.size+3≤y∧y < w1.heap.size) (fun y hy=>⟨Nat.le_trans yj hy.1,hy.2⟩))
 clear ho1
 have HP1:=yq (show w1.heap[w.heap.size]? = some (.cells #[.string x.fd,.string x.fa,.int .i64 x.fe.fh,.int .i64 x.fe.fN,.int .i64 x.fe.fb,.int .i64 x.fe.fk,.string x.fe.fd,.string x.fe.fa,.slice a8 x.fe.fc.length c8,.int .i64 x.ff.fh,.int .i64 x.ff.fN,.int .i64 x.ff.fb,.int .i64 x.ff.fk,.string x.ff.fd,.string x.ff.fa,.slice a15 x.ff.fc.length c15] 152) from (hb1.block _ (by have h9:=HSZ0.out;first|(simp;done)|(simp;omega)|(simp at h9 ⊢;omega))).trans (by (repeat (refine zaj ye ?_));exact zn ye (zn (by simp) (ze (by simp)))))
 have HG1:=yq (show w1.heap[w.heap.size+1]? = some (.cells #[.string ⟨#[]⟩,.string ⟨#[]⟩,.int .i64 0,.int .i64 0,.int .i64 0,.int .i64 0,.string ⟨#[]⟩,.string ⟨#[]⟩,.slice none 0 0,.int .i64 0,.int .i64 0,.int .i64 0,.int .i64 0,.string ⟨#[]⟩,.string ⟨#[]⟩,.slice none 0 0] 110) from (hb1.block _ (by have h9:=HSZ0.out;first|(simp;done)|(simp;omega)|(simp at h9 ⊢;omega))).trans (by (repeat (refine zaj ye ?_));exact zn (by simp) (ze (by simp))))
 have HK1:=yq (show w1.heap[w.heap.size+2]? = some (.cells #[.string x.fd,.string x.fa,.int .i64 0,.int .i64 0,.int .i64 0,.int .i64 0,.string ⟨#[]⟩,.string ⟨#[]⟩,.slice none 0 0,.int .i64 0,.int .i64 0,.int .i64 0,.int .i64 0,.string ⟨#[]⟩,.string ⟨#[]⟩,.slice none 0 0] 110) from (hb1.block _ (by have h9:=HSZ0.out;first|(simp;done)|(simp;omega)|(simp at h9 ⊢;omega))).trans (by first|exact ze (by simp)|(refine Eq.trans (zm (cs:=#[.string x.fd,.string ⟨#[]⟩,.int .i64 0,.int .i64 0,.int .i64 0,.int .i64 0,.string ⟨#[]⟩,.string ⟨#[]⟩,.slice none 0 0,.int .i64 0,.int .i64 0,.int .i64 0,.int .i64 0,.string ⟨#[]⟩,.string ⟨#[]⟩,.slice none 0 0]) (t:=110) (fr:=(0,0)) ?_) rfl;refine Eq.trans (zm (cs:=#[.string ⟨#[]⟩,.string ⟨#[]⟩,.int .i64 0,.int .i64 0,.int .i64 0,.int .i64 0,.string ⟨#[]⟩,.string ⟨#[]⟩,.slice none 0 0,.int .i64 0,.int .i64 0,.int .i64 0,.int .i64 0,.string ⟨#[]⟩,.string ⟨#[]⟩,.slice none 0 0]) (t:=110) (fr:=(0,0)) ?_) rfl;exact ze (by simp))))
 have x1_0_9:w1.cell? ⟨w.heap.size,9,none⟩=some (.int .i64 x.ff.fh):=(cell_of_row _ _ _ _ _ _ HP1.out).trans rfl;have x1_0_10:w1.cell? ⟨w.heap.size,10,none⟩=some (.int .i64 x.ff.fN):=(cell_of_row _ _ _ _ _ _ HP1.out).trans rfl;have x1_0_11:w1.cell? ⟨w.heap.size,11,none⟩=some (.int .i64 x.ff.fb):=(cell_of_row _ _ _ _ _ _ HP1.out).trans rfl;have x1_0_12:w1.cell? ⟨w.heap.size,12,none⟩=some (.int .i64 x.ff.fk):=(cell_of_row _ _ _ _ _ _ HP1.out).trans rfl;have x1_0_13:w1.cell? ⟨w.heap.size,13,none⟩=some (.string x.ff.fd):=(cell_of_row _ _ _ _ _ _ HP1.out).trans rfl;have x1_0_14:w1.cell? ⟨w.heap.size,14,none⟩=some (.string x.ff.fa):=(cell_of_row _ _ _ _ _ _ HP1.out).trans rfl;have x1_0_15:w1.cell? ⟨w.heap.size,15,none⟩=some (.slice a15 x.ff.fc.length c15):=(cell_of_row _ _ _ _ _ _ HP1.out).trans rfl;have x1_2_0:w1.cell? ⟨w.heap.size+2,0,none⟩=some (.string x.fd):=(cell_of_row _ _ _ _ _ _ HK1.out).trans rfl;have z1_2_0:w1.frozen? ⟨w.heap.size+2,0,none⟩=false:=frozen_of_row _ _ _ _ _ HK1.out;have x1_2_1:w1.cell? ⟨w.heap.size+2,1,none⟩=some (.string x.fa):=(cell_of_row _ _ _ _ _ _ HK1.out).trans rfl;have z1_2_1:w1.frozen? ⟨w.heap.size+2,1,none⟩=false:=frozen_of_row _ _ _ _ _ HK1.out;have x1_2_2:w1.cell? ⟨w.heap.size+2,2,none⟩=some (.int .i64 0):=(cell_of_row _ _ _ _ _ _ HK1.out).trans rfl;have z1_2_2:w1.frozen? ⟨w.heap.size+2,2,none⟩=false:=frozen_of_row _ _ _ _ _ HK1.out;have x1_2_3:w1.cell? ⟨w.heap.size+2,3,none⟩=some (.int .i64 0):=(cell_of_row _ _ _ _ _ _ HK1.out).trans rfl;have z1_2_3:w1.frozen? ⟨w.heap.size+2,3,none⟩=false:=frozen_of_row _ _ _ _ _ HK1.out;have x1_2_4:w1.cell? ⟨w.heap.size+2,4,none⟩=some (.int .i64 0):=(cell_of_row _ _ _ _ _ _ HK1.out).trans rfl;have z1_2_4:w1.frozen? ⟨w.heap.size+2,4,none⟩=false:=frozen_of_row _ _ _ _ _ HK1.out;have x1_2_5:w1.cell? ⟨w.heap.size+2,5,none⟩=some (.int .i64 0):=(cell_of_row _ _ _ _ _ _ HK1.out).trans rfl;have z1_2_5:w1.frozen? ⟨w.heap.size+2,5,none⟩=false:=frozen_of_row _ _ _ _ _ HK1.out;have x1_2_6:w1.cell? ⟨w.heap.size+2,6,none⟩=some (.string ⟨#[]⟩):=(cell_of_row _ _ _ _ _ _ HK1.out).trans rfl
 have z1_2_6:w1.frozen? ⟨w.heap.size+2,6,none⟩=false:=frozen_of_row _ _ _ _ _ HK1.out;have x1_2_7:w1.cell? ⟨w.heap.size+2,7,none⟩=some (.string ⟨#[]⟩):=(cell_of_row _ _ _ _ _ _ HK1.out).trans rfl;have z1_2_7:w1.frozen? ⟨w.heap.size+2,7,none⟩=false:=frozen_of_row _ _ _ _ _ HK1.out;have x1_2_8:w1.cell? ⟨w.heap.size+2,8,none⟩=some (.slice none 0 0):=(cell_of_row _ _ _ _ _ _ HK1.out).trans rfl;have z1_2_8:w1.frozen? ⟨w.heap.size+2,8,none⟩=false:=frozen_of_row _ _ _ _ _ HK1.out;have x1_2_9:w1.cell? ⟨w.heap.size+2,9,none⟩=some (.int .i64 0):=(cell_of_row _ _ _ _ _ _ HK1.out).trans rfl;have z1_2_9:w1.frozen? ⟨w.heap.size+2,9,none⟩=false:=frozen_of_row _ _ _ _ _ HK1.out;have x1_2_10:w1.cell? ⟨w.heap.size+2,10,none⟩=some (.int .i64 0):=(cell_of_row _ _ _ _ _ _ HK1.out).trans rfl;have z1_2_10:w1.frozen? ⟨w.heap.size+2,10,none⟩=false:=frozen_of_row _ _ _ _ _ HK1.out;have x1_2_11:w1.cell? ⟨w.heap.size+2,11,none⟩=some (.int .i64 0):=(cell_of_row _ _ _ _ _ _ HK1.out).trans rfl;have z1_2_11:w1.frozen? ⟨w.heap.size+2,11,none⟩=false:=frozen_of_row _ _ _ _ _ HK1.out;have x1_2_12:w1.cell? ⟨w.heap.size+2,12,none⟩=some (.int .i64 0):=(cell_of_row _ _ _ _ _ _ HK1.out).trans rfl;have z1_2_12:w1.frozen? ⟨w.heap.size+2,12,none⟩=false:=frozen_of_row _ _ _ _ _ HK1.out;have x1_2_13:w1.cell? ⟨w.heap.size+2,13,none⟩=some (.string ⟨#[]⟩):=(cell_of_row _ _ _ _ _ _ HK1.out).trans rfl;have z1_2_13:w1.frozen? ⟨w.heap.size+2,13,none⟩=false:=frozen_of_row _ _ _ _ _ HK1.out;have x1_2_14:w1.cell? ⟨w.heap.size+2,14,none⟩=some (.string ⟨#[]⟩):=(cell_of_row _ _ _ _ _ _ HK1.out).trans rfl;have z1_2_14:w1.frozen? ⟨w.heap.size+2,14,none⟩=false:=frozen_of_row _ _ _ _ _ HK1.out;have x1_2_15:w1.cell? ⟨w.heap.size+2,15,none⟩=some (.slice none 0 0):=(cell_of_row _ _ _ _ _ _ HK1.out).trans rfl;have z1_2_15:w1.frozen? ⟨w.heap.size+2,15,none⟩=false:=frozen_of_row _ _ _ _ _ HK1.out;have HB1:=yq hbw1;have HSZ1:=yq hsz1;have HLO1:=yq hlo1;clear hb1 hbw1 hsz1 hlo1;(go_wp2_with fail)
 refine (HT1.out _ (Nat.le_trans hhi (Below.size ((by repeat (first|(with_reducible exact HB1.out)|(with_reducible exact Below.refl _ _)|(refine Below.setCell ?_ ye _)|(refine Below.alloc ?_ ye _)):Below w.heap.size w _)))) (HS15.out.later ((by repeat (first|(with_reducible exact HB1.out)|(with_reducible exact Below.refl _ _)|(refine Below.setCell ?_ ye _)|(refine Below.alloc ?_ ye _)):Below w.heap.size w _)) hhi)).mono ?_
 rintro e w2 ⟨a15r,c15r,rfl,ho2,hb2⟩
 have hsz2:w.heap.size+2 < w2.heap.size:=Nat.lt_of_lt_of_le (by have h:=HSZ1.out;first|(with_reducible exact h)|(simp;done)|(simp;omega)|(simp [World.setCell];omega)) hb2.size
 have hlo2:w1.heap.size≤w2.heap.size:=Nat.le_trans yk hb2.size
 have hbw2:Below w.heap.size w w2:=Below.trans ((by repeat (first|(with_reducible exact HB1.out)|(with_reducible exact Below.refl _ _)|(refine Below.setCell ?_ ye _)|(refine Below.alloc ?_ ye _)):Below w.heap.size w _)) (hb2.mono (Below.size ((by repeat (first|(with_reducible exact HB1.out)|(with_reducible exact Below.refl _ _)|(refine Below.setCell ?_ ye _)|(refine Below.alloc ?_ ye _)):Below w.heap.size w _))))
 have HO1_2:=yq (HO1_1.out.kept (Kept.trans (by repeat (first|(with_reducible exact Kept.refl)|(refine Kept.put ?_ (by rintro ⟨h1,h2⟩;dsimp only at h1;have h3:=HSZ0.out;omega)))) (Kept.of_below_all hb2)))
 clear HO1_1
 have HO2_2:=yq (ho2.sub (F':=fun y=>w1.heap.size≤y∧y < w2.heap.size) (fun y hy=>⟨Nat.le_trans yj hy.1,hy.2⟩))
 clear ho2
 have HP2:=yq (show w2.heap[w.heap.size]? = some (.cells #[.string x.fd,.string x.fa,.int .i64 x.fe.fh,.int .i64 x.fe.fN,.int .i64 x.fe.fb,.int .i64 x.fe.fk,.string x.fe.fd,.string x.fe.fa,.slice a8 x.fe.fc.length c8,.int .i64 x.ff.fh,.int .i64 x.ff.fN,.int .i64 x.ff.fb,.int .i64 x.ff.fk,.string x.ff.fd,.string x.ff.fa,.slice a15 x.ff.fc.length c15] 152) from (hb2.block _ (by have h9:=HSZ1.out;first|(simp;done)|(simp;omega)|(simp at h9 ⊢;omega))).trans (by repeat (first|(with_reducible exact HP1.out)|(refine zaj ye ?_))))
 have HG2:=yq (show w2.heap[w.heap.size+1]? = some (.cells #[.string ⟨#[]⟩,.string ⟨#[]⟩,.int .i64 0,.int .i64 0,.int .i64 0,.int .i64 0,.string ⟨#[]⟩,.string ⟨#[]⟩,.slice none 0 0,.int .i64 0,.int .i64 0,.int .i64 0,.int .i64 0,.string ⟨#[]⟩,.string ⟨#[]⟩,.slice none 0 0] 110) from (hb2.block _ (by have h9:=HSZ1.out;first|(simp;done)|(simp;omega)|(simp at h9 ⊢;omega))).trans (by repeat (first|(with_reducible exact HG1.out)|(refine zaj ye ?_))))
 have HK2:=yq (show w2.heap[w.heap.size+2]? = some (.cells #[.string x.fd,.string x.fa,.int .i64 x.fe.fh,.int .i64 x.fe.fN,.int .i64 x.fe.fb,.int .i64 x.fe.fk,.string x.fe.fd,.string x.fe.fa,.slice a8r x.fe.fc.length c8r,.int .i64 0,.int .i64 0,.int .i64 0,.int .i64 0,.string ⟨#[]⟩,.string ⟨#[]⟩,.slice none 0 0] 110) from (hb2.block _ (by have h9:=HSZ1.out;first|(simp;done)|(simp;omega)|(simp at h9 ⊢;omega))).trans (by refine Eq.trans (zm (cs:=#[.string x.fd,.string x.fa,.int .i64 x.fe.fh,.int .i64 x.fe.fN,.int .i64 x.fe.fb,.int .i64 x.fe.fk,.string x.fe.fd,.string x.fe.fa,.slice none 0 0,.int .i64 0,.int .i64 0,.int .i64 0,.int .i64 0,.string ⟨#[]⟩,.string ⟨#[]⟩,.slice none 0 0]) (t:=110) (fr:=(0,0)) ?_) rfl;refine Eq.trans (zm (cs:=#[.string x.fd,.string x.fa,.int .i64 x.fe.fh,.int .i64 x.fe.fN,.int .i64 x.fe.fb,.int .i64 x.fe.fk,.string x.fe.fd,.string ⟨#[]⟩,.slice none 0 0,.int .i64 0,.int .i64 0,.int .i64 0,.int .i64 0,.string ⟨#[]⟩,.string ⟨#[]⟩,.slice none 0 0]) (t:=110) (fr:=(0,0)) ?_) rfl;refine Eq.trans (zm (cs:=#[.string x.fd,.string x.fa,.int .i64 x.fe.fh,.int .i64 x.fe.fN,.int .i64 x.fe.fb,.int .i64 x.fe.fk,.string ⟨#[]⟩,.string ⟨#[]⟩,.slice none 0 0,.int .i64 0,.int .i64 0,.int .i64 0,.int .i64 0,.string ⟨#[]⟩,.string ⟨#[]⟩,.slice none 0 0]) (t:=110) (fr:=(0,0)) ?_) rfl;refine Eq.trans (zm (cs:=#[.string x.fd,.string x.fa,.int .i64 x.fe.fh,.int .i64 x.fe.fN,.int .i64 x.fe.fb,.int .i64 0,.string ⟨#[]⟩,.string ⟨#[]⟩,.slice none 0 0,.int .i64 0,.int .i64 0,.int .i64 0,.int .i64 0,.string ⟨#[]⟩,.string ⟨#[]⟩,.slice none 0 0]) (t:=110) (fr:=(0,0)) ?_) rfl;refine Eq.trans (zm (cs:=#[.string x.fd,.string x.fa,.int .i64 x.fe.fh,.int .i64 x.fe.fN,.int .i64 0,.int .i64 0,.string ⟨#[]⟩,.string ⟨#[]⟩,.slice none 0 0,.int .i64 0,.int .i64 0,.int .i64 0,.int .i64 0,.string ⟨#[]⟩,.string ⟨#[]⟩,.slice none 0 0]) (t:=110) (fr:=(0,0)) ?_) rfl;refine Eq.trans (zm (cs:=#[.string x.fd,.string x.fa,.int .i64 x.fe.fh,.int .i64 0,.int .i64 0,.int .i64 0,.string ⟨#[]⟩,.string ⟨#[]⟩,.slice none 0 0,.int .i64 0,.int .i64 0,.int .i64 0,.int .i64 0,.string ⟨#[]⟩,.string ⟨#[]⟩,.slice none 0 0]) (t:=110) (fr:=(0,0)) ?_) rfl;refine Eq.trans (zm (cs:=#[.string x.fd,.string x.fa,.int .i64 0,.int .i64 0,.int .i64 0,.int .i64 0,.string ⟨#[]⟩,.string ⟨#[]⟩,.slice none 0 0,.int .i64 0,.int .i64 0,.int .i64 0,.int .i64 0,.string ⟨#[]⟩,.string ⟨#[]⟩,.slice none 0 0]) (t:=110) (fr:=(0,0)) ?_) rfl;exact HK1.out))
 clear HP1 HG1 HK1;have x2_2_0:w2.cell? ⟨w.heap.size+2,0,none⟩=some (.string x.fd):=(cell_of_row _ _ _ _ _ _ HK2.out).trans rfl;have z2_2_0:w2.frozen? ⟨w.heap.size+2,0,none⟩=false:=frozen_of_row _ _ _ _ _ HK2.out;have x2_2_1:w2.cell? ⟨w.heap.size+2,1,none⟩=some (.string x.fa):=(cell_of_row _ _ _ _ _ _ HK2.out).trans rfl;have z2_2_1:w2.frozen? ⟨w.heap.size+2,1,none⟩=false:=frozen_of_row _ _ _ _ _ HK2.out;have x2_2_2:w2.cell? ⟨w.heap.size+2,2,none⟩=some (.int .i64 x.fe.fh):=(cell_of_row _ _ _ _ _ _ HK2.out).trans rfl;have z2_2_2:w2.frozen? ⟨w.heap.size+2,2,none⟩=false:=frozen_of_row _ _ _ _ _ HK2.out;have x2_2_3:w2.cell? ⟨w.heap.size+2,3,none⟩=some (.int .i64 x.fe.fN):=(cell_of_row _ _ _ _ _ _ HK2.out).trans rfl;have z2_2_3:w2.frozen? ⟨w.heap.size+2,3,none⟩=false:=frozen_of_row _ _ _ _ _ HK2.out;have x2_2_4:w2.cell? ⟨w.heap.size+2,4,none⟩=some (.int .i64 x.fe.fb):=(cell_of_row _ _ _ _ _ _ HK2.out).trans rfl;have z2_2_4:w2.frozen? ⟨w.heap.size+2,4,none⟩=false:=frozen_of_row _ _ _ _ _ HK2.out;have x2_2_5:w2.cell? ⟨w.heap.size+2,5,none⟩=some (.int .i64 x.fe.fk):=(cell_of_row _ _ _ _ _ _ HK2.out).trans rfl;have z2_2_5:w2.frozen? ⟨w.heap.size+2,5,none⟩=false:=frozen_of_row _ _ _ _ _ HK2.out;have x2_2_6:w2.cell? ⟨w.heap.size+2,6,none⟩=some (.string x.fe.fd):=(cell_of_row _ _ _ _ _ _ HK2.out).trans rfl;have z2_2_6:w2.frozen? ⟨w.heap.size+2,6,none⟩=false:=frozen_of_row _ _ _ _ _ HK2.out;have x2_2_7:w2.cell? ⟨w.heap.size+2,7,none⟩=some (.string x.fe.fa):=(cell_of_row _ _ _ _ _ _ HK2.out).trans rfl;have z2_2_7:w2.frozen? ⟨w.heap.size+2,7,none⟩=false:=frozen_of_row _ _ _ _ _ HK2.out;have x2_2_8:w2.cell? ⟨w.heap.size+2,8,none⟩=some (.slice a8r x.fe.fc.length c8r):=(cell_of_row _ _ _ _ _ _ HK2.out).trans rfl;have z2_2_8:w2.frozen? ⟨w.heap.size+2,8,none⟩=false:=frozen_of_row _ _ _ _ _ HK2.out;have x2_2_9:w2.cell? ⟨w.heap.size+2,9,none⟩=some (.int .i64 0):=(cell_of_row _ _ _ _ _ _ HK2.out).trans rfl;have z2_2_9:w2.frozen? ⟨w.heap.size+2,9,none⟩=false:=frozen_of_row _ _ _ _ _ HK2.out
 have x2_2_10:w2.cell? ⟨w.heap.size+2,10,none⟩=some (.int .i64 0):=(cell_of_row _ _ _ _ _ _ HK2.out).trans rfl;have z2_2_10:w2.frozen? ⟨w.heap.size+2,10,none⟩=false:=frozen_of_row _ _ _ _ _ HK2.out;have x2_2_11:w2.cell? ⟨w.heap.size+2,11,none⟩=some (.int .i64 0):=(cell_of_row _ _ _ _ _ _ HK2.out).trans rfl;have z2_2_11:w2.frozen? ⟨w.heap.size+2,11,none⟩=false:=frozen_of_row _ _ _ _ _ HK2.out;have x2_2_12:w2.cell? ⟨w.heap.size+2,12,none⟩=some (.int .i64 0):=(cell_of_row _ _ _ _ _ _ HK2.out).trans rfl;have z2_2_12:w2.frozen? ⟨w.heap.size+2,12,none⟩=false:=frozen_of_row _ _ _ _ _ HK2.out;have x2_2_13:w2.cell? ⟨w.heap.size+2,13,none⟩=some (.string ⟨#[]⟩):=(cell_of_row _ _ _ _ _ _ HK2.out).trans rfl;have z2_2_13:w2.frozen? ⟨w.heap.size+2,13,none⟩=false:=frozen_of_row _ _ _ _ _ HK2.out;have x2_2_14:w2.cell? ⟨w.heap.size+2,14,none⟩=some (.string ⟨#[]⟩):=(cell_of_row _ _ _ _ _ _ HK2.out).trans rfl;have z2_2_14:w2.frozen? ⟨w.heap.size+2,14,none⟩=false:=frozen_of_row _ _ _ _ _ HK2.out;have x2_2_15:w2.cell? ⟨w.heap.size+2,15,none⟩=some (.slice none 0 0):=(cell_of_row _ _ _ _ _ _ HK2.out).trans rfl;have z2_2_15:w2.frozen? ⟨w.heap.size+2,15,none⟩=false:=frozen_of_row _ _ _ _ _ HK2.out;have x2_1_0:w2.cell? ⟨w.heap.size+1,0,none⟩=some (.string ⟨#[]⟩):=(cell_of_row _ _ _ _ _ _ HG2.out).trans rfl;have z2_1_0:w2.frozen? ⟨w.heap.size+1,0,none⟩=false:=frozen_of_row _ _ _ _ _ HG2.out;have x2_1_1:w2.cell? ⟨w.heap.size+1,1,none⟩=some (.string ⟨#[]⟩):=(cell_of_row _ _ _ _ _ _ HG2.out).trans rfl;have z2_1_1:w2.frozen? ⟨w.heap.size+1,1,none⟩=false:=frozen_of_row _ _ _ _ _ HG2.out;have x2_1_2:w2.cell? ⟨w.heap.size+1,2,none⟩=some (.int .i64 0):=(cell_of_row _ _ _ _ _ _ HG2.out).trans rfl;have z2_1_2:w2.frozen? ⟨w.heap.size+1,2,none⟩=false:=frozen_of_row _ _ _ _ _ HG2.out;have x2_1_3:w2.cell? ⟨w.heap.size+1,3,none⟩=some (.int .i64 0):=(cell_of_row _ _ _ _ _ _ HG2.out).trans rfl;have z2_1_3:w2.frozen? ⟨w.heap.size+1,3,none⟩=false:=frozen_of_row _ _ _ _ _ HG2.out;have x2_1_4:w2.cell? ⟨w.heap.size+1,4,none⟩=some (.int .i64 0):=(cell_of_row _ _ _ _ _ _ HG2.out).trans rfl
 have z2_1_4:w2.frozen? ⟨w.heap.size+1,4,none⟩=false:=frozen_of_row _ _ _ _ _ HG2.out;have x2_1_5:w2.cell? ⟨w.heap.size+1,5,none⟩=some (.int .i64 0):=(cell_of_row _ _ _ _ _ _ HG2.out).trans rfl;have z2_1_5:w2.frozen? ⟨w.heap.size+1,5,none⟩=false:=frozen_of_row _ _ _ _ _ HG2.out;have x2_1_6:w2.cell? ⟨w.heap.size+1,6,none⟩=some (.string ⟨#[]⟩):=(cell_of_row _ _ _ _ _ _ HG2.out).trans rfl;have z2_1_6:w2.frozen? ⟨w.heap.size+1,6,none⟩=false:=frozen_of_row _ _ _ _ _ HG2.out;have x2_1_7:w2.cell? ⟨w.heap.size+1,7,none⟩=some (.string ⟨#[]⟩):=(cell_of_row _ _ _ _ _ _ HG2.out).trans rfl;have z2_1_7:w2.frozen? ⟨w.heap.size+1,7,none⟩=false:=frozen_of_row _ _ _ _ _ HG2.out;have x2_1_8:w2.cell? ⟨w.heap.size+1,8,none⟩=some (.slice none 0 0):=(cell_of_row _ _ _ _ _ _ HG2.out).trans rfl;have z2_1_8:w2.frozen? ⟨w.heap.size+1,8,none⟩=false:=frozen_of_row _ _ _ _ _ HG2.out;have x2_1_9:w2.cell? ⟨w.heap.size+1,9,none⟩=some (.int .i64 0):=(cell_of_row _ _ _ _ _ _ HG2.out).trans rfl;have z2_1_9:w2.frozen? ⟨w.heap.size+1,9,none⟩=false:=frozen_of_row _ _ _ _ _ HG2.out;have x2_1_10:w2.cell? ⟨w.heap.size+1,10,none⟩=some (.int .i64 0):=(cell_of_row _ _ _ _ _ _ HG2.out).trans rfl;have z2_1_10:w2.frozen? ⟨w.heap.size+1,10,none⟩=false:=frozen_of_row _ _ _ _ _ HG2.out;have x2_1_11:w2.cell? ⟨w.heap.size+1,11,none⟩=some (.int .i64 0):=(cell_of_row _ _ _ _ _ _ HG2.out).trans rfl;have z2_1_11:w2.frozen? ⟨w.heap.size+1,11,none⟩=false:=frozen_of_row _ _ _ _ _ HG2.out;have x2_1_12:w2.cell? ⟨w.heap.size+1,12,none⟩=some (.int .i64 0):=(cell_of_row _ _ _ _ _ _ HG2.out).trans rfl;have z2_1_12:w2.frozen? ⟨w.heap.size+1,12,none⟩=false:=frozen_of_row _ _ _ _ _ HG2.out;have x2_1_13:w2.cell? ⟨w.heap.size+1,13,none⟩=some (.string ⟨#[]⟩):=(cell_of_row _ _ _ _ _ _ HG2.out).trans rfl;have z2_1_13:w2.frozen? ⟨w.heap.size+1,13,none⟩=false:=frozen_of_row _ _ _ _ _ HG2.out;have x2_1_14:w2.cell? ⟨w.heap.size+1,14,none⟩=some (.string ⟨#[]⟩):=(cell_of_row _ _ _ _ _ _ HG2.out).trans rfl;have z2_1_14:w2.frozen? ⟨w.heap.size+1,14,none⟩=false:=frozen_of_row _ _ _ _ _ HG2.out
 have x2_1_15:w2.cell? ⟨w.heap.size+1,15,none⟩=some (.slice none 0 0):=(cell_of_row _ _ _ _ _ _ HG2.out).trans rfl;have z2_1_15:w2.frozen? ⟨w.heap.size+1,15,none⟩=false:=frozen_of_row _ _ _ _ _ HG2.out;have HB2:=yq hbw2;have HSZ2:=yq hsz2;have HLO2:=yq hlo2;clear hb2 hbw2 hsz2 hlo2;clear x1_0_9 x1_0_10 x1_0_11 x1_0_12 x1_0_13 x1_0_14 x1_0_15 x1_2_0 x1_2_1 x1_2_2 x1_2_3 x1_2_4 x1_2_5 x1_2_6 x1_2_7 x1_2_8 x1_2_9 x1_2_10 x1_2_11 x1_2_12 x1_2_13 x1_2_14 x1_2_15 z1_2_0 z1_2_1 z1_2_2 z1_2_3 z1_2_4 z1_2_5 z1_2_6 z1_2_7 z1_2_8 z1_2_9 z1_2_10 z1_2_11 z1_2_12 z1_2_13 z1_2_14 z1_2_15;go_wp2
 refine bodyPost_ret (v:=.agg #[.string x.fd,.string x.fa,.int .i64 x.fe.fh,.int .i64 x.fe.fN,.int .i64 x.fe.fb,.int .i64 x.fe.fk,.string x.fe.fd,.string x.fe.fa,.slice a8r x.fe.fc.length c8r,.int .i64 x.ff.fh,.int .i64 x.ff.fN,.int .i64 x.ff.fb,.int .i64 x.ff.fk,.string x.ff.fd,.string x.ff.fa,.slice a15r x.ff.fc.length c15r]) (results_cell_row Tryz.results111 _ _ (w.heap.size+1) 110 #[.string x.fd,.string x.fa,.int .i64 x.fe.fh,.int .i64 x.fe.fN,.int .i64 x.fe.fb,.int .i64 x.fe.fk,.string x.fe.fd,.string x.fe.fa,.slice a8r x.fe.fc.length c8r,.int .i64 x.ff.fh,.int .i64 x.ff.fN,.int .i64 x.ff.fb,.int .i64 x.ff.fk,.string x.ff.fd,.string x.ff.fa,.slice a15r x.ff.fc.length c15r] (0,0) _ rfl (by refine Eq.trans (zm (cs:=#[.string x.fd,.string x.fa,.int .i64 x.fe.fh,.int .i64 x.fe.fN,.int .i64 x.fe.fb,.int .i64 x.fe.fk,.string x.fe.fd,.string x.fe.fa,.slice a8r x.fe.fc.length c8r,.int .i64 x.ff.fh,.int .i64 x.ff.fN,.int .i64 x.ff.fb,.int .i64 x.ff.fk,.string x.ff.fd,.string x.ff.fa,.slice none 0 0]) (t:=110) (fr:=(0,0)) ?_) rfl;refine Eq.trans (zm (cs:=#[.string x.fd,.string x.fa,.int .i64 x.fe.fh,.int .i64 x.fe.fN,.int .i64 x.fe.fb,.int .i64 x.fe.fk,.string x.fe.fd,.string x.fe.fa,.slice a8r x.fe.fc.length c8r,.int .i64 x.ff.fh,.int .i64 x.ff.fN,.int .i64 x.ff.fb,.int .i64 x.ff.fk,.string x.ff.fd,.string ⟨#[]⟩,.slice none 0 0]) (t:=110) (fr:=(0,0)) ?_) rfl;refine Eq.trans (zm (cs:=#[.string x.fd,.string x.fa,.int .i64 x.fe.fh,.int .i64 x.fe.fN,.int .i64 x.fe.fb,.int .i64 x.fe.fk,.string x.fe.fd,.string x.fe.fa,.slice a8r x.fe.fc.length c8r,.int .i64 x.ff.fh,.int .i64 x.ff.fN,.int .i64 x.ff.fb,.int .i64 x.ff.fk,.string ⟨#[]⟩,.string ⟨#[]⟩,.slice none 0 0]) (t:=110) (fr:=(0,0)) ?_) rfl;refine Eq.trans (zm (cs:=#[.string x.fd,.string x.fa,.int .i64 x.fe.fh,.int .i64 x.fe.fN,.int .i64 x.fe.fb,.int .i64 x.fe.fk,.string x.fe.fd,.string x.fe.fa,.slice a8r x.fe.fc.length c8r,.int .i64 x.ff.fh,.int .i64 x.ff.fN,.int .i64 x.ff.fb,.int .i64 0,.string ⟨#[]⟩,.string ⟨#[]⟩,.slice none 0 0]) (t:=110) (fr:=(0,0)) ?_) rfl;refine Eq.trans (zm (cs:=#[.string x.fd,.string x.fa,.int .i64 x.fe.fh,.int .i64 x.fe.fN,.int .i64 x.fe.fb,.int .i64 x.fe.fk,.string x.fe.fd,.string x.fe.fa,.slice a8r x.fe.fc.length c8r,.int .i64 x.ff.fh,.int .i64 x.ff.fN,.int .i64 0,.int .i64 0,.string ⟨#[]⟩,.string ⟨#[]⟩,.slice none 0 0]) (t:=110) (fr:=(0,0)) ?_) rfl;refine Eq.trans (zm (cs:=#[.string x.fd,.string x.fa,.int .i64 x.fe.fh,.int .i64 x.fe.fN,.int .i64 x.fe.fb,.int .i64 x.fe.fk,.string x.fe.fd,.string x.fe.fa,.slice a8r x.fe.fc.length c8r,.int .i64 x.ff.fh,.int .i64 0,.int .i64 0,.int .i64 0,.string ⟨#[]⟩,.string ⟨#[]⟩,.slice none 0 0]) (t:=110) (fr:=(0,0)) ?_) rfl;refine Eq.trans (zm (cs:=#[.string x.fd,.string x.fa,.int .i64 x.fe.fh,.int .i64 x.fe.fN,.int .i64 x.fe.fb,.int .i64 x.fe.fk,.string x.fe.fd,.string x.fe.fa,.slice a8r x.fe.fc.length c8r,.int .i64 0,.int .i64 0,.int .i64 0,.int .i64 0,.string ⟨#[]⟩,.string ⟨#[]⟩,.slice none 0 0]) (t:=110) (fr:=(0,0)) ?_) rfl;refine Eq.trans (zm (cs:=#[.string x.fd,.string x.fa,.int .i64 x.fe.fh,.int .i64 x.fe.fN,.int .i64 x.fe.fb,.int .i64 x.fe.fk,.string x.fe.fd,.string x.fe.fa,.slice none 0 0,.int .i64 0,.int .i64 0,.int .i64 0,.int .i64 0,.string ⟨#[]⟩,.string ⟨#[]⟩,.slice none 0 0]) (t:=110) (fr:=(0,0)) ?_) rfl;refine Eq.trans (zm (cs:=#[.string x.fd,.string x.fa,.int .i64 x.fe.fh,.int .i64 x.fe.fN,.int .i64 x.fe.fb,.int .i64 x.fe.fk,.string x.fe.fd,.string ⟨#[]⟩,.slice none 0 0,.int .i64 0,.int .i64 0,.int .i64 0,.int .i64 0,.string ⟨#[]⟩,.string ⟨#[]⟩,.slice none 0 0]) (t:=110) (fr:=(0,0)) ?_) rfl;refine Eq.trans (zm (cs:=#[.string x.fd,.string x.fa,.int .i64 x.fe.fh,.int .i64 x.fe.fN,.int .i64 x.fe.fb,.int .i64 x.fe.fk,.string ⟨#[]⟩,.string ⟨#[]⟩,.slice none 0 0,.int .i64 0,.int .i64 0,.int .i64 0,.int .i64 0,.string ⟨#[]⟩,.string ⟨#[]⟩,.slice none 0 0]) (t:=110) (fr:=(0,0)) ?_) rfl;refine Eq.trans (zm (cs:=#[.string x.fd,.string x.fa,.int .i64 x.fe.fh,.int .i64 x.fe.fN,.int .i64 x.fe.fb,.int .i64 0,.string ⟨#[]⟩,.string ⟨#[]⟩,.slice none 0 0,.int .i64 0,.int .i64 0,.int .i64 0,.int .i64 0,.string ⟨#[]⟩,.string ⟨#[]⟩,.slice none 0 0]) (t:=110) (fr:=(0,0)) ?_) rfl;refine Eq.trans (zm (cs:=#[.string x.fd,.string x.fa,.int .i64 x.fe.fh,.int .i64 x.fe.fN,.int .i64 0,.int .i64 0,.string ⟨#[]⟩,.string ⟨#[]⟩,.slice none 0 0,.int .i64 0,.int .i64 0,.int .i64 0,.int .i64 0,.string ⟨#[]⟩,.string ⟨#[]⟩,.slice none 0 0]) (t:=110) (fr:=(0,0)) ?_) rfl;refine Eq.trans (zm (cs:=#[.string x.fd,.string x.fa,.int .i64 x.fe.fh,.int .i64 0,.int .i64 0,.int .i64 0,.string ⟨#[]⟩,.string ⟨#[]⟩,.slice none 0 0,.int .i64 0,.int .i64 0,.int .i64 0,.int .i64 0,.string ⟨#[]⟩,.string ⟨#[]⟩,.slice none 0 0]) (t:=110) (fr:=(0,0)) ?_) rfl;refine Eq.trans (zm (cs:=#[.string x.fd,.string x.fa,.int .i64 0,.int .i64 0,.int .i64 0,.int .i64 0,.string ⟨#[]⟩,.string ⟨#[]⟩,.slice none 0 0,.int .i64 0,.int .i64 0,.int .i64 0,.int .i64 0,.string ⟨#[]⟩,.string ⟨#[]⟩,.slice none 0 0]) (t:=110) (fr:=(0,0)) ?_) rfl;refine Eq.trans (zm (cs:=#[.string x.fd,.string ⟨#[]⟩,.int .i64 0,.int .i64 0,.int .i64 0,.int .i64 0,.string ⟨#[]⟩,.string ⟨#[]⟩,.slice none 0 0,.int .i64 0,.int .i64 0,.int .i64 0,.int .i64 0,.string ⟨#[]⟩,.string ⟨#[]⟩,.slice none 0 0]) (t:=110) (fr:=(0,0)) ?_) rfl;refine Eq.trans (zm (cs:=#[.string ⟨#[]⟩,.string ⟨#[]⟩,.int .i64 0,.int .i64 0,.int .i64 0,.int .i64 0,.string ⟨#[]⟩,.string ⟨#[]⟩,.slice none 0 0,.int .i64 0,.int .i64 0,.int .i64 0,.int .i64 0,.string ⟨#[]⟩,.string ⟨#[]⟩,.slice none 0 0]) (t:=110) (fr:=(0,0)) ?_) rfl;repeat (first|(with_reducible exact HG2.out)|(refine zaj (by simp) ?_))) Tryz.underlying110 rfl rfl) rfl ⟨a8r,c8r,a15r,c15r,rfl,?_,(by repeat (first|(with_reducible exact HB2.out)|(with_reducible exact Below.refl _ _)|(refine Below.setCell ?_ ye _)|(refine Below.alloc ?_ ye _)):Below w.heap.size w _)⟩
 have ho1:=HO1_2.out;clear HO1_2;have ho2:=HO2_2.out;clear HO2_2;have q1:=HLO1.out;have q2:=HLO2.out;skip;skip
 have hkk : ∀ w9:World,Kept (fun y=>w.heap.size+3≤y) w2 w9→OwnR w9 (fun y=>w.heap.size≤y∧y < w2.heap.size) 16 x.ct (fun j=>[.string x.fd,.string x.fa,.int .i64 x.fe.fh,.int .i64 x.fe.fN,.int .i64 x.fe.fb,.int .i64 x.fe.fk,.string x.fe.fd,.string x.fe.fa,.slice a8r x.fe.fc.length c8r,.int .i64 x.ff.fh,.int .i64 x.ff.fN,.int .i64 x.ff.fb,.int .i64 x.ff.fk,.string x.ff.fd,.string x.ff.fa,.slice a15r x.ff.fc.length c15r].getD j .nilFunc):=fun w9 hk=>by
  refine OwnR.append (F1:=fun _=>False) (F2:=fun y=>w.heap.size+3≤y∧y < w2.heap.size) (m:=2) (n:=14) ?_ ?_ yo ym ym
  ·skip
   refine OwnR.lits (F:=fun _=>False) fun j hj=>?_
   match j,hj with
   | 0,_=>rfl
   | 1,_=>rfl
  ·skip
   refine OwnR.append (F1:=fun y=>w.heap.size+3≤y∧y < w1.heap.size) (F2:=fun y=>w1.heap.size≤y∧y < w2.heap.size) (m:=7) (n:=7) ?_ ?_ yo ym ym
   ·skip
    refine OwnR.congr (ho1.kept (hk.sub fun y hy=>by have h:=hy.1;omega)) (fun j hj=>?_) (fun j hj=>?_)
    ·match j,hj with
     | 0,_=>rfl
     | 1,_=>rfl
     | 2,_=>rfl
     | 3,_=>rfl
     | 4,_=>rfl
     | 5,_=>rfl
     | 6,_=>rfl
    ·match j,hj with
     | 0,_=>rfl
     | 1,_=>rfl
     | 2,_=>rfl
     | 3,_=>rfl
     | 4,_=>rfl
     | 5,_=>rfl
     | 6,_=>rfl
   ·skip
    refine OwnR.congr (ho2.kept (hk.sub fun y hy=>by have h:=hy.1;omega)) (fun j hj=>?_) (fun j hj=>?_)
    ·match j,hj with
     | 0,_=>rfl
     | 1,_=>rfl
     | 2,_=>rfl
     | 3,_=>rfl
     | 4,_=>rfl
     | 5,_=>rfl
     | 6,_=>rfl
    ·match j,hj with
     | 0,_=>rfl
     | 1,_=>rfl
     | 2,_=>rfl
     | 3,_=>rfl
     | 4,_=>rfl
     | 5,_=>rfl
     | 6,_=>rfl
 refine (hkk _ (by repeat (first|(with_reducible exact Kept.refl)|(refine Kept.put ?_ (by intro h1;dsimp only at h1;omega))))).sub (fun y hy=>⟨hy.1,Nat.lt_of_lt_of_le hy.2 (by simp)⟩)
theorem zhn:(Tryz.prog.info? 110).map (fun i=>(i.zero,i.size,i.bytes))=some (some (.agg #[.string ⟨#[]⟩,.string ⟨#[]⟩,.int .i64 0,.int .i64 0,.int .i64 0,.int .i64 0,.string ⟨#[]⟩,.string ⟨#[]⟩,.slice none 0 0,.int .i64 0,.int .i64 0,.int .i64 0,.int .i64 0,.string ⟨#[]⟩,.string ⟨#[]⟩,.slice none 0 0]),16,208):=by kernel_rfl
theorem zfp {lo hi:Nat} {a:Option Addr} {cap:Nat} (l:List DContribution) (hsz:lsz DContribution.sz l≤1048576) (w:World) (hhi:hi≤w.heap.size) (hs:Sl lo hi w 16 l.length (fun k=>DContribution.ct (l.getD k default)) a) :
  Calls Tryz.prog 75 #[.slice a l.length cap] w fun e w'=>∃ a' cap',e = .returned (.slice a' l.length cap')∧Own w' (fun x=>w.heap.size≤x∧x < w'.heap.size) (.sl 16 l.length (fun k=>DContribution.ct (l.getD k default))) (.slice a' l.length cap')∧Below w.heap.size w w':=by
 have HS:=yq hs;clear hs;have HW:=yq hsz
 have hn:l.length≤1048576:=by unfold lsz at hsz;omega
 clear hsz;obtain ⟨i0,hi',hz0,hz1,hz2⟩:=info_parts zhn
 go_enter Tryz.func75,Tryz.ntmps75
 go_wp2_with (at_make;refine wpList_make_full _ rfl (.tmp 6) (.tmp 6) 48 rfl w.heap.size 110 i0 (.agg #[.string ⟨#[]⟩,.string ⟨#[]⟩,.int .i64 0,.int .i64 0,.int .i64 0,.int .i64 0,.string ⟨#[]⟩,.string ⟨#[]⟩,.slice none 0 0,.int .i64 0,.int .i64 0,.int .i64 0,.int .i64 0,.string ⟨#[]⟩,.string ⟨#[]⟩,.slice none 0 0]) 16 Tryz.underlying48 hi' hz0 hz1 .i64 .i64 (l.length:Int) (l.length:Int) l.length rfl rfl rfl rfl (by rw [hz2];omega) yl (Nat.le_refl _) ?_;intro w1 hown hgrow)
 have hb1:Below w.heap.size w w1:=(Below.refl _ w).grown hgrow (Nat.le_refl _) (fun k hk=>by cases hk)
 clear hgrow;have hblk:=(zak hown).1
 go_loopw [4] (fun i wr=>∃ (k:Nat) (xs:List Value),k≤l.length∧i = .int .i64 (k:Int)∧wr.ownsRow w.heap.size 110 16 (.slice (some ⟨w.heap.size,0,none⟩) l.length l.length) l.length xs∧za7 w.heap.size wr 16 k (fun k=>DContribution.ct (l.getD k default)) xs∧Below w.heap.size w wr) (fun i _=>l.length - (intOf i).toNat)
 case atStart=>exact ⟨0,_,Nat.zero_le _,rfl,hown,za7.zero hblk,hb1⟩
 case round =>
  clear hown hb1 hblk;obtain ⟨k,xs,hk,rfl,hown,hfill,hb⟩:=hrel;have hblk:=zak hown;have HO:=yq hown;have HF:=yq hfill;have HB:=yq hb;clear hown hfill
  by_cases hlt:k < l.length
  ·have hhr:hi≤wr.heap.size:=Nat.le_trans hhi hb.size
   obtain ⟨b,off,rfl,hlo,hhi',hc⟩:=(HS.out.later (hb.mono hhi) (Nat.le_refl _)).at k hlt;obtain ⟨a8,c8,a15,c15,hc0_,hc1_,hc2_,hc3_,hc4_,hc5_,hc6_,hc7_,hc8_,hc9_,hc10_,hc11_,hc12_,hc13_,hc14_,hc15_,hs8,hs15⟩:=DContribution.open hc
   have hkn:k * 16+16≤l.length * 16:=by omega
   have d0:=hblk.2.2.1 (k * 16) (by omega)
   have z0:=hblk.2.2.2 (k * 16)
   have d1:=hblk.2.2.1 (k * 16+1) (by omega)
   have z1:=hblk.2.2.2 (k * 16+1)
   have d2:=hblk.2.2.1 (k * 16+2) (by omega)
   have z2:=hblk.2.2.2 (k * 16+2)
   have d3:=hblk.2.2.1 (k * 16+3) (by omega)
   have z3:=hblk.2.2.2 (k * 16+3)
   have d4:=hblk.2.2.1 (k * 16+4) (by omega)
   have z4:=hblk.2.2.2 (k * 16+4)
   have d5:=hblk.2.2.1 (k * 16+5) (by omega)
   have z5:=hblk.2.2.2 (k * 16+5)
   have d6:=hblk.2.2.1 (k * 16+6) (by omega)
   have z6:=hblk.2.2.2 (k * 16+6)
   have d7:=hblk.2.2.1 (k * 16+7) (by omega)
   have z7:=hblk.2.2.2 (k * 16+7)
   have d8:=hblk.2.2.1 (k * 16+8) (by omega)
   have z8:=hblk.2.2.2 (k * 16+8)
   have d9:=hblk.2.2.1 (k * 16+9) (by omega)
   have z9:=hblk.2.2.2 (k * 16+9)
   have d10:=hblk.2.2.1 (k * 16+10) (by omega)
   have z10:=hblk.2.2.2 (k * 16+10)
   have d11:=hblk.2.2.1 (k * 16+11) (by omega)
   have z11:=hblk.2.2.2 (k * 16+11)
   have d12:=hblk.2.2.1 (k * 16+12) (by omega)
   have z12:=hblk.2.2.2 (k * 16+12)
   have d13:=hblk.2.2.1 (k * 16+13) (by omega)
   have z13:=hblk.2.2.2 (k * 16+13)
   have d14:=hblk.2.2.1 (k * 16+14) (by omega)
   have z14:=hblk.2.2.2 (k * 16+14)
   have d15:=hblk.2.2.1 (k * 16+15) (by omega)
   have z15:=hblk.2.2.2 (k * 16+15);have hsz:=hblk.1;clear hblk hb hc;have hxs:=zab (f:=DContribution.sz) l k hlt;generalize hx:l.getD k default=x at *;have HX:=yq hx;clear hx;generalize xs.getD (k * 16) Value.nilFunc=v0 at d0;generalize xs.getD (k * 16+1) Value.nilFunc=v1 at d1;generalize xs.getD (k * 16+2) Value.nilFunc=v2 at d2;generalize xs.getD (k * 16+3) Value.nilFunc=v3 at d3;generalize xs.getD (k * 16+4) Value.nilFunc=v4 at d4;generalize xs.getD (k * 16+5) Value.nilFunc=v5 at d5;generalize xs.getD (k * 16+6) Value.nilFunc=v6 at d6;generalize xs.getD (k * 16+7) Value.nilFunc=v7 at d7;generalize xs.getD (k * 16+8) Value.nilFunc=v8 at d8;generalize xs.getD (k * 16+9) Value.nilFunc=v9 at d9;generalize xs.getD (k * 16+10) Value.nilFunc=v10 at d10;generalize xs.getD (k * 16+11) Value.nilFunc=v11 at d11;generalize xs.getD (k * 16+12) Value.nilFunc=v12 at d12;generalize xs.getD (k * 16+13) Value.nilFunc=v13 at d13;generalize xs.getD (k * 16+14) Value.nilFunc=v14 at d14;generalize xs.getD (k * 16+15) Value.nilFunc=v15 at d15
   have HT:=yq (zf0 (c8:=c8) (c15:=c15) x (by have h1:=HW.out;omega) wr hhr hs8 hs15)
   clear hxs hs8 hs15;(go_wp2_with fail);refine HT.out.mono ?_;rintro e w1 ⟨a8r,c8r,a15r,c15r,rfl,ho1,hb1⟩;have HOR:=yq ho1;clear ho1;have e0:=(hb1.cell (p:=⟨w.heap.size,k * 16,none⟩) hsz).trans d0;have y0:=(hb1.frozen (p:=⟨w.heap.size,k * 16,none⟩) hsz).trans z0;have e1:=(hb1.cell (p:=⟨w.heap.size,k * 16+1,none⟩) hsz).trans d1;have y1:=(hb1.frozen (p:=⟨w.heap.size,k * 16+1,none⟩) hsz).trans z1;have e2:=(hb1.cell (p:=⟨w.heap.size,k * 16+2,none⟩) hsz).trans d2;have y2:=(hb1.frozen (p:=⟨w.heap.size,k * 16+2,none⟩) hsz).trans z2;have e3:=(hb1.cell (p:=⟨w.heap.size,k * 16+3,none⟩) hsz).trans d3;have y3:=(hb1.frozen (p:=⟨w.heap.size,k * 16+3,none⟩) hsz).trans z3;have e4:=(hb1.cell (p:=⟨w.heap.size,k * 16+4,none⟩) hsz).trans d4;have y4:=(hb1.frozen (p:=⟨w.heap.size,k * 16+4,none⟩) hsz).trans z4;have e5:=(hb1.cell (p:=⟨w.heap.size,k * 16+5,none⟩) hsz).trans d5;have y5:=(hb1.frozen (p:=⟨w.heap.size,k * 16+5,none⟩) hsz).trans z5;have e6:=(hb1.cell (p:=⟨w.heap.size,k * 16+6,none⟩) hsz).trans d6;have y6:=(hb1.frozen (p:=⟨w.heap.size,k * 16+6,none⟩) hsz).trans z6;have e7:=(hb1.cell (p:=⟨w.heap.size,k * 16+7,none⟩) hsz).trans d7;have y7:=(hb1.frozen (p:=⟨w.heap.size,k * 16+7,none⟩) hsz).trans z7;have e8:=(hb1.cell (p:=⟨w.heap.size,k * 16+8,none⟩) hsz).trans d8;have y8:=(hb1.frozen (p:=⟨w.heap.size,k * 16+8,none⟩) hsz).trans z8;have e9:=(hb1.cell (p:=⟨w.heap.size,k * 16+9,none⟩) hsz).trans d9;have y9:=(hb1.frozen (p:=⟨w.heap.size,k * 16+9,none⟩) hsz).trans z9;have e10:=(hb1.cell (p:=⟨w.heap.size,k * 16+10,none⟩) hsz).trans d10;have y10:=(hb1.frozen (p:=⟨w.heap.size,k * 16+10,none⟩) hsz).trans z10;have e11:=(hb1.cell (p:=⟨w.heap.size,k * 16+11,none⟩) hsz).trans d11;have y11:=(hb1.frozen (p:=⟨w.heap.size,k * 16+11,none⟩) hsz).trans z11;have e12:=(hb1.cell (p:=⟨w.heap.size,k * 16+12,none⟩) hsz).trans d12;have y12:=(hb1.frozen (p:=⟨w.heap.size,k * 16+12,none⟩) hsz).trans z12;have e13:=(hb1.cell (p:=⟨w.heap.size,k * 16+13,none⟩) hsz).trans d13;have y13:=(hb1.frozen (p:=⟨w.heap.size,k * 16+13,none⟩) hsz).trans z13
   have e14:=(hb1.cell (p:=⟨w.heap.size,k * 16+14,none⟩) hsz).trans d14;have y14:=(hb1.frozen (p:=⟨w.heap.size,k * 16+14,none⟩) hsz).trans z14;have e15:=(hb1.cell (p:=⟨w.heap.size,k * 16+15,none⟩) hsz).trans d15;have y15:=(hb1.frozen (p:=⟨w.heap.size,k * 16+15,none⟩) hsz).trans z15;have HB1:=yq hb1;clear hb1 d0 z0 d1 z1 d2 z2 d3 z3 d4 z4 d5 z5 d6 z6 d7 z7 d8 z8 d9 z9 d10 z10 d11 z11 d12 z12 d13 z13 d14 z14 d15 z15;go_wp2;go_roundw
   case rel =>
    have hst:=HF.out.stored HB1.out hsz (zl HO.out HB1.out) hlt [.string x.fd,.string x.fa,.int .i64 x.fe.fh,.int .i64 x.fe.fN,.int .i64 x.fe.fb,.int .i64 x.fe.fk,.string x.fe.fd,.string x.fe.fa,.slice a8r x.fe.fc.length c8r,.int .i64 x.ff.fh,.int .i64 x.ff.fN,.int .i64 x.ff.fb,.int .i64 x.ff.fk,.string x.ff.fd,.string x.ff.fa,.slice a15r x.ff.fc.length c15r] rfl ((by rw [HX.out];exact HOR.out))
    exact ⟨k+1,_,by omega,by go_num,hst.1,hst.2,za8 (Nat.le_refl _) [_,_,_,_,_,_,_,_,_,_,_,_,_,_,_,_] _ (HB.out.trans (HB1.out.mono HB.out.size))⟩
   case measure=>simp [intOf];omega
  ·obtain rfl:k=l.length:=by omega
   go_wp2;go_ret;exact ⟨_,_,rfl,HF.out.own hblk.1 hblk.2.2.1 hblk.2.2.2,hb⟩
theorem zga {lo hi lo2 hi2:Nat} {a8:Option Addr} {c8:Nat} {a15:Option Addr} {c15:Nat} {a8q:Option Addr} {c8q:Nat} {a15q:Option Addr} {c15q:Nat} (x:DContribution) (hsz:x.sz≤1048576) (w:World) (hhi:hi≤w.heap.size) (hhi2:hi2≤w.heap.size) (hs8:Sl lo hi w 7 x.fe.fc.length (ctE x.fe.fc) a8) (hs15:Sl lo hi w 7 x.ff.fc.length (ctE x.ff.fc) a15) (hs8q:Sl lo2 hi2 w 7 x.fe.fc.length (ctE x.fe.fc) a8q) (hs15q:Sl lo2 hi2 w 7 x.ff.fc.length (ctE x.ff.fc) a15q) :
  Calls Tryz.prog 133 #[.agg #[.string x.fd,.string x.fa,.int .i64 x.fe.fh,.int .i64 x.fe.fN,.int .i64 x.fe.fb,.int .i64 x.fe.fk,.string x.fe.fd,.string x.fe.fa,.slice a8 x.fe.fc.length c8,.int .i64 x.ff.fh,.int .i64 x.ff.fN,.int .i64 x.ff.fb,.int .i64 x.ff.fk,.string x.ff.fd,.string x.ff.fa,.slice a15 x.ff.fc.length c15],.agg #[.string x.fd,.string x.fa,.int .i64 x.fe.fh,.int .i64 x.fe.fN,.int .i64 x.fe.fb,.int .i64 x.fe.fk,.string x.fe.fd,.string x.fe.fa,.slice a8q x.fe.fc.length c8q,.int .i64 x.ff.fh,.int .i64 x.ff.fN,.int .i64 x.ff.fb,.int .i64 x.ff.fk,.string x.ff.fd,.string x.ff.fa,.slice a15q x.ff.fc.length c15q]] w fun e w'=>e = .returned (.bool true)∧Below w.heap.size w w':=by
 have HS8:=yq hs8;have HS8q:=yq hs8q;have HS15:=yq hs15;have HS15q:=yq hs15q;clear hs8 hs8q hs15 hs15q;have HW:=yq hsz;clear hsz;have HB0:=yq (((Below.refl w.heap.size w).alloc (Nat.le_refl _) (.cells #[.string x.fd,.string x.fa,.int .i64 x.fe.fh,.int .i64 x.fe.fN,.int .i64 x.fe.fb,.int .i64 x.fe.fk,.string x.fe.fd,.string x.fe.fa,.slice a8 x.fe.fc.length c8,.int .i64 x.ff.fh,.int .i64 x.ff.fN,.int .i64 x.ff.fb,.int .i64 x.ff.fk,.string x.ff.fd,.string x.ff.fa,.slice a15 x.ff.fc.length c15] 110)).alloc ye (.cells #[.string x.fd,.string x.fa,.int .i64 x.fe.fh,.int .i64 x.fe.fN,.int .i64 x.fe.fb,.int .i64 x.fe.fk,.string x.fe.fd,.string x.fe.fa,.slice a8q x.fe.fc.length c8q,.int .i64 x.ff.fh,.int .i64 x.ff.fN,.int .i64 x.ff.fb,.int .i64 x.ff.fk,.string x.ff.fd,.string x.ff.fa,.slice a15q x.ff.fc.length c15q] 110))
 have ht0:=fun (w':World) (hhi:hi≤w'.heap.size) (hhi2:hi2≤w'.heap.size) (hs8:Sl lo hi w' 7 x.fe.fc.length (ctE x.fe.fc) a8) (hs8q:Sl lo2 hi2 w' 7 x.fe.fc.length (ctE x.fe.fc) a8q)=>zf2 (c6:=c8) (c6q:=c8q) x.fe (by have h:=HW.out;unfold DContribution.sz at h;omega) w' hhi hhi2 hs8 hs8q
 have HT0:=yq ht0;clear ht0
 have ht1:=fun (w':World) (hhi:hi≤w'.heap.size) (hhi2:hi2≤w'.heap.size) (hs15:Sl lo hi w' 7 x.ff.fc.length (ctE x.ff.fc) a15) (hs15q:Sl lo2 hi2 w' 7 x.ff.fc.length (ctE x.ff.fc) a15q)=>zf2 (c6:=c15) (c6q:=c15q) x.ff (by have h:=HW.out;unfold DContribution.sz at h;omega) w' hhi hhi2 hs15 hs15q
 have HT1:=yq ht1;clear ht1
 go_enter Tryz.func133,Tryz.ntmps133
 (go_wp2_with fail);refine (HT0.out _ (Nat.le_trans hhi (HB0.out.size)) (Nat.le_trans hhi2 (HB0.out.size)) (HS8.out.later HB0.out hhi) (HS8q.out.later HB0.out hhi2)).mono ?_;rintro e w1 ⟨rfl,hb1⟩
 have x1_0_9:w1.cell? ⟨w.heap.size,9,none⟩=some (.int .i64 x.ff.fh):=(hb1.cell (p:=⟨w.heap.size,9,none⟩) yd).trans (by go_simp)
 have x1_0_10:w1.cell? ⟨w.heap.size,10,none⟩=some (.int .i64 x.ff.fN):=(hb1.cell (p:=⟨w.heap.size,10,none⟩) yd).trans (by go_simp)
 have x1_0_11:w1.cell? ⟨w.heap.size,11,none⟩=some (.int .i64 x.ff.fb):=(hb1.cell (p:=⟨w.heap.size,11,none⟩) yd).trans (by go_simp)
 have x1_0_12:w1.cell? ⟨w.heap.size,12,none⟩=some (.int .i64 x.ff.fk):=(hb1.cell (p:=⟨w.heap.size,12,none⟩) yd).trans (by go_simp)
 have x1_0_13:w1.cell? ⟨w.heap.size,13,none⟩=some (.string x.ff.fd):=(hb1.cell (p:=⟨w.heap.size,13,none⟩) yd).trans (by go_simp)
 have x1_0_14:w1.cell? ⟨w.heap.size,14,none⟩=some (.string x.ff.fa):=(hb1.cell (p:=⟨w.heap.size,14,none⟩) yd).trans (by go_simp)
 have x1_0_15:w1.cell? ⟨w.heap.size,15,none⟩=some (.slice a15 x.ff.fc.length c15):=(hb1.cell (p:=⟨w.heap.size,15,none⟩) yd).trans (by go_simp)
 have x1_1_9:w1.cell? ⟨w.heap.size+1,9,none⟩=some (.int .i64 x.ff.fh):=(hb1.cell (p:=⟨w.heap.size+1,9,none⟩) yd).trans (by go_simp)
 have x1_1_10:w1.cell? ⟨w.heap.size+1,10,none⟩=some (.int .i64 x.ff.fN):=(hb1.cell (p:=⟨w.heap.size+1,10,none⟩) yd).trans (by go_simp)
 have x1_1_11:w1.cell? ⟨w.heap.size+1,11,none⟩=some (.int .i64 x.ff.fb):=(hb1.cell (p:=⟨w.heap.size+1,11,none⟩) yd).trans (by go_simp)
 have x1_1_12:w1.cell? ⟨w.heap.size+1,12,none⟩=some (.int .i64 x.ff.fk):=(hb1.cell (p:=⟨w.heap.size+1,12,none⟩) yd).trans (by go_simp)
 have x1_1_13:w1.cell? ⟨w.heap.size+1,13,none⟩=some (.string x.ff.fd):=(hb1.cell (p:=⟨w.heap.size+1,13,none⟩) yd).trans (by go_simp)
 have x1_1_14:w1.cell? ⟨w.heap.size+1,14,none⟩=some (.string x.ff.fa):=(hb1.cell (p:=⟨w.heap.size+1,14,none⟩) yd).trans (by go_simp)
 have x1_1_15:w1.cell? ⟨w.heap.size+1,15,none⟩=some (.slice a15q x.ff.fc.length c15q):=(hb1.cell (p:=⟨w.heap.size+1,15,none⟩) yd).trans (by go_simp)
 have hsz1:w.heap.size+1 < w1.heap.size:=Nat.lt_of_lt_of_le yd hb1.size;have HB1:=yq (HB0.out.trans (hb1.mono HB0.out.size));clear hb1;(go_wp2_with fail);refine (HT1.out _ (Nat.le_trans hhi (HB1.out.size)) (Nat.le_trans hhi2 (HB1.out.size)) (HS15.out.later HB1.out hhi) (HS15q.out.later HB1.out hhi2)).mono ?_;rintro e w2 ⟨rfl,hb2⟩;have HB2:=yq (HB1.out.trans (hb2.mono HB1.out.size));clear hb2;clear x1_0_9 x1_0_10 x1_0_11 x1_0_12 x1_0_13 x1_0_14 x1_0_15 x1_1_9 x1_1_10 x1_1_11 x1_1_12 x1_1_13 x1_1_14 x1_1_15 hsz1;go_wp2;go_ret;exact ⟨rfl,HB2.out⟩
theorem zfl {lo hi lo2 hi2:Nat} {a a2:Option Addr} {cap cap2:Nat} (l:List DContribution) (hsz:lsz DContribution.sz l≤1048576) (w:World) (hhi:hi≤w.heap.size) (hhi2:hi2≤w.heap.size) (hs:Sl lo hi w 16 l.length (fun k=>DContribution.ct (l.getD k default)) a) (hs2:Sl lo2 hi2 w 16 l.length (fun k=>DContribution.ct (l.getD k default)) a2) :
  Calls Tryz.prog 97 #[.slice a l.length cap,.slice a2 l.length cap2] w fun e w'=>e = .returned (.bool true)∧Below w.heap.size w w':=by
 have HS:=yq hs;have HS2:=yq hs2;have HW:=yq hsz
 have hn:l.length≤1048576:=by unfold lsz at hsz;omega
 clear hs hs2 hsz
 go_enter Tryz.func97,Tryz.ntmps97
 go_wp2
 go_loopw [5] (fun i wr=>∃ k:Nat,k≤l.length∧i = .int .i64 (k:Int)∧Below w.heap.size w wr) (fun i _=>l.length - (intOf i).toNat)
 case atStart=>exact ⟨0,Nat.zero_le _,rfl,Below.refl _ _⟩
 case round =>
  obtain ⟨k,hk,rfl,hb⟩:=hrel;have HB:=yq hb
  by_cases hlt:k < l.length
  ·have hhr:hi≤wr.heap.size:=Nat.le_trans hhi hb.size
   have hhr2:hi2≤wr.heap.size:=Nat.le_trans hhi2 hb.size;obtain ⟨b,off,rfl,_,hhi',hc⟩:=(HS.out.later (hb.mono hhi) (Nat.le_refl _)).at k hlt;obtain ⟨b2,off2,rfl,_,hhi2',hc2⟩:=(HS2.out.later (hb.mono hhi2) (Nat.le_refl _)).at k hlt;obtain ⟨a8,c8,a15,c15,hc0_,hc1_,hc2_,hc3_,hc4_,hc5_,hc6_,hc7_,hc8_,hc9_,hc10_,hc11_,hc12_,hc13_,hc14_,hc15_,hs8,hs15⟩:=DContribution.open hc;obtain ⟨a8q,c8q,a15q,c15q,hc0q_,hc1q_,hc2q_,hc3q_,hc4q_,hc5q_,hc6q_,hc7q_,hc8q_,hc9q_,hc10q_,hc11q_,hc12q_,hc13q_,hc14q_,hc15q_,hs8q,hs15q⟩:=DContribution.open hc2;have hxs:=zab (f:=DContribution.sz) l k hlt;clear hb hc hc2;generalize l.getD k default=x at *
   have HT:=yq (fun (w':World) (hw:Below wr.heap.size wr w')=>zga (c8:=c8) (c8q:=c8q) (c15:=c15) (c15q:=c15q) x (by have h1:=HW.out;omega) w' (Nat.le_trans hhr hw.size) (Nat.le_trans hhr2 hw.size) (hs8.later hw hhr) (hs15.later hw hhr) (hs8q.later hw hhr2) (hs15q.later hw hhr2))
   clear hxs hs8 hs8q hs15 hs15q;(go_wp2_with fail)
   go_region_with ((go_at_call 133;refine (HT.out _ (by first|exact Below.refl _ _|exact (Below.refl _ _).drew|exact below_drewN (Below.refl _ _) _)).mono ?_;rintro e w1 ⟨rfl,hb1⟩))
   all_goals
    go_wp2;go_roundw
    case rel =>
     refine ⟨k+1,by omega,by go_num,?_⟩
     have hb2:Below wr.heap.size wr w1:=⟨hb1.os,hb1.tape,hb1.output,hb1.size,hb1.block⟩
     repeat (first|exact HB.out.trans (hb2.mono HB.out.size)|apply Below.drew|refine below_drewN ?_ _)
    case measure=>simp [intOf];omega
  ·go_wp2
   go_ret;exact ⟨rfl,HB.out⟩
theorem zrh:(Tryz.prog.info? 9).map (fun i=>(i.zero,i.size,i.bytes))=some (some (.string ⟨#[]⟩),1,16):=by kernel_rfl
theorem zd6 {lo hi b o:Nat} {w:World} {x:ByteArray} (h : ∀ j,j < 1 → ∃ u,w.cell? ⟨b,o+j,none⟩=some u∧Lies lo hi w (ictS x j) u):w.cell? ⟨b,o,none⟩=some (.string x):=by
 obtain ⟨u0,hc0,hl0⟩:=h 0 (by decide)
 obtain rfl:=zr hl0;exact hc0
theorem zcm {lo hi:Nat} {a:Option Addr} {cap:Nat} (l:List ByteArray) (L:Int) (hL0:0≤L) (hL1:L≤1048576) (hok:okL okS l) (w:World) (_:hi≤w.heap.size) (hs:Sl lo hi w 1 l.length (fun k=>ictS (l.getD k default)) a) :
  Calls Tryz.prog 59 #[.slice a l.length cap,.int .i64 L] w fun e w'=>e = .returned (.int .i64 (szR L (lsz ByteArray.size l)))∧Below w.heap.size w w':=by
 have HS:=yq hs;have HK:=yq hok;have hn:l.length≤9223372036854775807:=hok.1;clear hs hok
 by_cases hlong:L < ((l.length:Nat):Int)
 ·have fin:=yq (zae (n:=lsz ByteArray.size l) (L:=L) (by unfold lsz;omega))
  go_enter Tryz.func59,Tryz.ntmps59
  go_wp2;go_ret;exact ⟨zan fin.out.symm,Below.refl _ _⟩
 ·go_enter Tryz.func59,Tryz.ntmps59
  go_wp2
  go_loop [1,5] (fun q i=>∃ k:Nat,k≤l.length∧i = .int .i64 (k:Int)∧q = .int .i64 (L - l.length - psz ByteArray.size l k)∧(l.length:Int)+psz ByteArray.size l k≤L) (fun _ i=>l.length - (intOf i).toNat)
  case atStart=>exact ⟨0,Nat.zero_le _,rfl,by rw [zba];go_num,by rw [zba];omega⟩
  case round =>
   obtain ⟨k,hk,rfl,rfl,hle⟩:=hrel
   by_cases hlt:k < l.length
   ·have hsu:=yq (zc0 ByteArray.size l k hlt)
    have hle2:=yq (zhd ByteArray.size l (k+1));have hokk:(l.getD k default).size≤9223372036854775807:=HK.out.at hlt;obtain ⟨b,off,rfl,hlo,hhi',hc⟩:=HS.out.at k hlt;rw [Nat.mul_one] at hc;have hc0:=zd6 hc;clear hc;generalize l.getD k default=x at *;generalize psz ByteArray.size l k=S at *
    by_cases hf:L - l.length - S < ((x.size:Nat):Int)
    ·have fin:=yq (zae (n:=lsz ByteArray.size l) (L:=L) (by have h1:=hsu.out;have h2:=hle2.out;omega))
     go_wp2;go_ret;exact ⟨zan fin.out.symm,Below.refl _ _⟩
    ·go_wp2
     go_round
     case rel=>exact ⟨k+1,by omega,by go_num,by rw [hsu.out];go_num,by rw [hsu.out];omega⟩
     case measure=>simp [intOf];omega
   ·obtain rfl:k=l.length:=by omega
    have fin:=yq (zas (n:=lsz ByteArray.size l) (L:=L) (by unfold lsz;rw [zb0] at hle;omega))
    have fin2:=yq (zb0 ByteArray.size l);go_wp2;go_ret
    exact ⟨zan (by rw [fin.out,fin2.out];unfold lsz;omega),Below.refl _ _⟩
theorem zl3 {lo hi:Nat} {a:Option Addr} {cap:Nat} (l:List ByteArray) (hsz:lsz ByteArray.size l≤1048576) (w:World) (hhi:hi≤w.heap.size) (hs:Sl lo hi w 1 l.length (fun k=>ictS (l.getD k default)) a) :
  Calls Tryz.prog 73 #[.slice a l.length cap] w fun e w'=>∃ a' cap',e = .returned (.slice a' l.length cap')∧Own w' (fun x=>w.heap.size≤x∧x < w'.heap.size) (.sl 1 l.length (fun k=>ictS (l.getD k default))) (.slice a' l.length cap')∧Below w.heap.size w w':=by
 have HS:=yq hs;clear hs
 have hn:l.length≤1048576:=by unfold lsz at hsz;omega
 clear hsz;obtain ⟨i0,hi',hz0,hz1,hz2⟩:=info_parts zrh
 go_enter Tryz.func73,Tryz.ntmps73
 go_wp2_with (at_make;refine wpList_make_full _ rfl (.tmp 6) (.tmp 6) 46 rfl w.heap.size 9 i0 (.string ⟨#[]⟩) 1 Tryz.underlying46 hi' hz0 hz1 .i64 .i64 (l.length:Int) (l.length:Int) l.length rfl rfl rfl rfl (by rw [hz2];omega) yl (Nat.le_refl _) ?_;intro w1 hown hgrow)
 have hb1:Below w.heap.size w w1:=(Below.refl _ w).grown hgrow (Nat.le_refl _) (fun k hk=>by cases hk)
 clear hgrow;have hblk:=(zak hown).1
 go_loopw [4] (fun i wr=>∃ (k:Nat) (xs:List Value),k≤l.length∧i = .int .i64 (k:Int)∧wr.ownsRow w.heap.size 9 1 (.slice (some ⟨w.heap.size,0,none⟩) l.length l.length) l.length xs∧za7 w.heap.size wr 1 k (fun k=>ictS (l.getD k default)) xs∧Below w.heap.size w wr) (fun i _=>l.length - (intOf i).toNat)
 case atStart=>exact ⟨0,_,Nat.zero_le _,rfl,hown,za7.zero hblk,hb1⟩
 case round =>
  clear hown hb1 hblk;obtain ⟨k,xs,hk,rfl,hown,hfill,hb⟩:=hrel;have hblk:=zak hown;have HO:=yq hown;have HF:=yq hfill;have HB:=yq hb;clear hown hfill
  by_cases hlt:k < l.length
  ·obtain ⟨b,off,rfl,hlo,hhi',hc⟩:=(HS.out.later (hb.mono hhi) (Nat.le_refl _)).at k hlt
   rw [Nat.mul_one] at hc;have hc0:=zd6 hc
   have d0:=hblk.2.2.1 k (by omega)
   have z0:=hblk.2.2.2 k;have hsz:=hblk.1;clear hblk hb hc;generalize hx:l.getD k default=x at *;have HX:=yq hx;clear hx;generalize xs.getD k Value.nilFunc=v0 at d0
   have hst:=yq (HF.out.stored (Below.refl _ wr) hsz HO.out hlt [.string x] rfl (OwnR.lits fun j hj=>by
    rw [HX.out]
    match j,hj with
    | 0,_=>rfl))
   rw [Nat.mul_one] at hst;go_wp2;go_roundw
   case rel =>
    exact ⟨k+1,_,by omega,by go_num,hst.out.1,hst.out.2,za8 (Nat.le_refl _) [_] _ HB.out⟩
   case measure=>simp [intOf];omega
  ·obtain rfl:k=l.length:=by omega
   go_wp2;go_ret;exact ⟨_,_,rfl,HF.out.own hblk.1 hblk.2.2.1 hblk.2.2.2,hb⟩
theorem zmo {lo hi lo2 hi2:Nat} {a a2:Option Addr} {cap cap2:Nat} (l:List ByteArray) (hsz:lsz ByteArray.size l≤1048576) (w:World) (_:hi≤w.heap.size) (_:hi2≤w.heap.size) (hs:Sl lo hi w 1 l.length (fun k=>ictS (l.getD k default)) a) (hs2:Sl lo2 hi2 w 1 l.length (fun k=>ictS (l.getD k default)) a2) :
  Calls Tryz.prog 95 #[.slice a l.length cap,.slice a2 l.length cap2] w fun e w'=>e = .returned (.bool true)∧Below w.heap.size w w':=by
 have HS:=yq hs;have HS2:=yq hs2
 have hn:l.length≤1048576:=by unfold lsz at hsz;omega
 clear hs hs2 hsz
 go_enter Tryz.func95,Tryz.ntmps95
 go_wp2
 go_loopw [5] (fun i wr=>∃ k:Nat,k≤l.length∧i = .int .i64 (k:Int) ∧ ∃ n,wr=w.drewN n) (fun i _=>l.length - (intOf i).toNat)
 case atStart=>exact ⟨0,Nat.zero_le _,rfl,0,rfl⟩
 case round =>
  obtain ⟨k,hk,rfl,n,rfl⟩:=hrel
  by_cases hlt:k < l.length
  ·obtain ⟨b,off,rfl,_,hhi',hc⟩:=HS.out.at k hlt
   obtain ⟨b2,off2,rfl,_,hhi2',hc2⟩:=HS2.out.at k hlt;rw [Nat.mul_one] at hc hc2;have hc0:=zd6 hc;have hd0:=zd6 hc2;clear hc hc2;generalize l.getD k default=x at *;go_wp2
   go_quiet (fail)
   go_wp2;go_roundw
   case rel=>exact ⟨k+1,by omega,by go_num,_,rfl⟩
   case measure=>simp [intOf];omega
  ·go_wp2
   go_ret;exact ⟨rfl,below_drewN (Below.refl _ _) _⟩
structure DRule where
 fa:ByteArray
 fp:ByteArray
 fj:List (ByteArray)
 fq:Bool
 fg:List (DEquation)
 fo:List (DContribution)
 deriving Inhabited
def DRule.ct (x:DRule):Nat→Ct
 | 0=>.lit (.string x.fa)
 | 1=>.lit (.string x.fp)
 | 2=>.sl 1 x.fj.length (fun k=>ictS (x.fj.getD k default))
 | 3=>.lit (.bool x.fq)
 | 4=>.sl 9 x.fg.length (fun k=>DEquation.ct (x.fg.getD k default))
 | 5=>.sl 16 x.fo.length (fun k=>DContribution.ct (x.fo.getD k default))
 | _=>.lit .nilFunc
def DRule.ok (x:DRule):Prop:=okS x.fa∧okS x.fp∧(okL okS) x.fj∧okB x.fq∧(okL DEquation.ok) x.fg∧(okL DContribution.ok) x.fo
def DRule.sz (x:DRule):Nat:=x.fa.size+x.fp.size+(lsz ByteArray.size) x.fj+(lsz DEquation.sz) x.fg+(lsz DContribution.sz) x.fo
theorem DRule.open {lo hi b o:Nat} {w:World} {x:DRule} (h : ∀ j,j < 6 → ∃ u,w.cell? ⟨b,o+j,none⟩=some u∧Lies lo hi w (x.ct j) u) :
  ∃ a2 c2,∃ a4 c4,∃ a5 c5,w.cell? ⟨b,o,none⟩=some (.string x.fa)∧w.cell? ⟨b,o+1,none⟩=some (.string x.fp)∧w.cell? ⟨b,o+2,none⟩=some (.slice a2 x.fj.length c2)∧w.cell? ⟨b,o+3,none⟩=some (.bool x.fq)∧w.cell? ⟨b,o+4,none⟩=some (.slice a4 x.fg.length c4)∧w.cell? ⟨b,o+5,none⟩=some (.slice a5 x.fo.length c5)∧Sl lo hi w 1 x.fj.length (fun k=>ictS (x.fj.getD k default)) a2∧Sl lo hi w 9 x.fg.length (fun k=>DEquation.ct (x.fg.getD k default)) a4∧Sl lo hi w 16 x.fo.length (fun k=>DContribution.ct (x.fo.getD k default)) a5:=by
 obtain ⟨u0,hc0,hl0⟩:=h 0 (by decide)
 obtain rfl:=zr hl0
 obtain ⟨u1,hc1,hl1⟩:=h 1 (by decide)
 obtain rfl:=zr hl1
 obtain ⟨u2,hc2,hl2⟩:=h 2 (by decide)
 obtain ⟨a2,c2,rfl,hs2⟩:=zc6 hl2
 obtain ⟨u3,hc3,hl3⟩:=h 3 (by decide)
 obtain rfl:=zr hl3
 obtain ⟨u4,hc4,hl4⟩:=h 4 (by decide)
 obtain ⟨a4,c4,rfl,hs4⟩:=zc6 hl4
 obtain ⟨u5,hc5,hl5⟩:=h 5 (by decide)
 obtain ⟨a5,c5,rfl,hs5⟩:=zc6 hl5;exact ⟨a2,c2,a4,c4,a5,c5,hc0,hc1,hc2,hc3,hc4,hc5,hs2,hs4,hs5⟩
theorem zs3 {H:Type} {enc:TypeId × Value→H} {w:World} (fuel:Nat):zg1 enc Tryz.prog w 72 6 DRule.ct DRule.ok fuel:=by
 intro cs x h;have hl:=zct Tryz.underlying72 h
 obtain ⟨y0,k0,q0⟩:=zq Tryz.underlying72 h 0 _ rfl (ft:=9) (o:=0) (n:=1) rfl rfl (fun m _=>za1 Tryz.underlying9 m) (by kernel_rfl)
 obtain ⟨y1,k1,q1⟩:=zq Tryz.underlying72 h 1 _ rfl (ft:=9) (o:=1) (n:=1) rfl rfl (fun m _=>za1 Tryz.underlying9 m) (by kernel_rfl)
 obtain ⟨y2,k2,q2⟩:=zq Tryz.underlying72 h 2 _ rfl (ft:=46) (o:=2) (n:=1) rfl rfl (fun m _=>(fun fuel=>zb1 Tryz.underlying46 (e:=9) (n:=1) (by kernel_rfl) (by decide) fuel (fun m _=>(za1 Tryz.underlying9) m)) m) (by kernel_rfl)
 obtain ⟨y3,k3,q3⟩:=zq Tryz.underlying72 h 3 _ rfl (ft:=4) (o:=3) (n:=1) rfl rfl (fun m _=>zna Tryz.underlying4 m) (by kernel_rfl)
 obtain ⟨y4,k4,q4⟩:=zq Tryz.underlying72 h 4 _ rfl (ft:=69) (o:=4) (n:=1) rfl rfl (fun m _=>(fun fuel=>zb1 Tryz.underlying69 (e:=149) (n:=9) (by kernel_rfl) (by decide) fuel (fun m _=>zmp m)) m) (by kernel_rfl)
 obtain ⟨y5,k5,q5⟩:=zq Tryz.underlying72 h 5 _ rfl (ft:=70) (o:=5) (n:=1) rfl rfl (fun m _=>(fun fuel=>zb1 Tryz.underlying70 (e:=152) (n:=16) (by kernel_rfl) (by decide) fuel (fun m _=>zgl m)) m) (by kernel_rfl)
 refine ⟨⟨y0,y1,y2,y3,y4,y5⟩,⟨k0,k1,k2,k3,k4,k5⟩,hl.trans (by kernel_rfl),fun j hj=>?_⟩
 match j,hj with
 | 0,_=>exact q0 0 (by decide)
 | 1,_=>exact q1 0 (by decide)
 | 2,_=>exact q2 0 (by decide)
 | 3,_=>exact q3 0 (by decide)
 | 4,_=>exact q4 0 (by decide)
 | 5,_=>exact q5 0 (by decide)
theorem zqq {lo hi:Nat} {a2:Option Addr} {c2:Nat} {a4:Option Addr} {c4:Nat} {a5:Option Addr} {c5:Nat} (x:DRule) (L:Int) (hL0:0≤L) (hL1:L≤1048576) (hx:x.ok) (w:World) (hhi:hi≤w.heap.size) (hs2:Sl lo hi w 1 x.fj.length (fun k=>ictS (x.fj.getD k default)) a2) (hs4:Sl lo hi w 9 x.fg.length (fun k=>DEquation.ct (x.fg.getD k default)) a4) (hs5:Sl lo hi w 16 x.fo.length (fun k=>DContribution.ct (x.fo.getD k default)) a5) :
  Calls Tryz.prog 36 #[.agg #[.string x.fa,.string x.fp,.slice a2 x.fj.length c2,.bool x.fq,.slice a4 x.fg.length c4,.slice a5 x.fo.length c5],.int .i64 L] w fun e w'=>e = .returned (.int .i64 (szR L x.sz))∧Below w.heap.size w w':=by
 have HS2:=yq hs2;have HS4:=yq hs4;have HS5:=yq hs5;clear hs2 hs4 hs5;have HX:=yq hx;clear hx;have okName:x.fa.size≤9223372036854775807:=HX.out.1;have okLeft:x.fp.size≤9223372036854775807:=HX.out.2.1;have HB0:=yq ((Below.refl w.heap.size w).alloc (Nat.le_refl _) (.cells #[.string x.fa,.string x.fp,.slice a2 x.fj.length c2,.bool x.fq,.slice a4 x.fg.length c4,.slice a5 x.fo.length c5] 72))
 by_cases h0:L < ((x.fa.size:Nat):Int)
 ·skip
  have fin:=yq (zae (n:=x.sz) (L:=L) (by unfold DRule.sz;omega))
  go_enter Tryz.func36,Tryz.ntmps36
  go_wp2;go_ret
  exact ⟨zan (by rw [fin.out]),HB0.out⟩
 ·skip
  by_cases h1:(L - (x.fa.size:Nat)) < ((x.fp.size:Nat):Int)
  ·skip
   have fin:=yq (zae (n:=x.sz) (L:=L) (by unfold DRule.sz;omega))
   go_enter Tryz.func36,Tryz.ntmps36
   go_wp2;go_ret
   exact ⟨zan (by rw [fin.out]),HB0.out⟩
  ·skip
   by_cases h2:((L - (x.fa.size:Nat)) - (x.fp.size:Nat)) < (((lsz ByteArray.size) x.fj:Nat):Int)
   ·skip
    have hz0:=fun (w':World) (hhi:hi≤w'.heap.size) (hs2:Sl lo hi w' 1 x.fj.length (fun k=>ictS (x.fj.getD k default)) a2)=>zcm (cap:=c2) x.fj ((L - (x.fa.size:Nat)) - (x.fp.size:Nat)) (by omega) (by omega) HX.out.2.2.1 w' hhi hs2
    rw [zae (by omega)] at hz0
    have HZ0:=yq hz0;clear hz0
    have fin:=yq (zae (n:=x.sz) (L:=L) (by unfold DRule.sz;omega))
    go_enter Tryz.func36,Tryz.ntmps36
    (go_wp2_with fail);refine (HZ0.out _ (Nat.le_trans hhi HB0.out.size) (HS2.out.later HB0.out hhi)).mono ?_;rintro e w1 ⟨rfl,hb1⟩;have hsz1:w.heap.size < w1.heap.size:=Nat.lt_of_lt_of_le yg hb1.size;have HB1:=yq (HB0.out.trans (hb1.mono HB0.out.size));clear hb1;go_wp2;go_ret
    exact ⟨zan (by rw [fin.out]),HB1.out⟩
   ·skip
    by_cases h3:(((L - (x.fa.size:Nat)) - (x.fp.size:Nat)) - ((lsz ByteArray.size) x.fj:Nat)) < (((lsz DEquation.sz) x.fg:Nat):Int)
    ·skip
     have hz0:=fun (w':World) (hhi:hi≤w'.heap.size) (hs2:Sl lo hi w' 1 x.fj.length (fun k=>ictS (x.fj.getD k default)) a2)=>zcm (cap:=c2) x.fj ((L - (x.fa.size:Nat)) - (x.fp.size:Nat)) (by omega) (by omega) HX.out.2.2.1 w' hhi hs2
     rw [zas (by omega)] at hz0
     have HZ0:=yq hz0;clear hz0
     have hz1:=fun (w':World) (hhi:hi≤w'.heap.size) (hs4:Sl lo hi w' 9 x.fg.length (fun k=>DEquation.ct (x.fg.getD k default)) a4)=>zcw (cap:=c4) x.fg (((L - (x.fa.size:Nat)) - (x.fp.size:Nat)) - ((lsz ByteArray.size) x.fj:Nat)) (by omega) (by omega) HX.out.2.2.2.2.1 w' hhi hs4
     rw [zae (by omega)] at hz1
     have HZ1:=yq hz1;clear hz1
     have fin:=yq (zae (n:=x.sz) (L:=L) (by unfold DRule.sz;omega))
     go_enter Tryz.func36,Tryz.ntmps36
     (go_wp2_with fail);refine (HZ0.out _ (Nat.le_trans hhi HB0.out.size) (HS2.out.later HB0.out hhi)).mono ?_;rintro e w1 ⟨rfl,hb1⟩;have hsz1:w.heap.size < w1.heap.size:=Nat.lt_of_lt_of_le yg hb1.size
     have x1_0_4:w1.cell? ⟨w.heap.size,4,none⟩=some (.slice a4 x.fg.length c4):=(hb1.cell (p:=⟨w.heap.size,4,none⟩) yd).trans (by go_simp)
     have HB1:=yq (HB0.out.trans (hb1.mono HB0.out.size));clear hb1;(go_wp2_with fail);refine (HZ1.out _ (Nat.le_trans hhi HB1.out.size) (HS4.out.later HB1.out hhi)).mono ?_;rintro e w2 ⟨rfl,hb2⟩;have hsz2:w.heap.size < w2.heap.size:=Nat.lt_of_lt_of_le yg hb2.size;have HB2:=yq (HB1.out.trans (hb2.mono HB1.out.size));clear hb2;go_wp2;go_ret
     exact ⟨zan (by rw [fin.out]),HB2.out⟩
    ·skip
     by_cases h4:((((L - (x.fa.size:Nat)) - (x.fp.size:Nat)) - ((lsz ByteArray.size) x.fj:Nat)) - ((lsz DEquation.sz) x.fg:Nat)) < (((lsz DContribution.sz) x.fo:Nat):Int)
     ·skip
      have hz0:=fun (w':World) (hhi:hi≤w'.heap.size) (hs2:Sl lo hi w' 1 x.fj.length (fun k=>ictS (x.fj.getD k default)) a2)=>zcm (cap:=c2) x.fj ((L - (x.fa.size:Nat)) - (x.fp.size:Nat)) (by omega) (by omega) HX.out.2.2.1 w' hhi hs2
      rw [zas (by omega)] at hz0
      have HZ0:=yq hz0;clear hz0
      have hz1:=fun (w':World) (hhi:hi≤w'.heap.size) (hs4:Sl lo hi w' 9 x.fg.length (fun k=>DEquation.ct (x.fg.getD k default)) a4)=>zcw (cap:=c4) x.fg (((L - (x.fa.size:Nat)) - (x.fp.size:Nat)) - ((lsz ByteArray.size) x.fj:Nat)) (by omega) (by omega) HX.out.2.2.2.2.1 w' hhi hs4
      rw [zas (by omega)] at hz1
      have HZ1:=yq hz1;clear hz1
      have hz2:=fun (w':World) (hhi:hi≤w'.heap.size) (hs5:Sl lo hi w' 16 x.fo.length (fun k=>DContribution.ct (x.fo.getD k default)) a5)=>zcz (cap:=c5) x.fo ((((L - (x.fa.size:Nat)) - (x.fp.size:Nat)) - ((lsz ByteArray.size) x.fj:Nat)) - ((lsz DEquation.sz) x.fg:Nat)) (by omega) (by omega) HX.out.2.2.2.2.2 w' hhi hs5
      rw [zae (by omega)] at hz2
      have HZ2:=yq hz2;clear hz2
      have fin:=yq (zae (n:=x.sz) (L:=L) (by unfold DRule.sz;omega))
      go_enter Tryz.func36,Tryz.ntmps36
      (go_wp2_with fail);refine (HZ0.out _ (Nat.le_trans hhi HB0.out.size) (HS2.out.later HB0.out hhi)).mono ?_;rintro e w1 ⟨rfl,hb1⟩;have hsz1:w.heap.size < w1.heap.size:=Nat.lt_of_lt_of_le yg hb1.size
      have x1_0_4:w1.cell? ⟨w.heap.size,4,none⟩=some (.slice a4 x.fg.length c4):=(hb1.cell (p:=⟨w.heap.size,4,none⟩) yd).trans (by go_simp)
      have x1_0_5:w1.cell? ⟨w.heap.size,5,none⟩=some (.slice a5 x.fo.length c5):=(hb1.cell (p:=⟨w.heap.size,5,none⟩) yd).trans (by go_simp)
      have HB1:=yq (HB0.out.trans (hb1.mono HB0.out.size));clear hb1;(go_wp2_with fail);refine (HZ1.out _ (Nat.le_trans hhi HB1.out.size) (HS4.out.later HB1.out hhi)).mono ?_;rintro e w2 ⟨rfl,hb2⟩;have hsz2:w.heap.size < w2.heap.size:=Nat.lt_of_lt_of_le yg hb2.size
      have x2_0_5:w2.cell? ⟨w.heap.size,5,none⟩=some (.slice a5 x.fo.length c5):=(hb2.cell (p:=⟨w.heap.size,5,none⟩) yd).trans (by go_simp)
      have HB2:=yq (HB1.out.trans (hb2.mono HB1.out.size));clear hb2;(go_wp2_with fail);refine (HZ2.out _ (Nat.le_trans hhi HB2.out.size) (HS5.out.later HB2.out hhi)).mono ?_;rintro e w3 ⟨rfl,hb3⟩;have hsz3:w.heap.size < w3.heap.size:=Nat.lt_of_lt_of_le yg hb3.size;have HB3:=yq (HB2.out.trans (hb3.mono HB2.out.size));clear hb3;go_wp2;go_ret
      exact ⟨zan (by rw [fin.out]),HB3.out⟩
     ·skip
      have hz0:=fun (w':World) (hhi:hi≤w'.heap.size) (hs2:Sl lo hi w' 1 x.fj.length (fun k=>ictS (x.fj.getD k default)) a2)=>zcm (cap:=c2) x.fj ((L - (x.fa.size:Nat)) - (x.fp.size:Nat)) (by omega) (by omega) HX.out.2.2.1 w' hhi hs2
      rw [zas (by omega)] at hz0
      have HZ0:=yq hz0;clear hz0
      have hz1:=fun (w':World) (hhi:hi≤w'.heap.size) (hs4:Sl lo hi w' 9 x.fg.length (fun k=>DEquation.ct (x.fg.getD k default)) a4)=>zcw (cap:=c4) x.fg (((L - (x.fa.size:Nat)) - (x.fp.size:Nat)) - ((lsz ByteArray.size) x.fj:Nat)) (by omega) (by omega) HX.out.2.2.2.2.1 w' hhi hs4
      rw [zas (by omega)] at hz1
      have HZ1:=yq hz1;clear hz1
      have hz2:=fun (w':World) (hhi:hi≤w'.heap.size) (hs5:Sl lo hi w' 16 x.fo.length (fun k=>DContribution.ct (x.fo.getD k default)) a5)=>zcz (cap:=c5) x.fo ((((L - (x.fa.size:Nat)) - (x.fp.size:Nat)) - ((lsz ByteArray.size) x.fj:Nat)) - ((lsz DEquation.sz) x.fg:Nat)) (by omega) (by omega) HX.out.2.2.2.2.2 w' hhi hs5
      rw [zas (by omega)] at hz2
      have HZ2:=yq hz2;clear hz2
      have fin:=yq (zas (n:=x.sz) (L:=L) (by unfold DRule.sz;omega))
      go_enter Tryz.func36,Tryz.ntmps36
      (go_wp2_with fail);refine (HZ0.out _ (Nat.le_trans hhi HB0.out.size) (HS2.out.later HB0.out hhi)).mono ?_;rintro e w1 ⟨rfl,hb1⟩;have hsz1:w.heap.size < w1.heap.size:=Nat.lt_of_lt_of_le yg hb1.size
      have x1_0_4:w1.cell? ⟨w.heap.size,4,none⟩=some (.slice a4 x.fg.length c4):=(hb1.cell (p:=⟨w.heap.size,4,none⟩) yd).trans (by go_simp)
      have x1_0_5:w1.cell? ⟨w.heap.size,5,none⟩=some (.slice a5 x.fo.length c5):=(hb1.cell (p:=⟨w.heap.size,5,none⟩) yd).trans (by go_simp)
      have HB1:=yq (HB0.out.trans (hb1.mono HB0.out.size));clear hb1;(go_wp2_with fail);refine (HZ1.out _ (Nat.le_trans hhi HB1.out.size) (HS4.out.later HB1.out hhi)).mono ?_;rintro e w2 ⟨rfl,hb2⟩;have hsz2:w.heap.size < w2.heap.size:=Nat.lt_of_lt_of_le yg hb2.size
      have x2_0_5:w2.cell? ⟨w.heap.size,5,none⟩=some (.slice a5 x.fo.length c5):=(hb2.cell (p:=⟨w.heap.size,5,none⟩) yd).trans (by go_simp)
      have HB2:=yq (HB1.out.trans (hb2.mono HB1.out.size));clear hb2;(go_wp2_with fail);refine (HZ2.out _ (Nat.le_trans hhi HB2.out.size) (HS5.out.later HB2.out hhi)).mono ?_;rintro e w3 ⟨rfl,hb3⟩;have hsz3:w.heap.size < w3.heap.size:=Nat.lt_of_lt_of_le yg hb3.size;have HB3:=yq (HB2.out.trans (hb3.mono HB2.out.size));clear hb3;go_wp2;go_ret
      exact ⟨zan (by rw [fin.out];unfold DRule.sz;omega),HB3.out⟩
theorem zis {lo hi:Nat} {a:Option Addr} {cap:Nat} (l:List DRule) (L:Int) (hL0:0≤L) (hL1:L≤1048576) (hok:okL DRule.ok l) (w:World) (hhi:hi≤w.heap.size) (hs:Sl lo hi w 6 l.length (fun k=>DRule.ct (l.getD k default)) a) :
  Calls Tryz.prog 10 #[.slice a l.length cap,.int .i64 L] w fun e w'=>e = .returned (.int .i64 (szR L (lsz DRule.sz l)))∧Below w.heap.size w w':=by
 have HS:=yq hs;have HK:=yq hok;have hn:l.length≤9223372036854775807:=hok.1;clear hs hok
 by_cases hlong:L < ((l.length:Nat):Int)
 ·have fin:=yq (zae (n:=lsz DRule.sz l) (L:=L) (by unfold lsz;omega))
  go_enter Tryz.func10,Tryz.ntmps10
  go_wp2;go_ret;exact ⟨zan fin.out.symm,Below.refl _ _⟩
 ·go_enter Tryz.func10,Tryz.ntmps10
  go_wp2
  go_loopw [1,5] (fun q i wr=>∃ k:Nat,k≤l.length∧i = .int .i64 (k:Int)∧q = .int .i64 (L - l.length - psz DRule.sz l k)∧(l.length:Int)+psz DRule.sz l k≤L∧Below w.heap.size w wr) (fun _ i _=>l.length - (intOf i).toNat)
  case atStart=>exact ⟨0,Nat.zero_le _,rfl,by rw [zba];go_num,by rw [zba];omega,Below.refl _ _⟩
  case round =>
   obtain ⟨k,hk,rfl,rfl,hle,hb⟩:=hrel;have HB:=yq hb
   by_cases hlt:k < l.length
   ·have hsu:=yq (zc0 DRule.sz l k hlt)
    have hle2:=yq (zhd DRule.sz l (k+1));have hokk:=HK.out.at hlt;have hhr:hi≤wr.heap.size:=Nat.le_trans hhi hb.size;obtain ⟨b,off,rfl,hlo,hhi',hc⟩:=(HS.out.later (hb.mono hhi) (Nat.le_refl _)).at k hlt;clear hb;obtain ⟨a2,c2,a4,c4,a5,c5,hc0_,hc1_,hc2_,hc3_,hc4_,hc5_,hs2,hs4,hs5⟩:=DRule.open hc;clear hc;generalize l.getD k default=x at *;generalize psz DRule.sz l k=S at *
    have hZ:=zqq (c2:=c2) (c4:=c4) (c5:=c5) x (L - l.length - S) (by omega) (by omega) hokk wr hhr hs2 hs4 hs5
    by_cases hf:((x.sz:Nat):Int)≤L - l.length - S
    ·rw [zas hf] at hZ
     have HZ:=yq hZ;clear hZ hokk hs2 hs4 hs5;(go_wp2_with fail);refine HZ.out.mono ?_;rintro e w1 ⟨rfl,hb1⟩;have HB1:=yq hb1;clear hb1;go_wp2;go_roundw
     case rel=>exact ⟨k+1,by omega,by go_num,by rw [hsu.out];go_num,by rw [hsu.out];omega,HB.out.trans (HB1.out.mono HB.out.size)⟩
     case measure=>simp [intOf];omega
    ·have fin:=yq (zae (n:=lsz DRule.sz l) (L:=L) (by have h1:=hsu.out;have h2:=hle2.out;omega))
     rw [zae (by omega)] at hZ
     have HZ:=yq hZ;clear hZ hokk hs2 hs4 hs5;(go_wp2_with fail);refine HZ.out.mono ?_;rintro e w1 ⟨rfl,hb1⟩;have HB1:=yq hb1;clear hb1;go_wp2;go_ret;exact ⟨zan fin.out.symm,HB.out.trans (HB1.out.mono HB.out.size)⟩
   ·obtain rfl:k=l.length:=by omega
    have fin:=yq (zas (n:=lsz DRule.sz l) (L:=L) (by unfold lsz;rw [zb0] at hle;omega))
    have fin2:=yq (zb0 DRule.sz l);go_wp2;go_ret
    exact ⟨zan (by rw [fin.out,fin2.out];unfold lsz;omega),HB.out⟩
theorem zq0 {lo hi:Nat} {a2:Option Addr} {c2:Nat} {a4:Option Addr} {c4:Nat} {a5:Option Addr} {c5:Nat} (x:DRule) (hsz:x.sz≤1048576) (w:World) (hhi:hi≤w.heap.size) (hs2:Sl lo hi w 1 x.fj.length (fun k=>ictS (x.fj.getD k default)) a2) (hs4:Sl lo hi w 9 x.fg.length (fun k=>DEquation.ct (x.fg.getD k default)) a4) (hs5:Sl lo hi w 16 x.fo.length (fun k=>DContribution.ct (x.fo.getD k default)) a5) :
  Calls Tryz.prog 45 #[.agg #[.string x.fa,.string x.fp,.slice a2 x.fj.length c2,.bool x.fq,.slice a4 x.fg.length c4,.slice a5 x.fo.length c5]] w fun e w'=>∃ a2r c2r a4r c4r a5r c5r,e = .returned (.agg #[.string x.fa,.string x.fp,.slice a2r x.fj.length c2r,.bool x.fq,.slice a4r x.fg.length c4r,.slice a5r x.fo.length c5r])∧OwnR w' (fun y=>w.heap.size≤y∧y < w'.heap.size) 6 x.ct (fun j=>[.string x.fa,.string x.fp,.slice a2r x.fj.length c2r,.bool x.fq,.slice a4r x.fg.length c4r,.slice a5r x.fo.length c5r].getD j .nilFunc)∧Below w.heap.size w w':=by
 have HS2:=yq hs2;have HS4:=yq hs4;have HS5:=yq hs5;clear hs2 hs4 hs5;have HW:=yq hsz;clear hsz;have HB0:=yq (((((Below.refl w.heap.size w).alloc (Nat.le_refl _) (.cells #[.string x.fa,.string x.fp,.slice a2 x.fj.length c2,.bool x.fq,.slice a4 x.fg.length c4,.slice a5 x.fo.length c5] 72)).alloc ye (.cells #[.string ⟨#[]⟩,.string ⟨#[]⟩,.slice none 0 0,.bool false,.slice none 0 0,.slice none 0 0] 50))).alloc ye (.cells #[.string ⟨#[]⟩,.string ⟨#[]⟩,.slice none 0 0,.bool false,.slice none 0 0,.slice none 0 0] 50))
 have HSZ0:=yq (show w.heap.size+2 < (((w.alloc (.cells #[.string x.fa,.string x.fp,.slice a2 x.fj.length c2,.bool x.fq,.slice a4 x.fg.length c4,.slice a5 x.fo.length c5] 72)).alloc (.cells #[.string ⟨#[]⟩,.string ⟨#[]⟩,.slice none 0 0,.bool false,.slice none 0 0,.slice none 0 0] 50)).alloc (.cells #[.string ⟨#[]⟩,.string ⟨#[]⟩,.slice none 0 0,.bool false,.slice none 0 0,.slice none 0 0] 50)).heap.size by simp)
 have ht0:=fun (w':World) (hhi:hi≤w'.heap.size) (hs:Sl lo hi w' 1 x.fj.length (fun k=>ictS (x.fj.getD k default)) a2)=>zl3 (cap:=c2) x.fj (by have h:=HW.out;unfold DRule.sz at h;omega) w' hhi hs
 have HT0:=yq ht0;clear ht0
 have ht1:=fun (w':World) (hhi:hi≤w'.heap.size) (hs:Sl lo hi w' 9 x.fg.length (fun k=>DEquation.ct (x.fg.getD k default)) a4)=>ziz (cap:=c4) x.fg (by have h:=HW.out;unfold DRule.sz at h;omega) w' hhi hs
 have HT1:=yq ht1;clear ht1
 have ht2:=fun (w':World) (hhi:hi≤w'.heap.size) (hs:Sl lo hi w' 16 x.fo.length (fun k=>DContribution.ct (x.fo.getD k default)) a5)=>zfp (cap:=c5) x.fo (by have h:=HW.out;unfold DRule.sz at h;omega) w' hhi hs
 have HT2:=yq ht2;clear ht2
 go_enter Tryz.func45,Tryz.ntmps45
 (go_wp2_with fail)
 refine (HT0.out _ (Nat.le_trans hhi (Below.size ((by repeat (first|(with_reducible exact HB0.out)|(with_reducible exact Below.refl _ _)|(refine Below.setCell ?_ ye _)|(refine Below.alloc ?_ ye _)):Below w.heap.size w _)))) (HS2.out.later ((by repeat (first|(with_reducible exact HB0.out)|(with_reducible exact Below.refl _ _)|(refine Below.setCell ?_ ye _)|(refine Below.alloc ?_ ye _)):Below w.heap.size w _)) hhi)).mono ?_
 rintro e w1 ⟨a2r,c2r,rfl,ho1,hb1⟩
 have hsz1:w.heap.size+2 < w1.heap.size:=Nat.lt_of_lt_of_le (by have h:=HSZ0.out;first|(with_reducible exact h)|(simp;done)|(simp;omega)|(simp [World.setCell];omega)) hb1.size
 have hlo1:w.heap.size+3≤w1.heap.size:=Nat.le_trans yk hb1.size
 have hbw1:Below w.heap.size w w1:=Below.trans ((by repeat (first|(with_reducible exact HB0.out)|(with_reducible exact Below.refl _ _)|(refine Below.setCell ?_ ye _)|(refine Below.alloc ?_ ye _)):Below w.heap.size w _)) (hb1.mono (Below.size ((by repeat (first|(with_reducible exact HB0.out)|(with_reducible exact Below.refl _ _)|(refine Below.setCell ?_ ye _)|(refine Below.alloc ?_ ye _)):Below w.heap.size w _))))
 have HO1_1:=yq (ho1.sub (F':=fun y=>w.heap.size+3≤y∧y < w1.heap.size) (fun y hy=>⟨Nat.le_trans yj hy.1,hy.2⟩))
 clear ho1
 have x1_0_3:w1.cell? ⟨w.heap.size,3,none⟩=some (.bool x.fq):=(hb1.cell (p:=⟨w.heap.size,3,none⟩) yd).trans (by go_simp)
 have x1_0_4:w1.cell? ⟨w.heap.size,4,none⟩=some (.slice a4 x.fg.length c4):=(hb1.cell (p:=⟨w.heap.size,4,none⟩) yd).trans (by go_simp)
 have x1_0_5:w1.cell? ⟨w.heap.size,5,none⟩=some (.slice a5 x.fo.length c5):=(hb1.cell (p:=⟨w.heap.size,5,none⟩) yd).trans (by go_simp)
 have x1_1_0:w1.cell? ⟨w.heap.size+1,0,none⟩=some (.string ⟨#[]⟩):=(hb1.cell (p:=⟨w.heap.size+1,0,none⟩) yd).trans (by go_simp)
 have z1_1_0:w1.frozen? ⟨w.heap.size+1,0,none⟩=false:=(hb1.frozen (p:=⟨w.heap.size+1,0,none⟩) yd).trans (by go_simp)
 have x1_1_1:w1.cell? ⟨w.heap.size+1,1,none⟩=some (.string ⟨#[]⟩):=(hb1.cell (p:=⟨w.heap.size+1,1,none⟩) yd).trans (by go_simp)
 have z1_1_1:w1.frozen? ⟨w.heap.size+1,1,none⟩=false:=(hb1.frozen (p:=⟨w.heap.size+1,1,none⟩) yd).trans (by go_simp)
 have x1_1_2:w1.cell? ⟨w.heap.size+1,2,none⟩=some (.slice none 0 0):=(hb1.cell (p:=⟨w.heap.size+1,2,none⟩) yd).trans (by go_simp)
 have z1_1_2:w1.frozen? ⟨w.heap.size+1,2,none⟩=false:=(hb1.frozen (p:=⟨w.heap.size+1,2,none⟩) yd).trans (by go_simp)
 have x1_1_3:w1.cell? ⟨w.heap.size+1,3,none⟩=some (.bool false):=(hb1.cell (p:=⟨w.heap.size+1,3,none⟩) yd).trans (by go_simp)
 have z1_1_3:w1.frozen? ⟨w.heap.size+1,3,none⟩=false:=(hb1.frozen (p:=⟨w.heap.size+1,3,none⟩) yd).trans (by go_simp)
 have x1_1_4:w1.cell? ⟨w.heap.size+1,4,none⟩=some (.slice none 0 0):=(hb1.cell (p:=⟨w.heap.size+1,4,none⟩) yd).trans (by go_simp)
 have z1_1_4:w1.frozen? ⟨w.heap.size+1,4,none⟩=false:=(hb1.frozen (p:=⟨w.heap.size+1,4,none⟩) yd).trans (by go_simp)
 have x1_1_5:w1.cell? ⟨w.heap.size+1,5,none⟩=some (.slice none 0 0):=(hb1.cell (p:=⟨w.heap.size+1,5,none⟩) yd).trans (by go_simp)
 have z1_1_5:w1.frozen? ⟨w.heap.size+1,5,none⟩=false:=(hb1.frozen (p:=⟨w.heap.size+1,5,none⟩) yd).trans (by go_simp)
 have x1_2_0:w1.cell? ⟨w.heap.size+2,0,none⟩=some (.string x.fa):=(hb1.cell (p:=⟨w.heap.size+2,0,none⟩) yd).trans (by go_simp)
 have z1_2_0:w1.frozen? ⟨w.heap.size+2,0,none⟩=false:=(hb1.frozen (p:=⟨w.heap.size+2,0,none⟩) yd).trans (by go_simp)
 have x1_2_1:w1.cell? ⟨w.heap.size+2,1,none⟩=some (.string x.fp):=(hb1.cell (p:=⟨w.heap.size+2,1,none⟩) yd).trans (by go_simp)
 have z1_2_1:w1.frozen? ⟨w.heap.size+2,1,none⟩=false:=(hb1.frozen (p:=⟨w.heap.size+2,1,none⟩) yd).trans (by go_simp)
 have x1_2_2:w1.cell? ⟨w.heap.size+2,2,none⟩=some (.slice none 0 0):=(hb1.cell (p:=⟨w.heap.size+2,2,none⟩) yd).trans (by go_simp)
 have z1_2_2:w1.frozen? ⟨w.heap.size+2,2,none⟩=false:=(hb1.frozen (p:=⟨w.heap.size+2,2,none⟩) yd).trans (by go_simp)
 have x1_2_3:w1.cell? ⟨w.heap.size+2,3,none⟩=some (.bool false):=(hb1.cell (p:=⟨w.heap.size+2,3,none⟩) yd).trans (by go_simp)
 have z1_2_3:w1.frozen? ⟨w.heap.size+2,3,none⟩=false:=(hb1.frozen (p:=⟨w.heap.size+2,3,none⟩) yd).trans (by go_simp)
 have x1_2_4:w1.cell? ⟨w.heap.size+2,4,none⟩=some (.slice none 0 0):=(hb1.cell (p:=⟨w.heap.size+2,4,none⟩) yd).trans (by go_simp)
 have z1_2_4:w1.frozen? ⟨w.heap.size+2,4,none⟩=false:=(hb1.frozen (p:=⟨w.heap.size+2,4,none⟩) yd).trans (by go_simp)
 have x1_2_5:w1.cell? ⟨w.heap.size+2,5,none⟩=some (.slice none 0 0):=(hb1.cell (p:=⟨w.heap.size+2,5,none⟩) yd).trans (by go_simp)
 have z1_2_5:w1.frozen? ⟨w.heap.size+2,5,none⟩=false:=(hb1.frozen (p:=⟨w.heap.size+2,5,none⟩) yd).trans (by go_simp)
 have HG1:=yq (show w1.heap[w.heap.size+1]? = some (.cells #[.string ⟨#[]⟩,.string ⟨#[]⟩,.slice none 0 0,.bool false,.slice none 0 0,.slice none 0 0] 50) from (hb1.block _ yd).trans (by (repeat (refine zaj (by simp) ?_));exact zn (by simp) (ze (by simp))))
 have HB1:=yq hbw1;have HSZ1:=yq hsz1;have HLO1:=yq hlo1;clear hb1 hbw1 hsz1 hlo1;(go_wp2_with fail)
 refine (HT1.out _ (Nat.le_trans hhi (Below.size ((by repeat (first|(with_reducible exact HB1.out)|(with_reducible exact Below.refl _ _)|(refine Below.setCell ?_ ye _)|(refine Below.alloc ?_ ye _)):Below w.heap.size w _)))) (HS4.out.later ((by repeat (first|(with_reducible exact HB1.out)|(with_reducible exact Below.refl _ _)|(refine Below.setCell ?_ ye _)|(refine Below.alloc ?_ ye _)):Below w.heap.size w _)) hhi)).mono ?_
 rintro e w2 ⟨a4r,c4r,rfl,ho2,hb2⟩
 have hsz2:w.heap.size+2 < w2.heap.size:=Nat.lt_of_lt_of_le (by have h:=HSZ1.out;first|(with_reducible exact h)|(simp;done)|(simp;omega)|(simp [World.setCell];omega)) hb2.size
 have hlo2:w1.heap.size≤w2.heap.size:=Nat.le_trans yk hb2.size
 have hbw2:Below w.heap.size w w2:=Below.trans ((by repeat (first|(with_reducible exact HB1.out)|(with_reducible exact Below.refl _ _)|(refine Below.setCell ?_ ye _)|(refine Below.alloc ?_ ye _)):Below w.heap.size w _)) (hb2.mono (Below.size ((by repeat (first|(with_reducible exact HB1.out)|(with_reducible exact Below.refl _ _)|(refine Below.setCell ?_ ye _)|(refine Below.alloc ?_ ye _)):Below w.heap.size w _))))
 have HO1_2:=yq (HO1_1.out.kept (Kept.trans (by repeat (first|(with_reducible exact Kept.refl)|(refine Kept.put ?_ (by rintro ⟨h1,h2⟩;dsimp only at h1;have h3:=HSZ0.out;omega)))) (Kept.of_below_all hb2)))
 clear HO1_1
 have HO2_2:=yq (ho2.sub (F':=fun y=>w1.heap.size≤y∧y < w2.heap.size) (fun y hy=>⟨Nat.le_trans yj hy.1,hy.2⟩))
 clear ho2;have hsp:=HSZ1.out
 have x2_0_5:w2.cell? ⟨w.heap.size,5,none⟩=some (.slice a5 x.fo.length c5):=(hb2.cell (p:=⟨w.heap.size,5,none⟩) yd).trans (by go_simp)
 have x2_1_0:w2.cell? ⟨w.heap.size+1,0,none⟩=some (.string ⟨#[]⟩):=(hb2.cell (p:=⟨w.heap.size+1,0,none⟩) yd).trans (by go_simp)
 have z2_1_0:w2.frozen? ⟨w.heap.size+1,0,none⟩=false:=(hb2.frozen (p:=⟨w.heap.size+1,0,none⟩) yd).trans (by go_simp)
 have x2_1_1:w2.cell? ⟨w.heap.size+1,1,none⟩=some (.string ⟨#[]⟩):=(hb2.cell (p:=⟨w.heap.size+1,1,none⟩) yd).trans (by go_simp)
 have z2_1_1:w2.frozen? ⟨w.heap.size+1,1,none⟩=false:=(hb2.frozen (p:=⟨w.heap.size+1,1,none⟩) yd).trans (by go_simp)
 have x2_1_2:w2.cell? ⟨w.heap.size+1,2,none⟩=some (.slice none 0 0):=(hb2.cell (p:=⟨w.heap.size+1,2,none⟩) yd).trans (by go_simp)
 have z2_1_2:w2.frozen? ⟨w.heap.size+1,2,none⟩=false:=(hb2.frozen (p:=⟨w.heap.size+1,2,none⟩) yd).trans (by go_simp)
 have x2_1_3:w2.cell? ⟨w.heap.size+1,3,none⟩=some (.bool false):=(hb2.cell (p:=⟨w.heap.size+1,3,none⟩) yd).trans (by go_simp)
 have z2_1_3:w2.frozen? ⟨w.heap.size+1,3,none⟩=false:=(hb2.frozen (p:=⟨w.heap.size+1,3,none⟩) yd).trans (by go_simp)
 have x2_1_4:w2.cell? ⟨w.heap.size+1,4,none⟩=some (.slice none 0 0):=(hb2.cell (p:=⟨w.heap.size+1,4,none⟩) yd).trans (by go_simp)
 have z2_1_4:w2.frozen? ⟨w.heap.size+1,4,none⟩=false:=(hb2.frozen (p:=⟨w.heap.size+1,4,none⟩) yd).trans (by go_simp)
 have x2_1_5:w2.cell? ⟨w.heap.size+1,5,none⟩=some (.slice none 0 0):=(hb2.cell (p:=⟨w.heap.size+1,5,none⟩) yd).trans (by go_simp)
 have z2_1_5:w2.frozen? ⟨w.heap.size+1,5,none⟩=false:=(hb2.frozen (p:=⟨w.heap.size+1,5,none⟩) yd).trans (by go_simp)
 have x2_2_0:w2.cell? ⟨w.heap.size+2,0,none⟩=some (.string x.fa):=(hb2.cell (p:=⟨w.heap.size+2,0,none⟩) yd).trans (by go_simp)
 have z2_2_0:w2.frozen? ⟨w.heap.size+2,0,none⟩=false:=(hb2.frozen (p:=⟨w.heap.size+2,0,none⟩) yd).trans (by go_simp)
 have x2_2_1:w2.cell? ⟨w.heap.size+2,1,none⟩=some (.string x.fp):=(hb2.cell (p:=⟨w.heap.size+2,1,none⟩) yd).trans (by go_simp)
 have z2_2_1:w2.frozen? ⟨w.heap.size+2,1,none⟩=false:=(hb2.frozen (p:=⟨w.heap.size+2,1,none⟩) yd).trans (by go_simp)
 have x2_2_2:w2.cell? ⟨w.heap.size+2,2,none⟩=some (.slice a2r x.fj.length c2r):=(hb2.cell (p:=⟨w.heap.size+2,2,none⟩) yd).trans (by go_simp)
 have z2_2_2:w2.frozen? ⟨w.heap.size+2,2,none⟩=false:=(hb2.frozen (p:=⟨w.heap.size+2,2,none⟩) yd).trans (by go_simp)
 have x2_2_3:w2.cell? ⟨w.heap.size+2,3,none⟩=some (.bool x.fq):=(hb2.cell (p:=⟨w.heap.size+2,3,none⟩) yd).trans (by go_simp)
 have z2_2_3:w2.frozen? ⟨w.heap.size+2,3,none⟩=false:=(hb2.frozen (p:=⟨w.heap.size+2,3,none⟩) yd).trans (by go_simp)
 have x2_2_4:w2.cell? ⟨w.heap.size+2,4,none⟩=some (.slice none 0 0):=(hb2.cell (p:=⟨w.heap.size+2,4,none⟩) yd).trans (by go_simp)
 have z2_2_4:w2.frozen? ⟨w.heap.size+2,4,none⟩=false:=(hb2.frozen (p:=⟨w.heap.size+2,4,none⟩) yd).trans (by go_simp)
 have x2_2_5:w2.cell? ⟨w.heap.size+2,5,none⟩=some (.slice none 0 0):=(hb2.cell (p:=⟨w.heap.size+2,5,none⟩) yd).trans (by go_simp)
 have z2_2_5:w2.frozen? ⟨w.heap.size+2,5,none⟩=false:=(hb2.frozen (p:=⟨w.heap.size+2,5,none⟩) yd).trans (by go_simp)
 have HG2:=yq (show w2.heap[w.heap.size+1]? = some (.cells #[.string ⟨#[]⟩,.string ⟨#[]⟩,.slice none 0 0,.bool false,.slice none 0 0,.slice none 0 0] 50) from (hb2.block _ yd).trans (by repeat (first|(with_reducible exact HG1.out)|(refine zaj (by simp) ?_))))
 have HB2:=yq hbw2;have HSZ2:=yq hsz2;have HLO2:=yq hlo2;clear hb2 hbw2 hsz2 hlo2 hsp;clear x1_0_3 x1_0_4 x1_0_5 x1_1_0 x1_1_1 x1_1_2 x1_1_3 x1_1_4 x1_1_5 x1_2_0 x1_2_1 x1_2_2 x1_2_3 x1_2_4 x1_2_5 z1_1_0 z1_1_1 z1_1_2 z1_1_3 z1_1_4 z1_1_5 z1_2_0 z1_2_1 z1_2_2 z1_2_3 z1_2_4 z1_2_5;(go_wp2_with fail)
 refine (HT2.out _ (Nat.le_trans hhi (Below.size ((by repeat (first|(with_reducible exact HB2.out)|(with_reducible exact Below.refl _ _)|(refine Below.setCell ?_ ye _)|(refine Below.alloc ?_ ye _)):Below w.heap.size w _)))) (HS5.out.later ((by repeat (first|(with_reducible exact HB2.out)|(with_reducible exact Below.refl _ _)|(refine Below.setCell ?_ ye _)|(refine Below.alloc ?_ ye _)):Below w.heap.size w _)) hhi)).mono ?_
 rintro e w3 ⟨a5r,c5r,rfl,ho3,hb3⟩
 have hsz3:w.heap.size+2 < w3.heap.size:=Nat.lt_of_lt_of_le (by have h:=HSZ2.out;first|(with_reducible exact h)|(simp;done)|(simp;omega)|(simp [World.setCell];omega)) hb3.size
 have hlo3:w2.heap.size≤w3.heap.size:=Nat.le_trans yk hb3.size
 have hbw3:Below w.heap.size w w3:=Below.trans ((by repeat (first|(with_reducible exact HB2.out)|(with_reducible exact Below.refl _ _)|(refine Below.setCell ?_ ye _)|(refine Below.alloc ?_ ye _)):Below w.heap.size w _)) (hb3.mono (Below.size ((by repeat (first|(with_reducible exact HB2.out)|(with_reducible exact Below.refl _ _)|(refine Below.setCell ?_ ye _)|(refine Below.alloc ?_ ye _)):Below w.heap.size w _))))
 have HO1_3:=yq (HO1_2.out.kept (Kept.trans (by repeat (first|(with_reducible exact Kept.refl)|(refine Kept.put ?_ (by rintro ⟨h1,h2⟩;dsimp only at h1;have h3:=HSZ0.out;omega)))) (Kept.of_below_all hb3)))
 clear HO1_2
 have HO2_3:=yq (HO2_2.out.kept (Kept.trans (by repeat (first|(with_reducible exact Kept.refl)|(refine Kept.put ?_ (by rintro ⟨h1,h2⟩;dsimp only at h1;have h3:=HSZ1.out;omega)))) (Kept.of_below_all hb3)))
 clear HO2_2
 have HO3_3:=yq (ho3.sub (F':=fun y=>w2.heap.size≤y∧y < w3.heap.size) (fun y hy=>⟨Nat.le_trans yj hy.1,hy.2⟩))
 clear ho3;have hsp:=HSZ2.out
 have x3_1_0:w3.cell? ⟨w.heap.size+1,0,none⟩=some (.string ⟨#[]⟩):=(hb3.cell (p:=⟨w.heap.size+1,0,none⟩) yd).trans (by go_simp)
 have z3_1_0:w3.frozen? ⟨w.heap.size+1,0,none⟩=false:=(hb3.frozen (p:=⟨w.heap.size+1,0,none⟩) yd).trans (by go_simp)
 have x3_1_1:w3.cell? ⟨w.heap.size+1,1,none⟩=some (.string ⟨#[]⟩):=(hb3.cell (p:=⟨w.heap.size+1,1,none⟩) yd).trans (by go_simp)
 have z3_1_1:w3.frozen? ⟨w.heap.size+1,1,none⟩=false:=(hb3.frozen (p:=⟨w.heap.size+1,1,none⟩) yd).trans (by go_simp)
 have x3_1_2:w3.cell? ⟨w.heap.size+1,2,none⟩=some (.slice none 0 0):=(hb3.cell (p:=⟨w.heap.size+1,2,none⟩) yd).trans (by go_simp)
 have z3_1_2:w3.frozen? ⟨w.heap.size+1,2,none⟩=false:=(hb3.frozen (p:=⟨w.heap.size+1,2,none⟩) yd).trans (by go_simp)
 have x3_1_3:w3.cell? ⟨w.heap.size+1,3,none⟩=some (.bool false):=(hb3.cell (p:=⟨w.heap.size+1,3,none⟩) yd).trans (by go_simp)
 have z3_1_3:w3.frozen? ⟨w.heap.size+1,3,none⟩=false:=(hb3.frozen (p:=⟨w.heap.size+1,3,none⟩) yd).trans (by go_simp)
 have x3_1_4:w3.cell? ⟨w.heap.size+1,4,none⟩=some (.slice none 0 0):=(hb3.cell (p:=⟨w.heap.size+1,4,none⟩) yd).trans (by go_simp)
 have z3_1_4:w3.frozen? ⟨w.heap.size+1,4,none⟩=false:=(hb3.frozen (p:=⟨w.heap.size+1,4,none⟩) yd).trans (by go_simp)
 have x3_1_5:w3.cell? ⟨w.heap.size+1,5,none⟩=some (.slice none 0 0):=(hb3.cell (p:=⟨w.heap.size+1,5,none⟩) yd).trans (by go_simp)
 have z3_1_5:w3.frozen? ⟨w.heap.size+1,5,none⟩=false:=(hb3.frozen (p:=⟨w.heap.size+1,5,none⟩) yd).trans (by go_simp)
 have x3_2_0:w3.cell? ⟨w.heap.size+2,0,none⟩=some (.string x.fa):=(hb3.cell (p:=⟨w.heap.size+2,0,none⟩) yd).trans (by go_simp)
 have z3_2_0:w3.frozen? ⟨w.heap.size+2,0,none⟩=false:=(hb3.frozen (p:=⟨w.heap.size+2,0,none⟩) yd).trans (by go_simp)
 have x3_2_1:w3.cell? ⟨w.heap.size+2,1,none⟩=some (.string x.fp):=(hb3.cell (p:=⟨w.heap.size+2,1,none⟩) yd).trans (by go_simp)
 have z3_2_1:w3.frozen? ⟨w.heap.size+2,1,none⟩=false:=(hb3.frozen (p:=⟨w.heap.size+2,1,none⟩) yd).trans (by go_simp)
 have x3_2_2:w3.cell? ⟨w.heap.size+2,2,none⟩=some (.slice a2r x.fj.length c2r):=(hb3.cell (p:=⟨w.heap.size+2,2,none⟩) yd).trans (by go_simp)
 have z3_2_2:w3.frozen? ⟨w.heap.size+2,2,none⟩=false:=(hb3.frozen (p:=⟨w.heap.size+2,2,none⟩) yd).trans (by go_simp)
 have x3_2_3:w3.cell? ⟨w.heap.size+2,3,none⟩=some (.bool x.fq):=(hb3.cell (p:=⟨w.heap.size+2,3,none⟩) yd).trans (by go_simp)
 have z3_2_3:w3.frozen? ⟨w.heap.size+2,3,none⟩=false:=(hb3.frozen (p:=⟨w.heap.size+2,3,none⟩) yd).trans (by go_simp)
 have x3_2_4:w3.cell? ⟨w.heap.size+2,4,none⟩=some (.slice a4r x.fg.length c4r):=(hb3.cell (p:=⟨w.heap.size+2,4,none⟩) yd).trans (by go_simp)
 have z3_2_4:w3.frozen? ⟨w.heap.size+2,4,none⟩=false:=(hb3.frozen (p:=⟨w.heap.size+2,4,none⟩) yd).trans (by go_simp)
 have x3_2_5:w3.cell? ⟨w.heap.size+2,5,none⟩=some (.slice none 0 0):=(hb3.cell (p:=⟨w.heap.size+2,5,none⟩) yd).trans (by go_simp)
 have z3_2_5:w3.frozen? ⟨w.heap.size+2,5,none⟩=false:=(hb3.frozen (p:=⟨w.heap.size+2,5,none⟩) yd).trans (by go_simp)
 have HG3:=yq (show w3.heap[w.heap.size+1]? = some (.cells #[.string ⟨#[]⟩,.string ⟨#[]⟩,.slice none 0 0,.bool false,.slice none 0 0,.slice none 0 0] 50) from (hb3.block _ yd).trans (by repeat (first|(with_reducible exact HG2.out)|(refine zaj (by simp) ?_))))
 have HB3:=yq hbw3;have HSZ3:=yq hsz3;have HLO3:=yq hlo3;clear hb3 hbw3 hsz3 hlo3 hsp;clear x2_0_5 x2_1_0 x2_1_1 x2_1_2 x2_1_3 x2_1_4 x2_1_5 x2_2_0 x2_2_1 x2_2_2 x2_2_3 x2_2_4 x2_2_5 z2_1_0 z2_1_1 z2_1_2 z2_1_3 z2_1_4 z2_1_5 z2_2_0 z2_2_1 z2_2_2 z2_2_3 z2_2_4 z2_2_5;go_wp2
 refine bodyPost_ret (v:=.agg #[.string x.fa,.string x.fp,.slice a2r x.fj.length c2r,.bool x.fq,.slice a4r x.fg.length c4r,.slice a5r x.fo.length c5r]) (results_cell_row Tryz.results45 _ _ (w.heap.size+1) 50 #[.string x.fa,.string x.fp,.slice a2r x.fj.length c2r,.bool x.fq,.slice a4r x.fg.length c4r,.slice a5r x.fo.length c5r] (0,0) _ rfl (by refine Eq.trans (zm (cs:=#[.string x.fa,.string x.fp,.slice a2r x.fj.length c2r,.bool x.fq,.slice a4r x.fg.length c4r,.slice none 0 0]) (t:=50) (fr:=(0,0)) ?_) rfl;refine Eq.trans (zm (cs:=#[.string x.fa,.string x.fp,.slice a2r x.fj.length c2r,.bool x.fq,.slice none 0 0,.slice none 0 0]) (t:=50) (fr:=(0,0)) ?_) rfl;refine Eq.trans (zm (cs:=#[.string x.fa,.string x.fp,.slice a2r x.fj.length c2r,.bool false,.slice none 0 0,.slice none 0 0]) (t:=50) (fr:=(0,0)) ?_) rfl;refine Eq.trans (zm (cs:=#[.string x.fa,.string x.fp,.slice none 0 0,.bool false,.slice none 0 0,.slice none 0 0]) (t:=50) (fr:=(0,0)) ?_) rfl;refine Eq.trans (zm (cs:=#[.string x.fa,.string ⟨#[]⟩,.slice none 0 0,.bool false,.slice none 0 0,.slice none 0 0]) (t:=50) (fr:=(0,0)) ?_) rfl;refine Eq.trans (zm (cs:=#[.string ⟨#[]⟩,.string ⟨#[]⟩,.slice none 0 0,.bool false,.slice none 0 0,.slice none 0 0]) (t:=50) (fr:=(0,0)) ?_) rfl;repeat (first|(with_reducible exact HG3.out)|(refine zaj (by simp) ?_))) Tryz.underlying50 rfl rfl) rfl ⟨a2r,c2r,a4r,c4r,a5r,c5r,rfl,?_,(by repeat (first|(with_reducible exact HB3.out)|(with_reducible exact Below.refl _ _)|(refine Below.setCell ?_ ye _)|(refine Below.alloc ?_ ye _)):Below w.heap.size w _)⟩
 have ho1:=HO1_3.out;clear HO1_3;have ho2:=HO2_3.out;clear HO2_3;have ho3:=HO3_3.out;clear HO3_3;have q1:=HLO1.out;have q2:=HLO2.out;have q3:=HLO3.out;skip;skip;skip
 have hkk : ∀ w9:World,Kept (fun y=>w.heap.size+3≤y) w3 w9→OwnR w9 (fun y=>w.heap.size≤y∧y < w3.heap.size) 6 x.ct (fun j=>[.string x.fa,.string x.fp,.slice a2r x.fj.length c2r,.bool x.fq,.slice a4r x.fg.length c4r,.slice a5r x.fo.length c5r].getD j .nilFunc):=fun w9 hk=>by
  refine OwnR.append (F1:=fun _=>False) (F2:=fun y=>w.heap.size+3≤y∧y < w3.heap.size) (m:=2) (n:=4) ?_ ?_ yo ym ym
  ·skip
   refine OwnR.lits (F:=fun _=>False) fun j hj=>?_
   match j,hj with
   | 0,_=>rfl
   | 1,_=>rfl
  ·skip
   refine OwnR.append (F1:=fun y=>w.heap.size+3≤y∧y < w1.heap.size) (F2:=fun y=>w1.heap.size≤y∧y < w3.heap.size) (m:=1) (n:=3) ?_ ?_ yo ym ym
   ·skip
    exact OwnR.one (ho1.kept (hk.sub fun y hy=>by have h:=hy.1;omega))
   ·skip
    refine OwnR.append (F1:=fun _=>False) (F2:=fun y=>w1.heap.size≤y∧y < w3.heap.size) (m:=1) (n:=2) ?_ ?_ yo ym ym
    ·skip
     refine OwnR.lits (F:=fun _=>False) fun j hj=>?_
     match j,hj with
     | 0,_=>rfl
    ·skip
     refine OwnR.append (F1:=fun y=>w1.heap.size≤y∧y < w2.heap.size) (F2:=fun y=>w2.heap.size≤y∧y < w3.heap.size) (m:=1) (n:=1) ?_ ?_ yo ym ym
     ·skip
      exact OwnR.one (ho2.kept (hk.sub fun y hy=>by have h:=hy.1;omega))
     ·skip
      exact OwnR.one (ho3.kept (hk.sub fun y hy=>by have h:=hy.1;omega))
 refine (hkk _ (by repeat (first|(with_reducible exact Kept.refl)|(refine Kept.put ?_ (by intro h1;dsimp only at h1;omega))))).sub (fun y hy=>⟨hy.1,Nat.lt_of_lt_of_le hy.2 (by simp)⟩)
theorem zqi:(Tryz.prog.info? 50).map (fun i=>(i.zero,i.size,i.bytes))=some (some (.agg #[.string ⟨#[]⟩,.string ⟨#[]⟩,.slice none 0 0,.bool false,.slice none 0 0,.slice none 0 0]),6,112):=by kernel_rfl
theorem zrb {lo hi lo2 hi2:Nat} {a2:Option Addr} {c2:Nat} {a4:Option Addr} {c4:Nat} {a5:Option Addr} {c5:Nat} {a2q:Option Addr} {c2q:Nat} {a4q:Option Addr} {c4q:Nat} {a5q:Option Addr} {c5q:Nat} (x:DRule) (hsz:x.sz≤1048576) (w:World) (hhi:hi≤w.heap.size) (hhi2:hi2≤w.heap.size) (hs2:Sl lo hi w 1 x.fj.length (fun k=>ictS (x.fj.getD k default)) a2) (hs4:Sl lo hi w 9 x.fg.length (fun k=>DEquation.ct (x.fg.getD k default)) a4) (hs5:Sl lo hi w 16 x.fo.length (fun k=>DContribution.ct (x.fo.getD k default)) a5) (hs2q:Sl lo2 hi2 w 1 x.fj.length (fun k=>ictS (x.fj.getD k default)) a2q) (hs4q:Sl lo2 hi2 w 9 x.fg.length (fun k=>DEquation.ct (x.fg.getD k default)) a4q) (hs5q:Sl lo2 hi2 w 16 x.fo.length (fun k=>DContribution.ct (x.fo.getD k default)) a5q) :
  Calls Tryz.prog 57 #[.agg #[.string x.fa,.string x.fp,.slice a2 x.fj.length c2,.bool x.fq,.slice a4 x.fg.length c4,.slice a5 x.fo.length c5],.agg #[.string x.fa,.string x.fp,.slice a2q x.fj.length c2q,.bool x.fq,.slice a4q x.fg.length c4q,.slice a5q x.fo.length c5q]] w fun e w'=>e = .returned (.bool true)∧Below w.heap.size w w':=by
 have HS2:=yq hs2;have HS2q:=yq hs2q;have HS4:=yq hs4;have HS4q:=yq hs4q;have HS5:=yq hs5;have HS5q:=yq hs5q;clear hs2 hs2q hs4 hs4q hs5 hs5q;have HW:=yq hsz;clear hsz;have HB0:=yq (((Below.refl w.heap.size w).alloc (Nat.le_refl _) (.cells #[.string x.fa,.string x.fp,.slice a2 x.fj.length c2,.bool x.fq,.slice a4 x.fg.length c4,.slice a5 x.fo.length c5] 50)).alloc ye (.cells #[.string x.fa,.string x.fp,.slice a2q x.fj.length c2q,.bool x.fq,.slice a4q x.fg.length c4q,.slice a5q x.fo.length c5q] 50))
 have ht0:=fun (w':World) (hhi:hi≤w'.heap.size) (hhi2:hi2≤w'.heap.size) (hs:Sl lo hi w' 1 x.fj.length (fun k=>ictS (x.fj.getD k default)) a2) (hs2:Sl lo2 hi2 w' 1 x.fj.length (fun k=>ictS (x.fj.getD k default)) a2q)=>zmo (cap:=c2) (cap2:=c2q) x.fj (by have h:=HW.out;unfold DRule.sz at h;omega) w' hhi hhi2 hs hs2
 have HT0:=yq ht0;clear ht0
 have ht1:=fun (w':World) (hhi:hi≤w'.heap.size) (hhi2:hi2≤w'.heap.size) (hs:Sl lo hi w' 9 x.fg.length (fun k=>DEquation.ct (x.fg.getD k default)) a4) (hs2:Sl lo2 hi2 w' 9 x.fg.length (fun k=>DEquation.ct (x.fg.getD k default)) a4q)=>zje (cap:=c4) (cap2:=c4q) x.fg (by have h:=HW.out;unfold DRule.sz at h;omega) w' hhi hhi2 hs hs2
 have HT1:=yq ht1;clear ht1
 have ht2:=fun (w':World) (hhi:hi≤w'.heap.size) (hhi2:hi2≤w'.heap.size) (hs:Sl lo hi w' 16 x.fo.length (fun k=>DContribution.ct (x.fo.getD k default)) a5) (hs2:Sl lo2 hi2 w' 16 x.fo.length (fun k=>DContribution.ct (x.fo.getD k default)) a5q)=>zfl (cap:=c5) (cap2:=c5q) x.fo (by have h:=HW.out;unfold DRule.sz at h;omega) w' hhi hhi2 hs hs2
 have HT2:=yq ht2;clear ht2
 go_enter Tryz.func57,Tryz.ntmps57
 (go_wp2_with fail);refine (HT0.out _ (Nat.le_trans hhi (HB0.out.size)) (Nat.le_trans hhi2 (HB0.out.size)) (HS2.out.later HB0.out hhi) (HS2q.out.later HB0.out hhi2)).mono ?_;rintro e w1 ⟨rfl,hb1⟩
 have x1_0_3:w1.cell? ⟨w.heap.size,3,none⟩=some (.bool x.fq):=(hb1.cell (p:=⟨w.heap.size,3,none⟩) yd).trans (by go_simp)
 have x1_0_4:w1.cell? ⟨w.heap.size,4,none⟩=some (.slice a4 x.fg.length c4):=(hb1.cell (p:=⟨w.heap.size,4,none⟩) yd).trans (by go_simp)
 have x1_0_5:w1.cell? ⟨w.heap.size,5,none⟩=some (.slice a5 x.fo.length c5):=(hb1.cell (p:=⟨w.heap.size,5,none⟩) yd).trans (by go_simp)
 have x1_1_3:w1.cell? ⟨w.heap.size+1,3,none⟩=some (.bool x.fq):=(hb1.cell (p:=⟨w.heap.size+1,3,none⟩) yd).trans (by go_simp)
 have x1_1_4:w1.cell? ⟨w.heap.size+1,4,none⟩=some (.slice a4q x.fg.length c4q):=(hb1.cell (p:=⟨w.heap.size+1,4,none⟩) yd).trans (by go_simp)
 have x1_1_5:w1.cell? ⟨w.heap.size+1,5,none⟩=some (.slice a5q x.fo.length c5q):=(hb1.cell (p:=⟨w.heap.size+1,5,none⟩) yd).trans (by go_simp)
 have hsz1:w.heap.size+1 < w1.heap.size:=Nat.lt_of_lt_of_le yd hb1.size;have HB1:=yq (HB0.out.trans (hb1.mono HB0.out.size));clear hb1;(go_wp2_with fail);refine (HT1.out _ (Nat.le_trans hhi (HB1.out.size)) (Nat.le_trans hhi2 (HB1.out.size)) (HS4.out.later HB1.out hhi) (HS4q.out.later HB1.out hhi2)).mono ?_;rintro e w2 ⟨rfl,hb2⟩
 have x2_0_5:w2.cell? ⟨w.heap.size,5,none⟩=some (.slice a5 x.fo.length c5):=(hb2.cell (p:=⟨w.heap.size,5,none⟩) yd).trans (by go_simp)
 have x2_1_5:w2.cell? ⟨w.heap.size+1,5,none⟩=some (.slice a5q x.fo.length c5q):=(hb2.cell (p:=⟨w.heap.size+1,5,none⟩) yd).trans (by go_simp)
 have hsz2:w.heap.size+1 < w2.heap.size:=Nat.lt_of_lt_of_le yd hb2.size;have HB2:=yq (HB1.out.trans (hb2.mono HB1.out.size));clear hb2;clear x1_0_3 x1_0_4 x1_0_5 x1_1_3 x1_1_4 x1_1_5 hsz1;(go_wp2_with fail);refine (HT2.out _ (Nat.le_trans hhi (HB2.out.size)) (Nat.le_trans hhi2 (HB2.out.size)) (HS5.out.later HB2.out hhi) (HS5q.out.later HB2.out hhi2)).mono ?_;rintro e w3 ⟨rfl,hb3⟩;have HB3:=yq (HB2.out.trans (hb3.mono HB2.out.size));clear hb3;clear x2_0_5 x2_1_5 hsz2;go_wp2;go_ret;exact ⟨rfl,HB3.out⟩
theorem zpk {lo hi lo2 hi2:Nat} {a a2:Option Addr} {cap cap2:Nat} (l:List DRule) (hsz:lsz DRule.sz l≤1048576) (w:World) (hhi:hi≤w.heap.size) (hhi2:hi2≤w.heap.size) (hs:Sl lo hi w 6 l.length (fun k=>DRule.ct (l.getD k default)) a) (hs2:Sl lo2 hi2 w 6 l.length (fun k=>DRule.ct (l.getD k default)) a2) :
  Calls Tryz.prog 34 #[.slice a l.length cap,.slice a2 l.length cap2] w fun e w'=>e = .returned (.bool true)∧Below w.heap.size w w':=by
 have HS:=yq hs;have HS2:=yq hs2;have HW:=yq hsz
 have hn:l.length≤1048576:=by unfold lsz at hsz;omega
 clear hs hs2 hsz
 go_enter Tryz.func34,Tryz.ntmps34
 go_wp2
 go_loopw [5] (fun i wr=>∃ k:Nat,k≤l.length∧i = .int .i64 (k:Int)∧Below w.heap.size w wr) (fun i _=>l.length - (intOf i).toNat)
 case atStart=>exact ⟨0,Nat.zero_le _,rfl,Below.refl _ _⟩
 case round =>
  obtain ⟨k,hk,rfl,hb⟩:=hrel;have HB:=yq hb
  by_cases hlt:k < l.length
  ·have hhr:hi≤wr.heap.size:=Nat.le_trans hhi hb.size
   have hhr2:hi2≤wr.heap.size:=Nat.le_trans hhi2 hb.size;obtain ⟨b,off,rfl,_,hhi',hc⟩:=(HS.out.later (hb.mono hhi) (Nat.le_refl _)).at k hlt;obtain ⟨b2,off2,rfl,_,hhi2',hc2⟩:=(HS2.out.later (hb.mono hhi2) (Nat.le_refl _)).at k hlt;obtain ⟨a2,c2,a4,c4,a5,c5,hc0_,hc1_,hc2_,hc3_,hc4_,hc5_,hs2,hs4,hs5⟩:=DRule.open hc;obtain ⟨a2q,c2q,a4q,c4q,a5q,c5q,hc0q_,hc1q_,hc2q_,hc3q_,hc4q_,hc5q_,hs2q,hs4q,hs5q⟩:=DRule.open hc2;have hxs:=zab (f:=DRule.sz) l k hlt;clear hb hc hc2;generalize l.getD k default=x at *
   have HT:=yq (fun (w':World) (hw:Below wr.heap.size wr w')=>zrb (c2:=c2) (c2q:=c2q) (c4:=c4) (c4q:=c4q) (c5:=c5) (c5q:=c5q) x (by have h1:=HW.out;omega) w' (Nat.le_trans hhr hw.size) (Nat.le_trans hhr2 hw.size) (hs2.later hw hhr) (hs4.later hw hhr) (hs5.later hw hhr) (hs2q.later hw hhr2) (hs4q.later hw hhr2) (hs5q.later hw hhr2))
   clear hxs hs2 hs2q hs4 hs4q hs5 hs5q;(go_wp2_with fail)
   go_region_with ((go_at_call 57;refine (HT.out _ (by first|exact Below.refl _ _|exact (Below.refl _ _).drew|exact below_drewN (Below.refl _ _) _)).mono ?_;rintro e w1 ⟨rfl,hb1⟩))
   all_goals
    go_wp2;go_roundw
    case rel =>
     refine ⟨k+1,by omega,by go_num,?_⟩
     have hb2:Below wr.heap.size wr w1:=⟨hb1.os,hb1.tape,hb1.output,hb1.size,hb1.block⟩
     repeat (first|exact HB.out.trans (hb2.mono HB.out.size)|apply Below.drew|refine below_drewN ?_ _)
    case measure=>simp [intOf];omega
  ·go_wp2
   go_ret;exact ⟨rfl,HB.out⟩
def inR (n a b:Int):Bool:=decide (a≤n) && decide (n≤b)
theorem zc5 {n a b:Int} (h1:a≤n) (h2:n≤b):inR n a b=true:=by unfold inR;simp [h1,h2]
theorem zcy {n a b:Int} (h:n < a∨b < n):inR n a b=false:=by unfold inR;simp;omega
theorem zhw {x lo hi:Int}:inR x lo hi=true↔lo≤x∧x≤hi:=by unfold inR;rw [Bool.and_eq_true,decide_eq_true_eq,decide_eq_true_eq]
theorem zaf (n a b:Int) (w:World) :
  Calls Tryz.prog 11 #[.int .i64 n,.int .i64 a,.int .i64 b] w fun e w'=>e = .returned (.bool (inR n a b))∧w=w':=by
 by_cases h1:a≤n
 ·have FIN:=yq (show inR n a b=decide (n≤b) by unfold inR;simp [h1])
  go_enter Tryz.func11,Tryz.ntmps11
  go_wp2;go_ret
  exact ⟨zh (by rw [FIN.out]),rfl⟩
 ·have FIN:=yq (show inR n a b=false from zcy (by omega))
  have h1':n < a:=by omega
  clear h1
  go_enter Tryz.func11,Tryz.ntmps11
  go_wp2;go_ret
  exact ⟨zh (by rw [FIN.out]),rfl⟩
end Go.Proofs.YtmbaajangkmjdaaGreat
namespace Go.Proofs.YtmbaajangkmjdaaGreat
open Go.ChangeShapes Go.WideShapes Go.ChangeAt Go.RowKit
theorem zbi {a b:Int} (h:a=b):Ending.returned (.int .i64 a) = .returned (.int .i64 b):=by rw [h]
def mx (a b:Int):Int:=if b < a then a else b
def mn (a b:Int):Int:=if a < b then a else b
theorem mx_l {a b:Int} (h:b < a):mx a b=a:=if_pos h
theorem mx_r {a b:Int} (h:a≤b):mx a b=b:=if_neg (by omega)
theorem mn_l {a b:Int} (h:a < b):mn a b=a:=if_pos h
theorem mn_r {a b:Int} (h:b≤a):mn a b=b:=if_neg (by omega)
theorem ztd (a b:Int) (w:World) :
  Calls Tryz.prog 173 #[.int .i64 a,.int .i64 b] w fun e w'=>e = .returned (.int .i64 (mx a b))∧w=w':=by
 by_cases h:b < a
 all_goals
  go_enter Tryz.func173,Tryz.ntmps173
  go_wp2;go_ret
  exact ⟨zbi (by first|rw [mx_l (by omega)]|rw [mx_r (by omega)]),rfl⟩
theorem ztg (a b:Int) (w:World) :
  Calls Tryz.prog 230 #[.int .i64 a,.int .i64 b] w fun e w'=>e = .returned (.int .i64 (mn a b))∧w=w':=by
 by_cases h:a < b
 all_goals
  go_enter Tryz.func230,Tryz.ntmps230
  go_wp2;go_ret
  exact ⟨zbi (by first|rw [mn_l (by omega)]|rw [mn_r (by omega)]),rfl⟩
def sat (x:Int):Int:=if x < -1000000 then -1000000 else if 1000000 < x then 1000000 else x
theorem zwu {x:Int} (h : -1000000≤x) (h':x≤1000000):sat x=x:=by unfold sat;rw [if_neg (by omega),if_neg (by omega)]
theorem zx1 {x:Int} (h:x < -1000000):sat x = -1000000:=by unfold sat;rw [if_pos h]
theorem zx4 {x:Int} (h:1000000 < x):sat x=1000000:=by unfold sat;rw [if_neg (by omega),if_pos h]
theorem zx8 (x:Int):mx (-1000000) (mn 1000000 x)=sat x:=by unfold mx mn sat;split<;>split<;>(try split)<;>omega
theorem znp (a:Int) (w:World) :
  Calls Tryz.prog 210 #[.int .i64 a] w fun e w'=>e = .returned (.int .i64 (sat a))∧w=w':=by
 go_enter Tryz.func210,Tryz.ntmps210
 (go_wp2_with fail);refine (ztg _ _ _).mono ?_;rintro e w1 ⟨rfl,rfl⟩;(go_wp2_with fail);refine (ztd _ _ _).mono ?_;rintro e w1 ⟨rfl,rfl⟩;go_wp2;go_ret;exact ⟨zbi (zx8 a),rfl⟩
theorem zno (a:Int) (w:World) :
  Calls Tryz.prog 215 #[.int .i64 a] w fun e w'=>e = .returned (.int .i64 (sat a))∧w=w':=by
 rcases (by omega:a < -1000000∨1000000 < a∨(-1000000≤a∧a≤1000000)) with h|h|⟨h,h'⟩
 all_goals
  go_enter Tryz.func215,Tryz.ntmps215
  go_wp2
  all_goals
   go_ret
   exact ⟨zbi (by first|rw [zx1 h]|rw [zx4 h]|rw [zwu h h']|(rw [zwu (by omega) (by omega)];try omega)),rfl⟩
def tr (b:Bool):Int:=if b then 1 else 0
theorem zpv (b:Bool) (w:World) :
  Calls Tryz.prog 211 #[.bool b] w fun e w'=>e = .returned (.int .i64 (tr b))∧w=w':=by
 cases b
 all_goals
  go_enter Tryz.func211,Tryz.ntmps211
  go_wp2;go_ret;exact ⟨rfl,rfl⟩
theorem zj7 (b:Bool) (w:World) :
  Calls Tryz.prog 224 #[.bool b] w fun e w'=>e = .returned (.int .i64 (tr b))∧w=w':=by
 cases b
 all_goals
  go_enter Tryz.func224,Tryz.ntmps224
  go_wp2;go_ret;exact ⟨rfl,rfl⟩
def coe (v k:Int):Int :=
 if k=1 then sat v else if k=2 then bits .and .i64 v 4095 else if k=3 then tr (v != 0) else if k=4 then (if inR v 0 999 then v else 0) else 0
theorem zxw (v:Int):coe v 1=sat v:=rfl
theorem zxp (v:Int):coe v 2=bits .and .i64 v 4095:=rfl
theorem zxu (v:Int):coe v 3=tr (v != 0):=rfl
theorem zyd (v:Int):coe v 4=if inR v 0 999 then v else 0:=rfl
theorem zwt {v k:Int} (h1 : ¬ k=1) (h2 : ¬ k=2) (h3 : ¬ k=3) (h4 : ¬ k=4):coe v k=0:=by unfold coe;rw [if_neg h1,if_neg h2,if_neg h3,if_neg h4]
theorem zrz (v k:Int) (w:World) :
  Calls Tryz.prog 204 #[.int .i64 v,.int .i64 k] w fun e w'=>e = .returned (.int .i64 (coe v k))∧w=w':=by
 rcases (by omega:k=1∨k=2∨k=3∨k=4∨(¬ k=1 ∧ ¬ k=2 ∧ ¬ k=3 ∧ ¬ k=4)) with rfl|rfl|rfl|rfl|⟨h1,h2,h3,h4⟩
 ·go_enter Tryz.func204,Tryz.ntmps204
  (go_wp2_with fail);refine (znp _ _).mono ?_;rintro e w1 ⟨rfl,rfl⟩;go_wp2;go_ret;exact ⟨zbi (zxw v).symm,rfl⟩
 ·go_enter Tryz.func204,Tryz.ntmps204
  go_wp2;go_ret;exact ⟨zbi (zxp v).symm,rfl⟩
 ·go_enter Tryz.func204,Tryz.ntmps204
  (go_wp2_with fail);refine (zpv _ _).mono ?_;rintro e w1 ⟨rfl,rfl⟩;go_wp2;go_ret;exact ⟨zbi (zxu v).symm,rfl⟩
 ·have hc:=zyd v
  by_cases hr:inR v 0 999=true
  ·rw [if_pos hr] at hc
   have HC:=yq hc;clear hc
   go_enter Tryz.func204,Tryz.ntmps204
   (go_wp2_with fail);refine (zaf _ _ _ _).mono ?_;rintro e w1 ⟨rfl,rfl⟩;go_wp2;go_ret;exact ⟨zbi HC.out.symm,rfl⟩
  ·rw [if_neg hr] at hc
   have hr:inR v 0 999=false:=by simpa using hr
   have HC:=yq hc;clear hc
   go_enter Tryz.func204,Tryz.ntmps204
   (go_wp2_with fail);refine (zaf _ _ _ _).mono ?_;rintro e w1 ⟨rfl,rfl⟩;go_wp2;go_ret;exact ⟨zbi HC.out.symm,rfl⟩
 ·go_enter Tryz.func204,Tryz.ntmps204
  go_wp2;go_ret;exact ⟨zbi (zwt h1 h2 h3 h4).symm,rfl⟩
theorem zr6 (v k:Int) (w:World) :
  Calls Tryz.prog 213 #[.int .i64 v,.int .i64 k] w fun e w'=>e = .returned (.int .i64 (coe v k))∧w=w':=by
 rcases (by omega:k=1∨k=2∨k=3∨k=4∨(¬ k=1 ∧ ¬ k=2 ∧ ¬ k=3 ∧ ¬ k=4)) with rfl|rfl|rfl|rfl|⟨h1,h2,h3,h4⟩
 ·go_enter Tryz.func213,Tryz.ntmps213
  (go_wp2_with fail);refine (zno _ _).mono ?_;rintro e w1 ⟨rfl,rfl⟩;go_wp2;go_ret;exact ⟨zbi (zxw v).symm,rfl⟩
 ·go_enter Tryz.func213,Tryz.ntmps213
  go_wp2;go_ret;exact ⟨zbi (zxp v).symm,rfl⟩
 ·go_enter Tryz.func213,Tryz.ntmps213
  (go_wp2_with fail);refine (zj7 _ _).mono ?_;rintro e w1 ⟨rfl,rfl⟩;go_wp2;go_ret;exact ⟨zbi (zxu v).symm,rfl⟩
 ·have hc:=zyd v
  rcases (by omega:v < 0∨(0≤v∧999 < v)∨(0≤v∧v≤999)) with h|⟨h,h'⟩|⟨h,h'⟩
  ·rw [zcy (Or.inl h),if_neg (by decide)] at hc
   have HC:=yq hc;clear hc
   go_enter Tryz.func213,Tryz.ntmps213
   go_wp2;go_ret;exact ⟨zbi HC.out.symm,rfl⟩
  ·rw [zcy (Or.inr h'),if_neg (by decide)] at hc
   have HC:=yq hc;clear hc
   go_enter Tryz.func213,Tryz.ntmps213
   go_wp2;go_ret;exact ⟨zbi HC.out.symm,rfl⟩
  ·rw [zc5 h h',if_pos rfl] at hc
   have HC:=yq hc;clear hc
   go_enter Tryz.func213,Tryz.ntmps213
   go_wp2;go_ret;exact ⟨zbi HC.out.symm,rfl⟩
 ·go_enter Tryz.func213,Tryz.ntmps213
  go_wp2;go_ret;exact ⟨zbi (zwt h1 h2 h3 h4).symm,rfl⟩
def isOf (v k:Int):Bool:=inR k 1 4 && coe v k == v
theorem zuo {v k:Int} (h:inR k 1 4=false):isOf v k=false:=by unfold isOf;rw [h];rfl
theorem zv9 {v k:Int} (h:inR k 1 4=true):isOf v k=(coe v k == v):=by unfold isOf;rw [h];rfl
theorem zu4 {v k:Int} (h:inR k 1 4=true):isOf v k=(v == coe v k):=by rw [zv9 h];exact Bool.eq_iff_iff.2 ⟨fun h=>by simpa using (by simpa using h:coe v k=v).symm,fun h=>by simpa using (by simpa using h:v=coe v k).symm⟩
theorem zos (v k:Int) (w:World) :
  Calls Tryz.prog 188 #[.int .i64 v,.int .i64 k] w fun e w'=>e = .returned (.bool (isOf v k))∧w=w':=by
 have h1:=@zuo v k;have h2:=@zv9 v k
 cases hr:inR k 1 4
 ·have HC:=yq (h1 hr)
  clear h1 h2
  go_enter Tryz.func188,Tryz.ntmps188
  (go_wp2_with fail);refine (zaf _ _ _ _).mono ?_;rintro e w1 ⟨rfl,rfl⟩;go_wp2;go_ret;exact ⟨zh HC.out.symm,rfl⟩
 ·have HC:=yq (h2 hr)
  clear h1 h2
  go_enter Tryz.func188,Tryz.ntmps188
  (go_wp2_with fail);refine (zaf _ _ _ _).mono ?_;rintro e w1 ⟨rfl,rfl⟩;(go_wp2_with fail);refine (zrz _ _ _).mono ?_;rintro e w1 ⟨rfl,rfl⟩;go_wp2;go_ret;exact ⟨zh HC.out.symm,rfl⟩
theorem zn7 (v k:Int) (w:World) :
  Calls Tryz.prog 208 #[.int .i64 v,.int .i64 k] w fun e w'=>e = .returned (.bool (isOf v k))∧w=w':=by
 rcases (by omega:k=1∨k=2∨k=3∨k=4∨(¬ k=1 ∧ ¬ k=2 ∧ ¬ k=3 ∧ ¬ k=4)) with rfl|rfl|rfl|rfl|⟨h1,h2,h3,h4⟩
 case inr.inr.inr.inr =>
  have hr:inR k 1 4=false:=by
   rcases (by omega:k < 1∨4 < k) with h|h
   ·exact zcy (Or.inl h)
   ·exact zcy (Or.inr h)
  have HC:=yq (zuo (v:=v) hr);clear hr
  go_enter Tryz.func208,Tryz.ntmps208
  go_wp2;go_ret;exact ⟨zh HC.out.symm,rfl⟩
 all_goals
  go_enter Tryz.func208,Tryz.ntmps208
  (go_wp2_with fail);refine (zr6 _ _ _).mono ?_;rintro e w1 ⟨rfl,rfl⟩;go_wp2;go_ret;exact ⟨zh (zu4 rfl).symm,rfl⟩
end Go.Proofs.YtmbaajangkmjdaaGreat
namespace Go.Proofs.YtmbaajangkmjdaaGreat
open Go.ChangeShapes Go.WideShapes Go.ChangeAt Go.RowKit Go.Deep
def zg (x:DRule) (pos:Int):ByteArray:=if pos=0 then x.fp else if 1≤pos∧pos≤x.fj.length then x.fj.getD (pos.toNat - 1) default else ⟨#[]⟩
theorem zh5 {a b:ByteArray} (h:a=b):Ending.returned (Value.string a) = .returned (.string b):=by rw [h]
theorem zd8 {lo hi:Nat} {a2 a4 a5:Option Addr} {c0_0 c0_1 c0_2:Nat} (x:DRule) (_:x.ok) (hsz:x.sz≤1048576) (pos:Int) (hp:okI pos) (w:World) (hhi:hi≤w.heap.size) (hs2:Sl lo hi w 1 x.fj.length (fun k=>ictS (x.fj.getD k default)) a2) (_:Sl lo hi w 9 x.fg.length (fun k=>DEquation.ct (x.fg.getD k default)) a4) (_:Sl lo hi w 16 x.fo.length (fun k=>DContribution.ct (x.fo.getD k default)) a5) :
  Calls Tryz.prog 67 #[.agg #[.string x.fa,.string x.fp,.slice a2 x.fj.length c0_0,.bool x.fq,.slice a4 x.fg.length c0_1,.slice a5 x.fo.length c0_2],.int .i64 pos] w fun e w'=>e = .returned (.string (zg x pos))∧Below w.heap.size w w':=by
 have hn:x.fj.length≤1048576:=by unfold DRule.sz lsz at hsz;omega
 have hp1 : -9223372036854775808≤pos∧pos≤9223372036854775807:=hp;have HB:=yq ((Below.refl w.heap.size w).alloc (Nat.le_refl _) (.cells #[.string x.fa,.string x.fp,.slice a2 x.fj.length c0_0,.bool x.fq,.slice a4 x.fg.length c0_1,.slice a5 x.fo.length c0_2] 50));have HS:=yq (hs2.later HB.out hhi);clear hs2 hp hsz
 by_cases h0:pos=0
 ·have FIN:=yq (show x.fp=zg x pos by unfold zg;rw [if_pos h0])
  subst h0
  go_enter Tryz.func67,Tryz.ntmps67
  go_wp2;go_ret;exact ⟨zh5 FIN.out,HB.out⟩
 ·have e0:(pos == 0)=false:=beq_eq_false_iff_ne.2 h0
  by_cases h1:1≤pos∧pos≤x.fj.length
  ·obtain ⟨k,rfl⟩ : ∃ k:Nat,pos=(k:Int)+1:=⟨(pos - 1).toNat,by omega⟩
   have hk:k < x.fj.length:=by omega
   have FIN:=yq (show x.fj.getD k default=zg x ((k:Int)+1) by unfold zg;rw [if_neg h0,if_pos h1,show ((k:Int)+1).toNat - 1=k by omega])
   obtain ⟨b,off,rfl,_,_,hc⟩:=HS.out.at k hk
   obtain ⟨u,hu,hl⟩:=hc 0 (by decide)
   obtain rfl:=zr hl;rw [Nat.mul_one,Nat.add_zero] at hu
   have HI:=yq (show ∀ w',Calls Tryz.prog 11 #[.int .i64 ((k:Int)+1),.int .i64 1,.int .i64 (x.fj.length:Int)] w' fun e w''=>e = .returned (.bool true)∧w'=w'' from fun w'=>by have h:=zaf ((k:Int)+1) 1 (x.fj.length:Int) w';rw [zc5 h1.1 h1.2] at h;exact h)
   clear h0 h1 hc hl HS;generalize x.fj.getD k default=v at *
   go_enter Tryz.func67,Tryz.ntmps67
   (go_wp2_with fail);refine (HI.out _).mono ?_;rintro e w1 ⟨rfl,rfl⟩;go_wp2;go_ret;exact ⟨zh5 FIN.out,HB.out⟩
  ·have FIN:=yq (show (⟨#[]⟩:ByteArray)=zg x pos by unfold zg;rw [if_neg h0,if_neg h1])
   have HI:=yq (show ∀ w',Calls Tryz.prog 11 #[.int .i64 pos,.int .i64 1,.int .i64 (x.fj.length:Int)] w' fun e w''=>e = .returned (.bool false)∧w'=w'' from fun w'=>by have h:=zaf pos 1 (x.fj.length:Int) w';rw [zcy (by omega)] at h;exact h)
   clear h0 h1 HS
   go_enter Tryz.func67,Tryz.ntmps67
   (go_wp2_with fail);refine (HI.out _).mono ?_;rintro e w1 ⟨rfl,rfl⟩;go_wp2;go_ret;exact ⟨zh5 FIN.out,HB.out⟩
theorem zbe {a2 a4 a5:Option Addr} {c0_0 c0_1 c0_2:Nat} (x:DRule) (_:x.fj.length≤1048576) (pos:Int) (w:World) :
  Calls Tryz.prog 86 #[.agg #[.string x.fa,.string x.fp,.slice a2 x.fj.length c0_0,.bool x.fq,.slice a4 x.fg.length c0_1,.slice a5 x.fo.length c0_2],.int .i64 pos] w fun e w'=>e = .returned (.bool (inR pos 0 x.fj.length))∧Below w.heap.size w w':=by
 have HB:=yq ((Below.refl w.heap.size w).alloc (Nat.le_refl _) (.cells #[.string x.fa,.string x.fp,.slice a2 x.fj.length c0_0,.bool x.fq,.slice a4 x.fg.length c0_1,.slice a5 x.fo.length c0_2] 50))
 by_cases h0:0≤pos
 ·have FIN:=yq (show decide (pos≤(x.fj.length:Int))=inR pos 0 x.fj.length by unfold inR;rw [decide_eq_true h0,Bool.true_and])
  go_enter Tryz.func86,Tryz.ntmps86
  go_wp2;go_ret;exact ⟨zh FIN.out,HB.out⟩
 ·have FIN:=yq (zcy (n:=pos) (a:=0) (b:=x.fj.length) (Or.inl (by omega)))
  have h1:pos < 0:=by omega
  clear h0
  go_enter Tryz.func86,Tryz.ntmps86
  go_wp2;go_ret;exact ⟨zh FIN.out.symm,HB.out⟩
theorem zd9 {lo hi:Nat} {a2 a4 a5:Option Addr} {c0_0 c0_1 c0_2:Nat} (x:DRule) (_:x.ok) (hsz:x.sz≤1048576) (pos:Int) (hp:okI pos) (w:World) (hhi:hi≤w.heap.size) (hs2:Sl lo hi w 1 x.fj.length (fun k=>ictS (x.fj.getD k default)) a2) (_:Sl lo hi w 9 x.fg.length (fun k=>DEquation.ct (x.fg.getD k default)) a4) (_:Sl lo hi w 16 x.fo.length (fun k=>DContribution.ct (x.fo.getD k default)) a5) :
  Calls Tryz.prog 50 #[.agg #[.string x.fa,.string x.fp,.slice a2 x.fj.length c0_0,.bool x.fq,.slice a4 x.fg.length c0_1,.slice a5 x.fo.length c0_2],.int .i64 pos] w fun e w'=>e = .returned (.string (zg x pos))∧Below w.heap.size w w':=by
 have hn:x.fj.length≤1048576:=by unfold DRule.sz lsz at hsz;omega
 have hp1 : -9223372036854775808≤pos∧pos≤9223372036854775807:=hp;have HB:=yq ((Below.refl w.heap.size w).alloc (Nat.le_refl _) (.cells #[.string x.fa,.string x.fp,.slice a2 x.fj.length c0_0,.bool x.fq,.slice a4 x.fg.length c0_1,.slice a5 x.fo.length c0_2] 50));have HS:=yq (hs2.later HB.out hhi)
 have HP:=yq (fun W=>zbe (a2:=a2) (a4:=a4) (a5:=a5) (c0_0:=c0_0) (c0_1:=c0_1) (c0_2:=c0_2) x hn pos W)
 clear hs2 hp hsz
 by_cases h0:pos=0
 ·have FIN:=yq (show x.fp=zg x pos by unfold zg;rw [if_pos h0])
  rw [zc5 (by omega) (by omega)] at HP
  subst h0
  go_enter Tryz.func50,Tryz.ntmps50
  (go_wp2_with fail);refine (HP.out _).mono ?_;rintro e w1 ⟨rfl,hb1⟩
  have p1:w1.cell? ⟨w.heap.size,1,none⟩=some (.string x.fp):=(hb1.cell (p:=⟨w.heap.size,1,none⟩) (by simp)).trans (by go_simp)
  have HB1:=yq (HB.out.trans (hb1.mono HB.out.size));clear hb1;go_wp2;go_ret;exact ⟨zh5 FIN.out,HB1.out⟩
 ·have e0:(pos == 0)=false:=beq_eq_false_iff_ne.2 h0
  by_cases h1:1≤pos∧pos≤x.fj.length
  ·obtain ⟨k,rfl⟩ : ∃ k:Nat,pos=(k:Int)+1:=⟨(pos - 1).toNat,by omega⟩
   have hk:k < x.fj.length:=by omega
   have FIN:=yq (show x.fj.getD k default=zg x ((k:Int)+1) by unfold zg;rw [if_neg h0,if_pos h1,show ((k:Int)+1).toNat - 1=k by omega])
   obtain ⟨b,off,rfl,_,hbh,hc⟩:=HS.out.at k hk
   obtain ⟨u,hu,hl⟩:=hc 0 (by decide)
   obtain rfl:=zr hl;rw [Nat.mul_one,Nat.add_zero] at hu;have HU:=yq hu
   rw [zc5 (by omega) (by omega)] at HP
   clear h0 h1 hc hl HS hu;generalize x.fj.getD k default=v at *
   go_enter Tryz.func50,Tryz.ntmps50
   (go_wp2_with fail);refine (HP.out _).mono ?_;rintro e w1 ⟨rfl,hb1⟩
   have p1:w1.cell? ⟨w.heap.size,2,none⟩=some (.slice (some ⟨b,off,none⟩) x.fj.length c0_0):=(hb1.cell (p:=⟨w.heap.size,2,none⟩) (by simp)).trans (by go_simp)
   have p2:w1.cell? ⟨b,off+k,none⟩=some (.string v):=(hb1.cell (p:=⟨b,off+k,none⟩) (by simp;omega)).trans HU.out
   have HB1:=yq (HB.out.trans (hb1.mono HB.out.size));clear hb1;go_wp2;go_ret;exact ⟨zh5 FIN.out,HB1.out⟩
  ·have FIN:=yq (show (⟨#[]⟩:ByteArray)=zg x pos by unfold zg;rw [if_neg h0,if_neg h1])
   rw [zcy (by omega)] at HP
   clear h0 h1 HS
   go_enter Tryz.func50,Tryz.ntmps50
   (go_wp2_with fail);refine (HP.out _).mono ?_;rintro e w1 ⟨rfl,hb1⟩;have HB1:=yq (HB.out.trans (hb1.mono HB.out.size));clear hb1;go_wp2;go_ret;exact ⟨zh5 FIN.out,HB1.out⟩
end Go.Proofs.YtmbaajangkmjdaaGreat
