/-
  The checks of CheckShape in the program: a required occurrence without an equation.
  l11Missing of the model.
-/
import Derived.Test.YtmbaajangkmjdaaGreatZz15
import Derived.Test.YtmbaajangkmjdaaGreatZz16
import Derived.Test.YtmbaajangkmjdaaGreatZShapeI2
set_option maxHeartbeats 12800000
set_option maxRecDepth 100000
namespace Go.Proofs.YtmbaajangkmjdaaGreat
open Go.ChangeShapes Go.WideShapes Go.ChangeAt Go.RowKit Go.Deep
def zlj (g:DGrammar) (x:DRule) (k:Nat):Bool:=!eqnB x.fg ((zaw g x).getD k default)
def zib (g:DGrammar) (x:DRule):Bool:=anyP (zlj g x) (zaw g x).length
theorem zg5 {hi:Nat} {a0 a1:Option Addr} {c0_0 c0_1:Nat} {b2 b4 b5:Option Addr} {c1_0 c1_1 c1_2:Nat} (g:DGrammar) (okg:g.ok) (hszg:g.sz≤1048576) (x:DRule) (okx:x.ok) (hszx:x.sz≤1048576) (w:World) (hhi:hi≤w.heap.size) (hs0:Sf 0 hi w 2 g.fl.length (fun k=>DSymbol.ct (g.fl.getD k default)) a0) (hs1:Sf 0 hi w 6 g.fm.length (fun k=>DRule.ct (g.fm.getD k default)) a1) (hs2:Sf 0 hi w 1 x.fj.length (fun k=>ictS (x.fj.getD k default)) b2) (hs4:Sf 0 hi w 9 x.fg.length (fun k=>DEquation.ct (x.fg.getD k default)) b4) (hs5:Sf 0 hi w 16 x.fo.length (fun k=>DContribution.ct (x.fo.getD k default)) b5) :
  Calls Tryz.prog 28 #[.agg #[.slice a0 g.fl.length c0_0,.slice a1 g.fm.length c0_1],.agg #[.string x.fa,.string x.fp,.slice b2 x.fj.length c1_0,.bool x.fq,.slice b4 x.fg.length c1_1,.slice b5 x.fo.length c1_2]] w fun e w'=>e = .returned (.bool (zib g x))∧Below w.heap.size w w':=by
 have HB:=yq (show Below w.heap.size w ((w.alloc (.cells #[.slice a0 g.fl.length c0_0,.slice a1 g.fm.length c0_1] 32)).alloc (.cells #[.string x.fa,.string x.fp,.slice b2 x.fj.length c1_0,.bool x.fq,.slice b4 x.fg.length c1_1,.slice b5 x.fo.length c1_2] 50)) from ((Below.refl w.heap.size w).alloc (Nat.le_refl _) (.cells #[.slice a0 g.fl.length c0_0,.slice a1 g.fm.length c0_1] 32)).alloc (by simp) (.cells #[.string x.fa,.string x.fp,.slice b2 x.fj.length c1_0,.bool x.fq,.slice b4 x.fg.length c1_1,.slice b5 x.fo.length c1_2] 50))
 have HBG:=yq (show ((w.alloc (.cells #[.slice a0 g.fl.length c0_0,.slice a1 g.fm.length c0_1] 32)).alloc (.cells #[.string x.fa,.string x.fp,.slice b2 x.fj.length c1_0,.bool x.fq,.slice b4 x.fg.length c1_1,.slice b5 x.fo.length c1_2] 50)).heap[w.heap.size]? = some (.cells #[.slice a0 g.fl.length c0_0,.slice a1 g.fm.length c0_1] 32) from zn (by simp) (ze rfl))
 have HBR:=yq (show ((w.alloc (.cells #[.slice a0 g.fl.length c0_0,.slice a1 g.fm.length c0_1] 32)).alloc (.cells #[.string x.fa,.string x.fp,.slice b2 x.fj.length c1_0,.bool x.fq,.slice b4 x.fg.length c1_1,.slice b5 x.fo.length c1_2] 50)).heap[w.heap.size+1]? = some (.cells #[.string x.fa,.string x.fp,.slice b2 x.fj.length c1_0,.bool x.fq,.slice b4 x.fg.length c1_1,.slice b5 x.fo.length c1_2] 50) from ze (by simp))
 have HZ:=yq (show ((w.alloc (.cells #[.slice a0 g.fl.length c0_0,.slice a1 g.fm.length c0_1] 32)).alloc (.cells #[.string x.fa,.string x.fp,.slice b2 x.fj.length c1_0,.bool x.fq,.slice b4 x.fg.length c1_1,.slice b5 x.fo.length c1_2] 50)).heap.size=w.heap.size+2 by simp)
 have HS0:=yq (fun (W:World) (hW:Below w.heap.size w W)=>hs0.later hW hhi)
 have HS1:=yq (fun (W:World) (hW:Below w.heap.size w W)=>hs1.later hW hhi)
 have HS2:=yq (fun (W:World) (hW:Below w.heap.size w W)=>hs2.later hW hhi)
 have HS4:=yq (fun (W:World) (hW:Below w.heap.size w W)=>hs4.later hW hhi)
 have HS5:=yq (fun (W:World) (hW:Below w.heap.size w W)=>hs5.later hW hhi)
 have HHI:=yq hhi;have HLEN:=yq (zfg hszg hszx)
 have HRQ:=yq (fun (W:World) (hW:Below w.heap.size w W)=>zb7 (c0_0:=c0_0) (c0_1:=c0_1) (c1_0:=c1_0) (c1_1:=c1_1) (c1_2:=c1_2) g okg hszg x okx hszx W (Nat.le_trans HHI.out hW.size) (HS0.out W hW).sl (HS1.out W hW).sl (HS2.out W hW).sl (HS4.out W hW).sl (HS5.out W hW).sl)
 have HEQ:=yq (fun (oc:DOccurrence) (W:World) (hW:Below w.heap.size w W)=>zlh (b2:=b2) (b5:=b5) (c1_0:=c1_0) (c1_1:=c1_1) (c1_2:=c1_2) x hszx oc W (Nat.le_trans HHI.out hW.size) (HS4.out W hW))
 have HR:=yq (show zib g x=anyP (zlj g x) (zaw g x).length from rfl)
 have HE:=yq (fun (k:Nat)=>show zlj g x k = !eqnB x.fg ((zaw g x).getD k default) from rfl)
 clear hs0 hs1 hs2 hs4 hs5 hhi okg hszg okx hszx
 go_enter Tryz.func28,Tryz.ntmps28
 (go_wp2_with fail);refine (HRQ.out _ HB.out).mono ?_;rintro e wl ⟨al,cl,rfl,hol,hbl⟩;have HBL:=yq (HB.out.trans (hbl.mono HB.out.size))
 have HZL:=yq (show w.heap.size+2≤wl.heap.size from HZ.out ▸ hbl.size)
 have HSL:=yq (show Sl 0 wl.heap.size wl 2 (zaw g x).length (fun k=>DOccurrence.ct ((zaw g x).getD k default)) al from Sl.of (hol.lies fun y hy=>⟨Nat.zero_le _,hy.2⟩))
 have HRL:=yq ((hbl.block (w.heap.size+1) (by rw [HZ.out];omega)).trans HBR.out)
 clear hol hbl HRQ HB HBG HBR HZ;generalize zaw g x=lst at *;have hlst:=HLEN.out;go_wp2
 go_loopw [13] (fun i wr=>∃ k:Nat,k≤lst.length∧i = .int .i64 (k:Int)∧zbo (zlj g x) k∧Below wl.heap.size wl wr) (fun i _=>lst.length - (intOf i).toNat)
 case atStart=>exact ⟨0,Nat.zero_le _,rfl,zau _,Below.refl _ _⟩
 case round =>
  obtain ⟨k,hk,rfl,hno,hb⟩:=hrel;have HN:=yq hno;have HBT:=yq (HBL.out.trans (hb.mono HBL.out.size));have HBW:=yq hb;have HZW:=yq (Nat.le_trans HZL.out hb.size);have hzw:=HZW.out
  have HRW:=yq ((hb.block (w.heap.size+1) (by have:=HZL.out;omega)).trans HRL.out)
  have HSW:=yq (HSL.out.later hb (Nat.le_refl _));clear hno hb
  by_cases hlt:k < lst.length
  ·have hkI:(0:Int)≤(k:Int)∧(k:Int) < (lst.length:Int):=by omega
   obtain ⟨lb,loff,rfl,_,hlb,hc⟩:=HSW.out.at k hlt;obtain ⟨hc0,hc1⟩:=DOccurrence.open hc;have HEK:=yq (HE.out k);clear hc HE;generalize lst.getD k default=y at *;have HB3:=yq (HBT.out.trans (((Below.refl wr.heap.size wr).alloc (Nat.le_refl _) (.cells #[.int .i64 y.fb,.string y.fa] 87)).mono HBT.out.size));have HB4:=yq (HBW.out.trans (((Below.refl wr.heap.size wr).alloc (Nat.le_refl _) (.cells #[.int .i64 y.fb,.string y.fa] 87)).mono HBW.out.size))
   have r0:(wr.alloc (.cells #[.int .i64 y.fb,.string y.fa] 87)).cell? ⟨w.heap.size+1,0,none⟩=some (.string x.fa):=(((Below.refl wr.heap.size wr).alloc (Nat.le_refl _) (.cells #[.int .i64 y.fb,.string y.fa] 87)).cell (p:=⟨w.heap.size+1,0,none⟩) (by show w.heap.size+1 < wr.heap.size;omega)).trans (za HRW.out rfl)
   have r1:(wr.alloc (.cells #[.int .i64 y.fb,.string y.fa] 87)).cell? ⟨w.heap.size+1,1,none⟩=some (.string x.fp):=(((Below.refl wr.heap.size wr).alloc (Nat.le_refl _) (.cells #[.int .i64 y.fb,.string y.fa] 87)).cell (p:=⟨w.heap.size+1,1,none⟩) (by show w.heap.size+1 < wr.heap.size;omega)).trans (za HRW.out rfl)
   have r2:(wr.alloc (.cells #[.int .i64 y.fb,.string y.fa] 87)).cell? ⟨w.heap.size+1,2,none⟩=some (.slice b2 x.fj.length c1_0):=(((Below.refl wr.heap.size wr).alloc (Nat.le_refl _) (.cells #[.int .i64 y.fb,.string y.fa] 87)).cell (p:=⟨w.heap.size+1,2,none⟩) (by show w.heap.size+1 < wr.heap.size;omega)).trans (za HRW.out rfl)
   have r3:(wr.alloc (.cells #[.int .i64 y.fb,.string y.fa] 87)).cell? ⟨w.heap.size+1,3,none⟩=some (.bool x.fq):=(((Below.refl wr.heap.size wr).alloc (Nat.le_refl _) (.cells #[.int .i64 y.fb,.string y.fa] 87)).cell (p:=⟨w.heap.size+1,3,none⟩) (by show w.heap.size+1 < wr.heap.size;omega)).trans (za HRW.out rfl)
   have r4:(wr.alloc (.cells #[.int .i64 y.fb,.string y.fa] 87)).cell? ⟨w.heap.size+1,4,none⟩=some (.slice b4 x.fg.length c1_1):=(((Below.refl wr.heap.size wr).alloc (Nat.le_refl _) (.cells #[.int .i64 y.fb,.string y.fa] 87)).cell (p:=⟨w.heap.size+1,4,none⟩) (by show w.heap.size+1 < wr.heap.size;omega)).trans (za HRW.out rfl)
   have r5:(wr.alloc (.cells #[.int .i64 y.fb,.string y.fa] 87)).cell? ⟨w.heap.size+1,5,none⟩=some (.slice b5 x.fo.length c1_2):=(((Below.refl wr.heap.size wr).alloc (Nat.le_refl _) (.cells #[.int .i64 y.fb,.string y.fa] 87)).cell (p:=⟨w.heap.size+1,5,none⟩) (by show w.heap.size+1 < wr.heap.size;omega)).trans (za HRW.out rfl)
   have HCE:=yq (HEQ.out y _ HB3.out);generalize eqnE x.fg y=ee at *;generalize eqnB x.fg y=be at *;(go_wp2_with fail);refine HCE.out.mono ?_;rintro e w3 ⟨⟨r,q,rfl,-⟩,hb3⟩;have HBX:=yq (HB3.out.trans (hb3.mono HB3.out.size));have HBY:=yq (HB4.out.trans (hb3.mono HB4.out.size));clear hb3 hlb hc0 hc1 r0 r1 r2 r3 r4 r5;have HBX2:=yq (HBX.out.trans (((Below.refl w3.heap.size w3).alloc (Nat.le_refl _) (.cells #[.int .i64 ee.fh,.int .i64 ee.fN,.int .i64 ee.fb,.int .i64 ee.fk,.string ee.fd,.string ee.fa,.slice r ee.fc.length q] 90)).mono HBX.out.size));have HBY2:=yq (HBY.out.trans (((Below.refl w3.heap.size w3).alloc (Nat.le_refl _) (.cells #[.int .i64 ee.fh,.int .i64 ee.fN,.int .i64 ee.fb,.int .i64 ee.fk,.string ee.fd,.string ee.fa,.slice r ee.fc.length q] 90)).mono HBY.out.size))
   cases be with
   | false =>
    have FIN:=yq (show zib g x=true from HR.out.trans (zbm hlt HEK.out))
    go_wp2_with (refine wpList_store_rowTo rfl 90 (.tmp 7) (.tmp 21) rfl rfl w3.heap.size _ rfl rfl 90 _ (ze rfl) (by kernel_rfl) rfl (by simp [Value.oneCell']) ?_;rw [zbc rfl])
    go_ret;exact ⟨zh FIN.out.symm,HBX2.out⟩
   | true =>
    have HN1:=yq (zap HN.out HEK.out)
    go_wp2_with (refine wpList_store_rowTo rfl 90 (.tmp 7) (.tmp 21) rfl rfl w3.heap.size _ rfl rfl 90 _ (ze rfl) (by kernel_rfl) rfl (by simp [Value.oneCell']) ?_;rw [zbc rfl])
    go_roundw
    case rel=>exact ⟨k+1,by omega,by go_num,HN1.out,HBY2.out⟩
    case measure=>simp [intOf];omega
  ·obtain rfl:k=lst.length:=by omega
   have FIN:=yq (show zib g x=false from HR.out.trans (zbp HN.out))
   go_wp2;go_ret;exact ⟨zh FIN.out.symm,HBT.out⟩
theorem zq6 {hi bg:Nat} {c0_0 c0_1:Nat} {a0 a1:Option Addr} (g:DGrammar) (okg:g.ok) (hszg:g.sz≤1048576) (i:Nat) (hi':i < g.fm.length) (w:World) (hhi:hi≤w.heap.size) (hs0:Sf 0 hi w 2 g.fl.length (fun k=>DSymbol.ct (g.fl.getD k default)) a0) (hs1:Sf 0 hi w 6 g.fm.length (fun k=>DRule.ct (g.fm.getD k default)) a1) (hg:w.heap[bg]? = some (.cells #[.slice a0 g.fl.length c0_0,.slice a1 g.fm.length c0_1] 32)) :
  Calls Tryz.prog 27 #[.int .i64 (i:Int),.pointer (some ⟨bg,0,none⟩)] w fun e w'=>e = .returned (.bool ((zib g (g.fm.getD i default))))∧Below w.heap.size w w':=by
 have hbg:bg < w.heap.size:=(Array.getElem?_eq_some_iff.1 hg).1;have HBGL:=yq hbg
 have hiI:(0:Int)≤(i:Int)∧(i:Int) < (g.fm.length:Int):=by omega
 obtain ⟨rb,ro,rfl,_,hrb,_,hc⟩:=hs1.at i hi';obtain ⟨b2,c1_0,b4,c1_1,b5,c1_2,h0,h1,h2,h3,h4,h5,hs2,hs4,hs5⟩:=DRule.openS hc;have okx:DRule.ok (g.fm.getD i default):=okg.2.at hi'
 have hszx:DRule.sz (g.fm.getD i default)≤1048576:=Nat.le_trans (zab (f:=DRule.sz) g.fm i hi') (by unfold DGrammar.sz at hszg;omega)
 have HRLT:=yq (show rb < w.heap.size by omega)
 have HGW:=yq hg;have HROW:=yq (And.intro h0 (And.intro h1 (And.intro h2 (And.intro h3 (And.intro h4 h5)))));generalize g.fm.getD i default=x at *
 have HC:=yq (fun (W:World) (hW:Below w.heap.size w W)=>zg5 (c0_0:=c0_0) (c0_1:=c0_1) (c1_0:=c1_0) (c1_1:=c1_1) (c1_2:=c1_2) g okg hszg x okx hszx W (Nat.le_trans hhi hW.size) (hs0.later hW hhi) (hs1.later hW hhi) (hs2.later hW hhi) (hs4.later hW hhi) (hs5.later hW hhi))
 clear hg hc hs0 hs1 hs2 hs4 hs5 okg hszg okx hszx hhi hi' h0 h1 h2 h3 h4 h5 hbg hrb;generalize (zib g x)=bb at *
 go_enter Tryz.func27,Tryz.ntmps27
 go_wp2
 refine zw [([],.none,[]),([],.none,[]),([1],.none,[]),([],.none,[]),([2,3],.none,[]),([4],.none,[]),([0,5],.none,[]),([6],.none,[])] [0,1,2,3,4,5,6,7] [] (fun _=>False) (fun _=>True) (fun _=>0) (fun jq9 V L H wx=>match jq9 with|0=>V 0 = .agg #[.slice a0 g.fl.length c0_0,.slice (some ⟨rb,ro,none⟩) g.fm.length c0_1]|1=>V 1 = .pointer (some ⟨bg,1,none⟩)|2=>V 2 = .slice (some ⟨rb,ro,none⟩) g.fm.length c0_1|3=>V 3 = .int .i64 (i:Int)|4=>V 4 = .pointer (some ⟨rb,ro+i * 6,none⟩)|5=>V 5 = .agg #[.string x.fa,.string x.fp,.slice b2 x.fj.length c1_0,.bool x.fq,.slice b4 x.fg.length c1_1,.slice b5 x.fo.length c1_2]|6=>V 6 = .bool bb|7=>V 7=V 6|_=>True) (by kernel_rfl) (by kernel_rfl) ?obs (fun _ h=>h.elim) trivial (fun _ _ _ _ _=>trivial) ?loc ?lasts ?walk
 case obs =>
  trivial
 case loc =>
  intro k V V' L H wx h0 h1 hG
  match k with
  | 0 =>
   (try dsimp only at hG ⊢);rw [← h0];exact hG
  | 1 =>
   (try dsimp only at hG ⊢);rw [← h0];exact hG
  | 2 =>
   (try dsimp only at hG ⊢);rw [← h0];exact hG
  | 3 =>
   (try dsimp only at hG ⊢);rw [← h0];exact hG
  | 4 =>
   (try dsimp only at hG ⊢);rw [← h0];exact hG
  | 5 =>
   (try dsimp only at hG ⊢);rw [← h0];exact hG
  | 6 =>
   (try dsimp only at hG ⊢);rw [← h0];exact hG
  | 7 =>
   have e6:=h1 6 (by decide)
   (try dsimp only at hG ⊢);rw [← h0,← e6];exact hG
  | n+8=>trivial
 case lasts =>
  intro i hi V L H wx wy hB hH hk
  match i,hi with
  | 0,_=>exact fun h=>h
  | 1,_=>exact fun h=>h
  | 2,_=>exact fun h=>h
  | 3,_=>exact fun h=>h
  | 4,_=>exact fun h=>h
  | 5,_=>exact fun h=>h
  | 6,_=>exact fun h=>h
  | 7,_=>exact fun h=>h
  | n+8,hn=>exact absurd hn (by simp)
 case walk =>
  simp (maxSteps:=4000000) only [zda,Nat.reduceAdd,Act.put,List.setIfInBounds_toArray,List.set_cons_succ,List.set_cons_zero]
  refine ⟨?_,?_,?_,?_,?_,?_,?_,?_,?_⟩
  ·intro V L H w1 hw hk hj hd
   clear hd;have g0:w1.cell? ⟨bg,0,none⟩=some (.slice a0 g.fl.length c0_0):=((zd hw).cell (p:=⟨bg,0,none⟩) HBGL.out).trans (za HGW.out rfl);have g1:w1.cell? ⟨bg,1,none⟩=some (.slice (some ⟨rb,ro,none⟩) g.fm.length c0_1):=((zd hw).cell (p:=⟨bg,1,none⟩) HBGL.out).trans (za HGW.out rfl);(go_wp2_with fail);exact zc _ rfl ⟨⟨WritesF.refl _ _,hj⟩,zb⟩
  ·intro V L H w1 hw hk hj hd
   clear hd;(go_wp2_with fail);exact zc _ rfl ⟨⟨WritesF.refl _ _,hj⟩,zb⟩
  ·intro V L H w1 hw hk hj hd
   obtain ⟨⟨_,_,_,hv1⟩,-⟩:=hd;rw [hv1];have HV1:=yq hv1;clear hv1;have g1:w1.cell? ⟨bg,1,none⟩=some (.slice (some ⟨rb,ro,none⟩) g.fm.length c0_1):=((zd hw).cell (p:=⟨bg,1,none⟩) HBGL.out).trans (za HGW.out rfl);(go_wp2_with fail);exact zc _ rfl ⟨⟨WritesF.refl _ _,hj⟩,zb⟩
  ·intro V L H w1 hw hk hj hd
   clear hd;(go_wp2_with fail);exact zc _ rfl ⟨⟨WritesF.refl _ _,hj⟩,zb⟩
  ·intro V L H w1 hw hk hj hd
   obtain ⟨⟨_,_,_,hv2⟩,⟨_,_,_,hv3⟩,-⟩:=hd;rw [hv2,hv3];have HV2:=yq hv2;have HV3:=yq hv3;clear hv2 hv3;(go_wp2_with fail);exact zc _ rfl ⟨⟨WritesF.refl _ _,hj⟩,zb⟩
  ·intro V L H w1 hw hk hj hd
   obtain ⟨⟨_,_,_,hv4⟩,-⟩:=hd;rw [hv4];have HV4:=yq hv4;clear hv4;have r0:w1.cell? ⟨rb,ro+i * 6,none⟩=some (.string x.fa):=((zd hw).cell (p:=⟨rb,ro+i * 6,none⟩) HRLT.out).trans HROW.out.1;have r1:w1.cell? ⟨rb,ro+i * 6+1,none⟩=some (.string x.fp):=((zd hw).cell (p:=⟨rb,ro+i * 6+1,none⟩) HRLT.out).trans HROW.out.2.1;have r2:w1.cell? ⟨rb,ro+i * 6+2,none⟩=some (.slice b2 x.fj.length c1_0):=((zd hw).cell (p:=⟨rb,ro+i * 6+2,none⟩) HRLT.out).trans HROW.out.2.2.1;have r3:w1.cell? ⟨rb,ro+i * 6+3,none⟩=some (.bool x.fq):=((zd hw).cell (p:=⟨rb,ro+i * 6+3,none⟩) HRLT.out).trans HROW.out.2.2.2.1;have r4:w1.cell? ⟨rb,ro+i * 6+4,none⟩=some (.slice b4 x.fg.length c1_1):=((zd hw).cell (p:=⟨rb,ro+i * 6+4,none⟩) HRLT.out).trans HROW.out.2.2.2.2.1;have r5:w1.cell? ⟨rb,ro+i * 6+5,none⟩=some (.slice b5 x.fo.length c1_2):=((zd hw).cell (p:=⟨rb,ro+i * 6+5,none⟩) HRLT.out).trans HROW.out.2.2.2.2.2;(go_wp2_with fail);exact zc _ rfl ⟨⟨WritesF.refl _ _,hj⟩,zb⟩
  ·intro V L H w1 hw hk hj hd
   obtain ⟨⟨_,_,_,hv0⟩,⟨_,_,_,hv5⟩,-⟩:=hd;rw [hv0,hv5];have HV0:=yq hv0;have HV5:=yq hv5;clear hv0 hv5;(go_wp2_with fail);refine (HC.out w1 (zd hw)).mono ?_;rintro e w2 ⟨rfl,hb2⟩;(go_wp2_with fail);exact zc _ rfl ⟨⟨(WritesF.refl _ _).later hb2,trivial⟩,zb⟩
  ·intro V L H w1 hw hk hj hd
   obtain ⟨⟨_,_,_,hv6⟩,-⟩:=hd;rw [hv6];have HV6:=yq hv6;clear hv6;(go_wp2_with fail)
   exact zc _ rfl ⟨⟨WritesF.refl _ _,hj⟩,zb.trans (HV6.out.symm.trans (zam (by decide)).symm)⟩
  ·intro V L H w1 hw hj hd hap hdead
   obtain ⟨⟨_,_,_,hv0⟩,⟨_,_,_,hv1⟩,⟨_,_,_,hv2⟩,⟨_,_,_,hv3⟩,⟨_,_,_,hv4⟩,⟨_,_,_,hv5⟩,⟨_,_,_,hv6⟩,⟨_,_,_,hv7⟩,-⟩:=hd;have hv7':=hv7.trans hv6;rw [hv0,hv1,hv2,hv3,hv4,hv5,hv6,hv7'];clear hv0 hv1 hv2 hv3 hv4 hv5 hv6 hv7' hv7;have HBF:=yq (zd hw);clear hw hj hap hdead;go_wp2;go_ret;exact ⟨rfl,HBF.out⟩
theorem zlb {lo hi:Nat} {a0 a1:Option Addr} {c0_0 c0_1:Nat} {b2 b4 b5:Option Addr} {c1_0 c1_1 c1_2:Nat} (g:DGrammar) (okg:g.ok) (hszg:g.sz≤1048576) (x:DRule) (okx:x.ok) (hszx:x.sz≤1048576) (w:World) (hhi:hi≤w.heap.size) (hs0:Sl lo hi w 2 g.fl.length (fun k=>DSymbol.ct (g.fl.getD k default)) a0) (hs1:Sl lo hi w 6 g.fm.length (fun k=>DRule.ct (g.fm.getD k default)) a1) (hs2:Sl lo hi w 1 x.fj.length (fun k=>ictS (x.fj.getD k default)) b2) (hs4:Sl lo hi w 9 x.fg.length (fun k=>DEquation.ct (x.fg.getD k default)) b4) (hs5:Sl lo hi w 16 x.fo.length (fun k=>DContribution.ct (x.fo.getD k default)) b5) :
  Calls Tryz.prog 41 #[.agg #[.slice a0 g.fl.length c0_0,.slice a1 g.fm.length c0_1],.agg #[.string x.fa,.string x.fp,.slice b2 x.fj.length c1_0,.bool x.fq,.slice b4 x.fg.length c1_1,.slice b5 x.fo.length c1_2]] w fun e w'=>e = .returned (.bool (zib g x))∧Below w.heap.size w w':=by
 have HB:=yq (show Below w.heap.size w ((w.alloc (.cells #[.slice a0 g.fl.length c0_0,.slice a1 g.fm.length c0_1] 32)).alloc (.cells #[.string x.fa,.string x.fp,.slice b2 x.fj.length c1_0,.bool x.fq,.slice b4 x.fg.length c1_1,.slice b5 x.fo.length c1_2] 50)) from ((Below.refl w.heap.size w).alloc (Nat.le_refl _) (.cells #[.slice a0 g.fl.length c0_0,.slice a1 g.fm.length c0_1] 32)).alloc (by simp) (.cells #[.string x.fa,.string x.fp,.slice b2 x.fj.length c1_0,.bool x.fq,.slice b4 x.fg.length c1_1,.slice b5 x.fo.length c1_2] 50))
 have HBG:=yq (show ((w.alloc (.cells #[.slice a0 g.fl.length c0_0,.slice a1 g.fm.length c0_1] 32)).alloc (.cells #[.string x.fa,.string x.fp,.slice b2 x.fj.length c1_0,.bool x.fq,.slice b4 x.fg.length c1_1,.slice b5 x.fo.length c1_2] 50)).heap[w.heap.size]? = some (.cells #[.slice a0 g.fl.length c0_0,.slice a1 g.fm.length c0_1] 32) from zn (by simp) (ze rfl))
 have HBR:=yq (show ((w.alloc (.cells #[.slice a0 g.fl.length c0_0,.slice a1 g.fm.length c0_1] 32)).alloc (.cells #[.string x.fa,.string x.fp,.slice b2 x.fj.length c1_0,.bool x.fq,.slice b4 x.fg.length c1_1,.slice b5 x.fo.length c1_2] 50)).heap[w.heap.size+1]? = some (.cells #[.string x.fa,.string x.fp,.slice b2 x.fj.length c1_0,.bool x.fq,.slice b4 x.fg.length c1_1,.slice b5 x.fo.length c1_2] 50) from ze (by simp))
 have HZ:=yq (show ((w.alloc (.cells #[.slice a0 g.fl.length c0_0,.slice a1 g.fm.length c0_1] 32)).alloc (.cells #[.string x.fa,.string x.fp,.slice b2 x.fj.length c1_0,.bool x.fq,.slice b4 x.fg.length c1_1,.slice b5 x.fo.length c1_2] 50)).heap.size=w.heap.size+2 by simp)
 have HS0:=yq (fun (W:World) (hW:Below w.heap.size w W)=>hs0.later hW hhi)
 have HS1:=yq (fun (W:World) (hW:Below w.heap.size w W)=>hs1.later hW hhi)
 have HS2:=yq (fun (W:World) (hW:Below w.heap.size w W)=>hs2.later hW hhi)
 have HS4:=yq (fun (W:World) (hW:Below w.heap.size w W)=>hs4.later hW hhi)
 have HS5:=yq (fun (W:World) (hW:Below w.heap.size w W)=>hs5.later hW hhi)
 have HHI:=yq hhi;have HLEN:=yq (zfg hszg hszx)
 have HRQ:=yq (fun (W:World) (hW:Below w.heap.size w W)=>zb4 (c0_0:=c0_0) (c0_1:=c0_1) (c1_0:=c1_0) (c1_1:=c1_1) (c1_2:=c1_2) g okg hszg x okx hszx W (Nat.le_trans HHI.out hW.size) (HS0.out W hW) (HS1.out W hW) (HS2.out W hW) (HS4.out W hW) (HS5.out W hW))
 have HEQ:=yq (fun (oc:DOccurrence) (W:World) (hW:Below w.heap.size w W)=>zhg (b2:=b2) (b5:=b5) (c1_0:=c1_0) (c1_1:=c1_1) (c1_2:=c1_2) x hszx oc W (Nat.le_trans HHI.out hW.size) (HS4.out W hW))
 have HR:=yq (show zib g x=anyP (zlj g x) (zaw g x).length from rfl)
 have HE:=yq (fun (k:Nat)=>show zlj g x k = !eqnB x.fg ((zaw g x).getD k default) from rfl)
 clear hs0 hs1 hs2 hs4 hs5 hhi okg hszg okx hszx
 go_enter Tryz.func41,Tryz.ntmps41
 (go_wp2_with fail);refine (HRQ.out _ HB.out).mono ?_;rintro e wl ⟨al,cl,rfl,hol,hbl⟩;have HBL:=yq (HB.out.trans (hbl.mono HB.out.size))
 have HZL:=yq (show w.heap.size+2≤wl.heap.size from HZ.out ▸ hbl.size)
 have HSL:=yq (show Sl 0 wl.heap.size wl 2 (zaw g x).length (fun k=>DOccurrence.ct ((zaw g x).getD k default)) al from Sl.of (hol.lies fun y hy=>⟨Nat.zero_le _,hy.2⟩))
 have HRL:=yq ((hbl.block (w.heap.size+1) (by rw [HZ.out];omega)).trans HBR.out)
 clear hol hbl HRQ HB HBG HBR HZ;generalize zaw g x=lst at *;have hlst:=HLEN.out;go_wp2
 go_loopw [6] (fun i wr=>∃ k:Nat,k≤lst.length∧i = .int .i64 (k:Int)∧zbo (zlj g x) k∧Below wl.heap.size wl wr) (fun i _=>lst.length - (intOf i).toNat)
 case atStart=>exact ⟨0,Nat.zero_le _,rfl,zau _,Below.refl _ _⟩
 case round =>
  obtain ⟨k,hk,rfl,hno,hb⟩:=hrel;have HN:=yq hno;have HBT:=yq (HBL.out.trans (hb.mono HBL.out.size));have HBW:=yq hb;have HZW:=yq (Nat.le_trans HZL.out hb.size)
  have HRW:=yq ((hb.block (w.heap.size+1) (by have:=HZL.out;omega)).trans HRL.out)
  have HSW:=yq (HSL.out.later hb (Nat.le_refl _));have HLW:=yq hb.size;clear hno hb
  by_cases hlt:k < lst.length
  ·have hkI:(0:Int)≤(k:Int)∧(k:Int) < (lst.length:Int):=by omega
   obtain ⟨lb,loff,rfl,_,hlb,hc⟩:=HSW.out.at k hlt;obtain ⟨hc0,hc1⟩:=DOccurrence.open hc;have HC0:=yq hc0;have HC1:=yq hc1
   have HLB:=yq (show lb < wr.heap.size by have:=HLW.out;omega)
   have HEK:=yq (HE.out k);clear hc HE hc0 hc1 hlb;generalize lst.getD k default=y at *
   have HCE:=yq (fun (W:World) (hW:Below wr.heap.size wr W)=>HEQ.out y W (HBT.out.trans (hW.mono HBT.out.size)))
   generalize eqnE x.fg y=ee at *;generalize eqnB x.fg y=be at *;go_wp2
   refine zw [([],.none,[]),([],.none,[]),([],.none,[]),([1,2],.none,[]),([3],.none,[]),([0,4],.none,[]),([5],.none,[]),([6],.none,[]),([6],.none,[]),([],.none,[]),([9,7],.new 9,[]),([8],.none,[])] [0,1,2,3,4,5,6,7,8,10,11] [] (fun _=>False) (fun _=>True) (fun _=>0) (fun jq9 V L H wx=>match jq9 with|0=>V 0 = .agg #[.string x.fa,.string x.fp,.slice b2 x.fj.length c1_0,.bool x.fq,.slice b4 x.fg.length c1_1,.slice b5 x.fo.length c1_2]|1=>V 1 = .slice (some ⟨lb,loff,none⟩) lst.length cl|2=>V 2 = .int .i64 (k:Int)|3=>V 3 = .pointer (some ⟨lb,loff+k * 2,none⟩)|4=>V 4 = .agg #[.int .i64 y.fb,.string y.fa]|5=>∃ r q,V 5 = .tuple #[.agg #[.int .i64 ee.fh,.int .i64 ee.fN,.int .i64 ee.fb,.int .i64 ee.fk,.string ee.fd,.string ee.fa,.slice r ee.fc.length q],.bool be]|6=>V 6=V 5 ∧ ∃ r_6 q_6,V 6 = .tuple #[.agg #[.int .i64 ee.fh,.int .i64 ee.fN,.int .i64 ee.fb,.int .i64 ee.fk,.string ee.fd,.string ee.fa,.slice r_6 ee.fc.length q_6],.bool be]|7=>(∀ x0 x1,V 6 = .tuple #[x0,x1]→V 7=x0) ∧ ∃ r_7 q_7,V 7 = .agg #[.int .i64 ee.fh,.int .i64 ee.fN,.int .i64 ee.fb,.int .i64 ee.fk,.string ee.fd,.string ee.fa,.slice r_7 ee.fc.length q_7]|8=>(∀ x0 x1,V 6 = .tuple #[x0,x1]→V 8=x1)|9=>V 9 = .pointer (some ⟨L,0,none⟩)∧L < H∧wx.heap[L]? = some (.cells #[.int .i64 0,.int .i64 0,.int .i64 0,.int .i64 0,.string ⟨#[]⟩,.string ⟨#[]⟩,.slice none 0 0] 90)|10=>∀ x0 x1 x2 x3 x4 x5 x6,V 7 = .agg #[x0,x1,x2,x3,x4,x5,x6]→L < H∧wx.heap[L]? = some (.cells #[x0,x1,x2,x3,x4,x5,x6] 90)|11=>V 11=V 8|_=>True) (by kernel_rfl) (by kernel_rfl) ?obs (fun _ h=>h.elim) trivial (fun _ _ _ _ _=>trivial) ?loc ?lasts ?walk
   case obs =>
    trivial
   case loc =>
    intro k V V' L H wx h0 h1 hG
    match k with
    | 0 =>
     (try dsimp only at hG ⊢);rw [← h0];exact hG
    | 1 =>
     (try dsimp only at hG ⊢);rw [← h0];exact hG
    | 2 =>
     (try dsimp only at hG ⊢);rw [← h0];exact hG
    | 3 =>
     (try dsimp only at hG ⊢);rw [← h0];exact hG
    | 4 =>
     (try dsimp only at hG ⊢);rw [← h0];exact hG
    | 5 =>
     (try dsimp only at hG ⊢);rw [← h0];exact hG
    | 6 =>
     have e5:=h1 5 (by decide)
     (try dsimp only at hG ⊢);rw [← h0,← e5];exact hG
    | 7 =>
     have e6:=h1 6 (by decide)
     (try dsimp only at hG ⊢);rw [← h0,← e6];exact hG
    | 8 =>
     have e6:=h1 6 (by decide)
     (try dsimp only at hG ⊢);rw [← h0,← e6];exact hG
    | 9 =>
     (try dsimp only at hG ⊢);rw [← h0];exact hG
    | 10 =>
     have e7:=h1 7 (by decide)
     (try dsimp only at hG ⊢);rw [← e7];exact hG
    | 11 =>
     have e8:=h1 8 (by decide)
     (try dsimp only at hG ⊢);rw [← h0,← e8];exact hG
    | n+12=>trivial
   case lasts =>
    intro i hi V L H wx wy hB hH hk
    match i,hi with
    | 0,_=>exact fun h=>h
    | 1,_=>exact fun h=>h
    | 2,_=>exact fun h=>h
    | 3,_=>exact fun h=>h
    | 4,_=>exact fun h=>h
    | 5,_=>exact fun h=>h
    | 6,_=>exact fun h=>h
    | 7,_=>exact fun h=>h
    | 8,_=>exact fun h=>h
    | 9,_=>exact fun ⟨hv,hl,hc⟩=>⟨hv,hl,(hk.2 L (.inr (.inl ⟨Nat.le_refl _,hl⟩)) (Nat.lt_of_lt_of_le hl hH)).trans hc⟩
    | 10,_=>exact fun h x0 x1 x2 x3 x4 x5 x6 hv=>⟨(h x0 x1 x2 x3 x4 x5 x6 hv).1,(hk.2 L (.inr (.inl ⟨Nat.le_refl _,(h x0 x1 x2 x3 x4 x5 x6 hv).1⟩)) (Nat.lt_of_lt_of_le (h x0 x1 x2 x3 x4 x5 x6 hv).1 hH)).trans (h x0 x1 x2 x3 x4 x5 x6 hv).2⟩
    | 11,_=>exact fun h=>h
    | n+12,hn=>exact absurd hn (by simp)
   case walk =>
    simp (maxSteps:=4000000) only [zda,Nat.reduceAdd,Act.put,List.setIfInBounds_toArray,List.set_cons_succ,List.set_cons_zero]
    refine ⟨?_,?_,?_,?_,?_,?_,?_,?_,?_,?_,?_,?_,?_⟩
    ·intro V L H w1 hw hk hj hd
     clear hd
     have r0:w1.cell? ⟨(w.heap.size+1),0,none⟩=some (.string x.fa):=((zd hw).cell (p:=⟨(w.heap.size+1),0,none⟩) (show w.heap.size+1 < wr.heap.size by have:=HZW.out;omega)).trans (za HRW.out rfl)
     have r1:w1.cell? ⟨(w.heap.size+1),1,none⟩=some (.string x.fp):=((zd hw).cell (p:=⟨(w.heap.size+1),1,none⟩) (show w.heap.size+1 < wr.heap.size by have:=HZW.out;omega)).trans (za HRW.out rfl)
     have r2:w1.cell? ⟨(w.heap.size+1),2,none⟩=some (.slice b2 x.fj.length c1_0):=((zd hw).cell (p:=⟨(w.heap.size+1),2,none⟩) (show w.heap.size+1 < wr.heap.size by have:=HZW.out;omega)).trans (za HRW.out rfl)
     have r3:w1.cell? ⟨(w.heap.size+1),3,none⟩=some (.bool x.fq):=((zd hw).cell (p:=⟨(w.heap.size+1),3,none⟩) (show w.heap.size+1 < wr.heap.size by have:=HZW.out;omega)).trans (za HRW.out rfl)
     have r4:w1.cell? ⟨(w.heap.size+1),4,none⟩=some (.slice b4 x.fg.length c1_1):=((zd hw).cell (p:=⟨(w.heap.size+1),4,none⟩) (show w.heap.size+1 < wr.heap.size by have:=HZW.out;omega)).trans (za HRW.out rfl)
     have r5:w1.cell? ⟨(w.heap.size+1),5,none⟩=some (.slice b5 x.fo.length c1_2):=((zd hw).cell (p:=⟨(w.heap.size+1),5,none⟩) (show w.heap.size+1 < wr.heap.size by have:=HZW.out;omega)).trans (za HRW.out rfl)
     (go_wp2_with fail);exact zc _ rfl ⟨⟨WritesF.refl _ _,hj⟩,zb⟩
    ·intro V L H w1 hw hk hj hd
     clear hd;(go_wp2_with fail);exact zc _ rfl ⟨⟨WritesF.refl _ _,hj⟩,zb⟩
    ·intro V L H w1 hw hk hj hd
     clear hd;(go_wp2_with fail);exact zc _ rfl ⟨⟨WritesF.refl _ _,hj⟩,zb⟩
    ·intro V L H w1 hw hk hj hd
     obtain ⟨⟨_,_,_,hv1⟩,⟨_,_,_,hv2⟩,-⟩:=hd;rw [hv1,hv2];have HV1:=yq hv1;have HV2:=yq hv2;clear hv1 hv2;(go_wp2_with fail);exact zc _ rfl ⟨⟨WritesF.refl _ _,hj⟩,zb⟩
    ·intro V L H w1 hw hk hj hd
     obtain ⟨⟨_,_,_,hv3⟩,-⟩:=hd;rw [hv3];have HV3:=yq hv3;clear hv3;have o0:w1.cell? ⟨lb,loff+k * 2,none⟩=some (.int .i64 y.fb):=((zd hw).cell (p:=⟨lb,loff+k * 2,none⟩) HLB.out).trans HC0.out;have o1:w1.cell? ⟨lb,loff+k * 2+1,none⟩=some (.string y.fa):=((zd hw).cell (p:=⟨lb,loff+k * 2+1,none⟩) HLB.out).trans HC1.out;(go_wp2_with fail);exact zc _ rfl ⟨⟨WritesF.refl _ _,hj⟩,zb⟩
    ·intro V L H w1 hw hk hj hd
     obtain ⟨⟨_,_,_,hv0⟩,⟨_,_,_,hv4⟩,-⟩:=hd;rw [hv0,hv4];have HV0:=yq hv0;have HV4:=yq hv4;clear hv0 hv4;(go_wp2_with fail);refine (HCE.out w1 (zd hw)).mono ?_;rintro e w2 ⟨⟨r,q,rfl,-⟩,hb2⟩;(go_wp2_with fail);exact zc _ rfl ⟨⟨(WritesF.refl _ _).later hb2,trivial⟩,Exists.intro r (Exists.intro q (zb))⟩
    ·intro V L H w1 hw hk hj hd
     obtain ⟨⟨_,_,_,r,q,hv5⟩,-⟩:=hd;rw [hv5];have HV5:=yq hv5;clear hv5;(go_wp2_with fail)
     exact zc _ rfl ⟨⟨WritesF.refl _ _,hj⟩,And.intro (zb.trans (HV5.out.symm.trans (zam (by decide)).symm)) ⟨_,_,zb⟩⟩
    ·intro V L H w1 hw hk hj hd
     obtain ⟨⟨_,_,_,hv6,r_6,q_6,hz6⟩,-⟩:=hd;clear hv6;rw [hz6];have HV6:=yq hz6;clear hz6;(go_wp2_with fail)
     exact zc _ rfl ⟨⟨WritesF.refl _ _,hj⟩,And.intro (fun x0 x1 h=>by cases (HV6.out.symm.trans ((zam (by decide)).symm.trans h));exact zb) ⟨_,_,zb⟩⟩
    ·intro V L H w1 hw hk hj hd
     obtain ⟨⟨_,_,_,hv6,r_6,q_6,hz6⟩,-⟩:=hd;clear hv6;rw [hz6];have HV6:=yq hz6;clear hz6;(go_wp2_with fail)
     exact zc _ rfl ⟨⟨WritesF.refl _ _,hj⟩,fun x0 x1 h=>by cases (HV6.out.symm.trans ((zam (by decide)).symm.trans h));exact zb⟩
    ·intro V L H w1 hw hk hj hd
     clear hd;(go_wp2_with fail)
     refine zc _ rfl ⟨⟨(WritesF.refl _ _).later ((Below.refl _ _).alloc (Nat.le_refl _) _),trivial⟩,zb,by simp,ze rfl⟩
    ·intro V L H w1 hw hk hj hd
     obtain ⟨⟨_,_,_,hv9,hlt9,hc9⟩,⟨_,_,_,hv7,r_7,q_7,hz7⟩,-⟩:=hd;clear hv7;rw [hv9,hz7];have HV9:=yq hv9;have HV7:=yq hz7;clear hv9 hz7;have hc_0:=za (j:=0) (v:=.int .i64 0) hc9 rfl;have hf_0:=zay (j:=0) hc9;have hc_1:=za (j:=1) (v:=.int .i64 0) hc9 rfl;have hf_1:=zay (j:=1) hc9;have hc_2:=za (j:=2) (v:=.int .i64 0) hc9 rfl;have hf_2:=zay (j:=2) hc9;have hc_3:=za (j:=3) (v:=.int .i64 0) hc9 rfl;have hf_3:=zay (j:=3) hc9;have hc_4:=za (j:=4) (v:=.string ⟨#[]⟩) hc9 rfl;have hf_4:=zay (j:=4) hc9;have hc_5:=za (j:=5) (v:=.string ⟨#[]⟩) hc9 rfl;have hf_5:=zay (j:=5) hc9;have hc_6:=za (j:=6) (v:=.slice none 0 0) hc9 rfl;have hf_6:=zay (j:=6) hc9;have HBLK:=yq hc9;clear hc9;(go_wp2_with fail)
     refine zc undef rfl ⟨(Touches.put (L:=L 9) (H:=H 9) (Touches.put (L:=L 9) (H:=H 9) (Touches.put (L:=L 9) (H:=H 9) (Touches.put (L:=L 9) (H:=H 9) (Touches.put (L:=L 9) (H:=H 9) (Touches.put (L:=L 9) (H:=H 9) (Touches.put (L:=L 9) (H:=H 9) Touches.refl (p:=⟨L 9,0,none⟩) ⟨Nat.le_refl _,hlt9⟩ _) (p:=⟨L 9,1,none⟩) ⟨Nat.le_refl _,hlt9⟩ _) (p:=⟨L 9,2,none⟩) ⟨Nat.le_refl _,hlt9⟩ _) (p:=⟨L 9,3,none⟩) ⟨Nat.le_refl _,hlt9⟩ _) (p:=⟨L 9,4,none⟩) ⟨Nat.le_refl _,hlt9⟩ _) (p:=⟨L 9,5,none⟩) ⟨Nat.le_refl _,hlt9⟩ _) (p:=⟨L 9,6,none⟩) ⟨Nat.le_refl _,hlt9⟩ _),fun x0 x1 x2 x3 x4 x5 x6 h=>?_⟩
     cases (HV7.out.symm.trans ((zam (by decide)).symm.trans h))
     exact ⟨hlt9,(zbu (zbu (zbu (zbu (zbu (zbu (zbu HBLK.out rfl) rfl) rfl) rfl) rfl) rfl) rfl)⟩
    ·intro V L H w1 hw hk hj hd
     obtain ⟨⟨_,_,_,hv8⟩,-⟩:=hd;clear hv8;(go_wp2_with fail)
     exact zc _ rfl ⟨⟨WritesF.refl _ _,hj⟩,zb.trans (zam (by decide)).symm⟩
    ·intro V L H w1 hw hj hd hap hdead
     obtain ⟨⟨_,_,_,hv0⟩,⟨_,_,_,hv1⟩,⟨_,_,_,hv2⟩,⟨_,_,_,hv3⟩,⟨_,_,_,hv4⟩,⟨_,_,_,r,q,hv5⟩,⟨_,_,_,hv6,r_6,q_6,hz6⟩,⟨_,_,_,hv7,r_7,q_7,hz7⟩,⟨_,_,_,hv8⟩,⟨_,_,_,hst10_⟩,⟨_,_,_,hv11⟩,-⟩:=hd;have hv6':=hv6.trans hv5;have hv7':=hv7 _ _ hv6';have hv8':=hv8 _ _ hv6';have hv11':=hv11.trans hv8';obtain ⟨vlt10,vb10⟩:=hst10_ _ _ _ _ _ _ _ hv7'
     obtain ⟨hLe10,hHe10,wo10,hva10,-⟩:=hdead 10 9 (by decide) rfl
     rw [← hLe10] at hva10;clear hLe10 hHe10;rw [hv0,hv1,hv2,hv3,hv4,hv5,hv6',hv7',hv8',hva10,hv11'];clear hv0 hv1 hv2 hv3 hv4 hv5 hv6' hv7' hv8' hva10 hv11' hv6 hv7 hv8 hv11;have HBN:=yq (HBW.out.trans ((zd hw).mono HBW.out.size));have HBF:=yq (HBT.out.trans ((zd hw).mono HBT.out.size));clear hw hj hap hdead
     cases be with
     | false =>
      have FIN:=yq (show zib g x=true from HR.out.trans (zbm hlt HEK.out))
      go_wp2;go_ret;exact ⟨zh FIN.out.symm,HBF.out⟩
     | true =>
      have HN1:=yq (zap HN.out HEK.out);go_wp2;go_roundw
      case rel=>exact ⟨k+1,by omega,by go_num,HN1.out,HBN.out⟩
      case measure=>simp [intOf];omega
  ·obtain rfl:k=lst.length:=by omega
   have FIN:=yq (show zib g x=false from HR.out.trans (zbp HN.out))
   go_wp2;go_ret;exact ⟨zh FIN.out.symm,HBT.out⟩
end Go.Proofs.YtmbaajangkmjdaaGreat
