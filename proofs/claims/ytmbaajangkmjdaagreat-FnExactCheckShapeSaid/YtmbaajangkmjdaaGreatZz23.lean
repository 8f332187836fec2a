/-
  The checks of CheckShape in the program: a rule that is valid and has a name of its own.
  l11Bad of the model: the first symbol or rule that is not valid or has an earlier name.
  The expressions of a rule, in the program.
-/
import Derived.Test.YtmbaajangkmjdaaGreatZz16
import Derived.Test.YtmbaajangkmjdaaGreatZz22
import Derived.Test.YtmbaajangkmjdaaGreatZShapeI2
import Derived.Test.YtmbaajangkmjdaaGreatZShapeT8
set_option maxHeartbeats 12800000
set_option maxRecDepth 100000
namespace Go.Proofs.YtmbaajangkmjdaaGreat
open Go.ChangeShapes Go.WideShapes Go.ChangeAt Go.RowKit Go.Deep
noncomputable def zlm (s:DRule) (l:List DRule):Bool:=zfx s && !zjd l s.fa
theorem zmg {hi c9:Nat} {a9:Option Addr} {b2 b4 b5:Option Addr} {c1_0 c1_1 c1_2:Nat} (s:DRule) (oks:s.ok) (hszs:s.sz≤1048576) (l:List DRule) (hz:lsz DRule.sz l≤1048576) (n:Nat) (hn:n=l.length) (w:World) (hhi:hi≤w.heap.size) (hs2:Sf 0 hi w 1 s.fj.length (fun k=>ictS (s.fj.getD k default)) b2) (hs4:Sf 0 hi w 9 s.fg.length (fun k=>DEquation.ct (s.fg.getD k default)) b4) (hs5:Sf 0 hi w 16 s.fo.length (fun k=>DContribution.ct (s.fo.getD k default)) b5) (hs9:Sl 0 hi w 6 n (fun k=>DRule.ct (l.getD k default)) a9) :
  Calls Tryz.prog 22 #[.agg #[.string s.fa,.string s.fp,.slice b2 s.fj.length c1_0,.bool s.fq,.slice b4 s.fg.length c1_1,.slice b5 s.fo.length c1_2],.slice a9 n c9] w fun e w'=>e = .returned (.bool (zlm s l))∧Below w.heap.size w w':=by
 subst hn
 have HB:=yq (show Below w.heap.size w (w.alloc (.cells #[.string s.fa,.string s.fp,.slice b2 s.fj.length c1_0,.bool s.fq,.slice b4 s.fg.length c1_1,.slice b5 s.fo.length c1_2] 50)) from (Below.refl _ _).alloc (Nat.le_refl _) _)
 have HBS:=yq (show (w.alloc (.cells #[.string s.fa,.string s.fp,.slice b2 s.fj.length c1_0,.bool s.fq,.slice b4 s.fg.length c1_1,.slice b5 s.fo.length c1_2] 50)).heap[w.heap.size]? = some (.cells #[.string s.fa,.string s.fp,.slice b2 s.fj.length c1_0,.bool s.fq,.slice b4 s.fg.length c1_1,.slice b5 s.fo.length c1_2] 50) from ze rfl)
 have HZ:=yq (show (w.alloc (.cells #[.string s.fa,.string s.fp,.slice b2 s.fj.length c1_0,.bool s.fq,.slice b4 s.fg.length c1_1,.slice b5 s.fo.length c1_2] 50)).heap.size=w.heap.size+1 by simp)
 have HHI:=yq hhi
 have HSN:=yq (fun (W:World) (hW:Below w.heap.size w W)=>zms (c0:=0) (c1:=c9) (n0:=0) (a0:=none) l hz s.fa W (Nat.le_trans HHI.out hW.size) (hs9.later hW hhi))
 have HVS:=yq (fun (W:World) (hW:Below w.heap.size w W)=>zi6 (c0_0:=c1_0) (c0_1:=c1_1) (c0_2:=c1_2) s oks hszs W (Nat.le_trans HHI.out hW.size) (hs2.later hW hhi) (hs4.later hW hhi) (hs5.later hW hhi))
 have HR:=yq (show zlm s l=(zfx s && !zjd l s.fa) from rfl)
 clear hs2 hs4 hs5 hs9 hz oks hszs hhi;generalize zlm s l=res at *;generalize zfx s=bv at *;generalize zjd l s.fa=bf at *;generalize zqf l s.fa=ss at *
 go_enter Tryz.func22,Tryz.ntmps22
 (go_wp2_with fail);refine (HSN.out _ HB.out).mono ?_;rintro e w1 ⟨⟨r2,r4,r5,q2,q4,q5,rfl,-,-,-⟩,hb1⟩;have HB1:=yq (HB.out.trans (hb1.mono HB.out.size))
 have hz1:w.heap.size < w1.heap.size:=Nat.lt_of_lt_of_le (by rw [HZ.out];omega) hb1.size
 have HBS1:=yq ((hb1.block w.heap.size (by rw [HZ.out];omega)).trans HBS.out)
 have HB2:=yq (HB1.out.trans (((Below.refl w1.heap.size w1).alloc (Nat.le_refl _) (.cells #[.string ss.fa,.string ss.fp,.slice r2 ss.fj.length q2,.bool ss.fq,.slice r4 ss.fg.length q4,.slice r5 ss.fo.length q5] 50)).mono HB1.out.size));have s0:(w1.alloc (.cells #[.string ss.fa,.string ss.fp,.slice r2 ss.fj.length q2,.bool ss.fq,.slice r4 ss.fg.length q4,.slice r5 ss.fo.length q5] 50)).cell? ⟨w.heap.size,0,none⟩=some (.string s.fa):=(((Below.refl w1.heap.size w1).alloc (Nat.le_refl _) (.cells #[.string ss.fa,.string ss.fp,.slice r2 ss.fj.length q2,.bool ss.fq,.slice r4 ss.fg.length q4,.slice r5 ss.fo.length q5] 50)).cell (p:=⟨w.heap.size,0,none⟩) hz1).trans (za HBS1.out rfl);have s1:(w1.alloc (.cells #[.string ss.fa,.string ss.fp,.slice r2 ss.fj.length q2,.bool ss.fq,.slice r4 ss.fg.length q4,.slice r5 ss.fo.length q5] 50)).cell? ⟨w.heap.size,1,none⟩=some (.string s.fp):=(((Below.refl w1.heap.size w1).alloc (Nat.le_refl _) (.cells #[.string ss.fa,.string ss.fp,.slice r2 ss.fj.length q2,.bool ss.fq,.slice r4 ss.fg.length q4,.slice r5 ss.fo.length q5] 50)).cell (p:=⟨w.heap.size,1,none⟩) hz1).trans (za HBS1.out rfl);have s2:(w1.alloc (.cells #[.string ss.fa,.string ss.fp,.slice r2 ss.fj.length q2,.bool ss.fq,.slice r4 ss.fg.length q4,.slice r5 ss.fo.length q5] 50)).cell? ⟨w.heap.size,2,none⟩=some (.slice b2 s.fj.length c1_0):=(((Below.refl w1.heap.size w1).alloc (Nat.le_refl _) (.cells #[.string ss.fa,.string ss.fp,.slice r2 ss.fj.length q2,.bool ss.fq,.slice r4 ss.fg.length q4,.slice r5 ss.fo.length q5] 50)).cell (p:=⟨w.heap.size,2,none⟩) hz1).trans (za HBS1.out rfl);have s3:(w1.alloc (.cells #[.string ss.fa,.string ss.fp,.slice r2 ss.fj.length q2,.bool ss.fq,.slice r4 ss.fg.length q4,.slice r5 ss.fo.length q5] 50)).cell? ⟨w.heap.size,3,none⟩=some (.bool s.fq):=(((Below.refl w1.heap.size w1).alloc (Nat.le_refl _) (.cells #[.string ss.fa,.string ss.fp,.slice r2 ss.fj.length q2,.bool ss.fq,.slice r4 ss.fg.length q4,.slice r5 ss.fo.length q5] 50)).cell (p:=⟨w.heap.size,3,none⟩) hz1).trans (za HBS1.out rfl)
 have s4:(w1.alloc (.cells #[.string ss.fa,.string ss.fp,.slice r2 ss.fj.length q2,.bool ss.fq,.slice r4 ss.fg.length q4,.slice r5 ss.fo.length q5] 50)).cell? ⟨w.heap.size,4,none⟩=some (.slice b4 s.fg.length c1_1):=(((Below.refl w1.heap.size w1).alloc (Nat.le_refl _) (.cells #[.string ss.fa,.string ss.fp,.slice r2 ss.fj.length q2,.bool ss.fq,.slice r4 ss.fg.length q4,.slice r5 ss.fo.length q5] 50)).cell (p:=⟨w.heap.size,4,none⟩) hz1).trans (za HBS1.out rfl);have s5:(w1.alloc (.cells #[.string ss.fa,.string ss.fp,.slice r2 ss.fj.length q2,.bool ss.fq,.slice r4 ss.fg.length q4,.slice r5 ss.fo.length q5] 50)).cell? ⟨w.heap.size,5,none⟩=some (.slice b5 s.fo.length c1_2):=(((Below.refl w1.heap.size w1).alloc (Nat.le_refl _) (.cells #[.string ss.fa,.string ss.fp,.slice r2 ss.fj.length q2,.bool ss.fq,.slice r4 ss.fg.length q4,.slice r5 ss.fo.length q5] 50)).cell (p:=⟨w.heap.size,5,none⟩) hz1).trans (za HBS1.out rfl);have s9:w1.cell? ⟨w.heap.size,0,none⟩=some (.string s.fa):=za HBS1.out rfl;clear hb1
 go_wp2_with (refine wpList_store_rowTo rfl 50 (.tmp 5) (.tmp 13) rfl rfl w1.heap.size _ rfl rfl 50 _ (ze rfl) (by kernel_rfl) rfl (by simp [Value.oneCell']) ?_;rw [zbc rfl])
 refine (HVS.out _ HB2.out).mono ?_;rintro e w2 ⟨rfl,hb2⟩;have HB3:=yq (HB2.out.trans (hb2.mono HB2.out.size));clear hb2
 cases bv<;>cases bf
 all_goals
  go_wp2;go_ret;exact ⟨zh HR.out.symm,HB3.out⟩
theorem zrk {hi bg c0_0 c0_1:Nat} {a0 a1:Option Addr} (g:DGrammar) (okg:g.ok) (hszg:g.sz≤1048576) (i:Nat) (hi':i < g.fm.length) (hcap:g.fm.length≤c0_1) (w:World) (hhi:hi≤w.heap.size) (hs1:Sf 0 hi w 6 g.fm.length (fun k=>DRule.ct (g.fm.getD k default)) a1) (hg:w.heap[bg]? = some (.cells #[.slice a0 g.fl.length c0_0,.slice a1 g.fm.length c0_1] 32)) :
  Calls Tryz.prog 21 #[.int .i64 (i:Int),.pointer (some ⟨bg,0,none⟩)] w fun e w'=>e = .returned (.bool (!zlm (g.fm.getD i default) (g.fm.take i)))∧Below w.heap.size w w':=by
 have hbg:bg < w.heap.size:=(Array.getElem?_eq_some_iff.1 hg).1;have HBGL:=yq hbg
 have HCAP:=yq (show i≤c0_1 by omega)
 have hiI:(0:Int)≤(i:Int)∧(i:Int) < (g.fm.length:Int):=by omega
 have hti:i=(g.fm.take i).length:=by rw [List.length_take];omega
 have HT:=yq ((zuz (m:=i) hs1.sl (Nat.le_of_lt hi')).congr (g:=fun k=>DRule.ct ((g.fm.take i).getD k default)) fun k hk j _=>by rw [zm3 _ hk])
 obtain ⟨rb,ro,rfl,_,hrb,_,hc⟩:=hs1.at i hi';obtain ⟨b2,c1_0,b4,c1_1,b5,c1_2,h0,h1,h2,h3,h4,h5,hs2,hs4,hs5⟩:=DRule.openS hc;have okx:DRule.ok (g.fm.getD i default):=okg.2.at hi'
 have hszx:DRule.sz (g.fm.getD i default)≤1048576:=Nat.le_trans (zab (f:=DRule.sz) g.fm i hi') (by unfold DGrammar.sz at hszg;omega)
 have hzt:lsz DRule.sz (g.fm.take i)≤1048576:=Nat.le_trans (zt6 _ _ _) (by unfold DGrammar.sz at hszg;omega)
 have HRLT:=yq (show rb < w.heap.size by omega)
 have HGW:=yq hg;have HROW:=yq (And.intro h0 (And.intro h1 (And.intro h2 (And.intro h3 (And.intro h4 (h5))))))
 have HC:=yq (fun (W:World) (hW:Below w.heap.size w W)=>zmg (c1_0:=c1_0) (c1_1:=c1_1) (c1_2:=c1_2) (c9:=c0_1) (g.fm.getD i default) okx hszx (g.fm.take i) hzt i hti W (Nat.le_trans hhi hW.size) (hs2.later hW hhi) (hs4.later hW hhi) (hs5.later hW hhi) (HT.out.later hW hhi))
 clear HT hti hzt okx hszx hg hc hs2 hs4 hs5 hs1 hhi hi' hbg hrb okg hszg hcap h0 h1 h2 h3 h4 h5;generalize zlm (g.fm.getD i default) (g.fm.take i)=bb at *;generalize (g.fm.getD i default)=x at *;obtain ⟨i9,hi9,-⟩:=info_parts zqi
 go_enter Tryz.func21,Tryz.ntmps21
 go_wp2
 refine zw [([],.none,[]),([0],.none,[]),([],.none,[]),([1,2],.none,[]),([3],.none,[]),([],.none,[]),([5],.none,[]),([],.none,[]),([6,7],.none,[]),([4,8],.none,[]),([9],.none,[]),([10],.none,[])] [0,1,2,3,4,5,6,7,8,9,10,11] [] (fun _=>False) (fun _=>True) (fun _=>0) (fun jq9 V L H wx=>match jq9 with|0=>V 0 = .pointer (some ⟨bg,1,none⟩)|1=>V 1 = .slice (some ⟨rb,ro,none⟩) g.fm.length c0_1|2=>V 2 = .int .i64 (i:Int)|3=>V 3 = .pointer (some ⟨rb,ro+i * 6,none⟩)|4=>V 4 = .agg #[.string x.fa,.string x.fp,.slice b2 x.fj.length c1_0,.bool x.fq,.slice b4 x.fg.length c1_1,.slice b5 x.fo.length c1_2]|5=>V 5 = .pointer (some ⟨bg,1,none⟩)|6=>V 6 = .slice (some ⟨rb,ro,none⟩) g.fm.length c0_1|7=>V 7 = .int .i64 (i:Int)|8=>V 8 = .slice (some ⟨rb,ro,none⟩) i c0_1|9=>V 9 = .bool bb|10=>V 10 = .bool (!bb)|11=>V 11=V 10|_=>True) (by kernel_rfl) (by kernel_rfl) ?obs (fun _ h=>h.elim) trivial (fun _ _ _ _ _=>trivial) ?loc ?lasts ?walk
 case obs =>
  trivial
 case loc =>
  intro k V V' L H wx h0 h1 hG
  match k with
  | 0 =>
   (try dsimp only at hG ⊢);rw [← h0];exact hG
  | 1 =>
   (try dsimp only at hG ⊢);rw [← h0];exact hG
  | 2 =>
   (try dsimp only at hG ⊢);rw [← h0];exact hG
  | 3 =>
   (try dsimp only at hG ⊢);rw [← h0];exact hG
  | 4 =>
   (try dsimp only at hG ⊢);rw [← h0];exact hG
  | 5 =>
   (try dsimp only at hG ⊢);rw [← h0];exact hG
  | 6 =>
   (try dsimp only at hG ⊢);rw [← h0];exact hG
  | 7 =>
   (try dsimp only at hG ⊢);rw [← h0];exact hG
  | 8 =>
   (try dsimp only at hG ⊢);rw [← h0];exact hG
  | 9 =>
   (try dsimp only at hG ⊢);rw [← h0];exact hG
  | 10 =>
   (try dsimp only at hG ⊢);rw [← h0];exact hG
  | 11 =>
   have e10:=h1 10 (by decide)
   (try dsimp only at hG ⊢);rw [← h0,← e10];exact hG
  | n+12=>trivial
 case lasts =>
  intro i hi V L H wx wy hB hH hk
  match i,hi with
  | 0,_=>exact fun h=>h
  | 1,_=>exact fun h=>h
  | 2,_=>exact fun h=>h
  | 3,_=>exact fun h=>h
  | 4,_=>exact fun h=>h
  | 5,_=>exact fun h=>h
  | 6,_=>exact fun h=>h
  | 7,_=>exact fun h=>h
  | 8,_=>exact fun h=>h
  | 9,_=>exact fun h=>h
  | 10,_=>exact fun h=>h
  | 11,_=>exact fun h=>h
  | n+12,hn=>exact absurd hn (by simp)
 case walk =>
  simp (maxSteps:=4000000) only [zda,Nat.reduceAdd,Act.put,List.setIfInBounds_toArray,List.set_cons_succ,List.set_cons_zero]
  refine ⟨?_,?_,?_,?_,?_,?_,?_,?_,?_,?_,?_,?_,?_⟩
  ·intro V L H w1 hw hk hj hd
   clear hd;(go_wp2_with fail);exact zc _ rfl ⟨⟨WritesF.refl _ _,hj⟩,zb⟩
  ·intro V L H w1 hw hk hj hd
   obtain ⟨⟨_,_,_,hv0⟩,-⟩:=hd;rw [hv0];have HV0:=yq hv0;clear hv0;have g1:w1.cell? ⟨bg,1,none⟩=some (.slice (some ⟨rb,ro,none⟩) g.fm.length c0_1):=((zd hw).cell (p:=⟨bg,1,none⟩) HBGL.out).trans (za HGW.out rfl);(go_wp2_with fail);exact zc _ rfl ⟨⟨WritesF.refl _ _,hj⟩,zb⟩
  ·intro V L H w1 hw hk hj hd
   clear hd;(go_wp2_with fail);exact zc _ rfl ⟨⟨WritesF.refl _ _,hj⟩,zb⟩
  ·intro V L H w1 hw hk hj hd
   obtain ⟨⟨_,_,_,hv1⟩,⟨_,_,_,hv2⟩,-⟩:=hd;rw [hv1,hv2];have HV1:=yq hv1;have HV2:=yq hv2;clear hv1 hv2;(go_wp2_with fail);exact zc _ rfl ⟨⟨WritesF.refl _ _,hj⟩,zb⟩
  ·intro V L H w1 hw hk hj hd
   obtain ⟨⟨_,_,_,hv3⟩,-⟩:=hd;rw [hv3];have HV3:=yq hv3;clear hv3;have r0:w1.cell? ⟨rb,ro+i * 6,none⟩=some (.string x.fa):=((zd hw).cell (p:=⟨rb,ro+i * 6,none⟩) HRLT.out).trans HROW.out.1;have r1:w1.cell? ⟨rb,ro+i * 6+1,none⟩=some (.string x.fp):=((zd hw).cell (p:=⟨rb,ro+i * 6+1,none⟩) HRLT.out).trans HROW.out.2.1;have r2:w1.cell? ⟨rb,ro+i * 6+2,none⟩=some (.slice b2 x.fj.length c1_0):=((zd hw).cell (p:=⟨rb,ro+i * 6+2,none⟩) HRLT.out).trans HROW.out.2.2.1;have r3:w1.cell? ⟨rb,ro+i * 6+3,none⟩=some (.bool x.fq):=((zd hw).cell (p:=⟨rb,ro+i * 6+3,none⟩) HRLT.out).trans HROW.out.2.2.2.1;have r4:w1.cell? ⟨rb,ro+i * 6+4,none⟩=some (.slice b4 x.fg.length c1_1):=((zd hw).cell (p:=⟨rb,ro+i * 6+4,none⟩) HRLT.out).trans HROW.out.2.2.2.2.1;have r5:w1.cell? ⟨rb,ro+i * 6+5,none⟩=some (.slice b5 x.fo.length c1_2):=((zd hw).cell (p:=⟨rb,ro+i * 6+5,none⟩) HRLT.out).trans HROW.out.2.2.2.2.2;(go_wp2_with fail);exact zc _ rfl ⟨⟨WritesF.refl _ _,hj⟩,zb⟩
  ·intro V L H w1 hw hk hj hd
   clear hd;(go_wp2_with fail);exact zc _ rfl ⟨⟨WritesF.refl _ _,hj⟩,zb⟩
  ·intro V L H w1 hw hk hj hd
   obtain ⟨⟨_,_,_,hv5⟩,-⟩:=hd;rw [hv5];have HV5:=yq hv5;clear hv5;have g1:w1.cell? ⟨bg,1,none⟩=some (.slice (some ⟨rb,ro,none⟩) g.fm.length c0_1):=((zd hw).cell (p:=⟨bg,1,none⟩) HBGL.out).trans (za HGW.out rfl);(go_wp2_with fail);exact zc _ rfl ⟨⟨WritesF.refl _ _,hj⟩,zb⟩
  ·intro V L H w1 hw hk hj hd
   clear hd;(go_wp2_with fail);exact zc _ rfl ⟨⟨WritesF.refl _ _,hj⟩,zb⟩
  ·intro V L H w1 hw hk hj hd
   obtain ⟨⟨_,_,_,hv6⟩,⟨_,_,_,hv7⟩,-⟩:=hd;rw [hv6,hv7];have HV6:=yq hv6;have HV7:=yq hv7;clear hv6 hv7
   go_wp2_with (refine ze4 _ rfl (.tmp 10) (.tmp 11) 30 50 rfl i9 Tryz.underlying30 hi9 rb ro g.fm.length c0_1 i HCAP.out rfl rfl ?_)
   exact zc _ rfl ⟨⟨WritesF.refl _ _,hj⟩,zb⟩
  ·intro V L H w1 hw hk hj hd
   obtain ⟨⟨_,_,_,hv4⟩,⟨_,_,_,hv8⟩,-⟩:=hd;rw [hv4,hv8];have HV4:=yq hv4;have HV8:=yq hv8;clear hv4 hv8;(go_wp2_with fail);refine (HC.out w1 (zd hw)).mono ?_;rintro e w2 ⟨rfl,hb2⟩;(go_wp2_with fail);exact zc _ rfl ⟨⟨(WritesF.refl _ _).later hb2,trivial⟩,zb⟩
  ·intro V L H w1 hw hk hj hd
   obtain ⟨⟨_,_,_,hv9⟩,-⟩:=hd;rw [hv9];have HV9:=yq hv9;clear hv9;(go_wp2_with fail);exact zc _ rfl ⟨⟨WritesF.refl _ _,hj⟩,zb⟩
  ·intro V L H w1 hw hk hj hd
   obtain ⟨⟨_,_,_,hv10⟩,-⟩:=hd;rw [hv10];have HV10:=yq hv10;clear hv10;(go_wp2_with fail)
   exact zc _ rfl ⟨⟨WritesF.refl _ _,hj⟩,zb.trans (HV10.out.symm.trans (zam (by decide)).symm)⟩
  ·intro V L H w1 hw hj hd hap hdead
   obtain ⟨⟨_,_,_,hv0⟩,⟨_,_,_,hv1⟩,⟨_,_,_,hv2⟩,⟨_,_,_,hv3⟩,⟨_,_,_,hv4⟩,⟨_,_,_,hv5⟩,⟨_,_,_,hv6⟩,⟨_,_,_,hv7⟩,⟨_,_,_,hv8⟩,⟨_,_,_,hv9⟩,⟨_,_,_,hv10⟩,⟨_,_,_,hv11⟩,-⟩:=hd;have hv11':=hv11.trans hv10;rw [hv0,hv1,hv2,hv3,hv4,hv5,hv6,hv7,hv8,hv9,hv10,hv11'];clear hv0 hv1 hv2 hv3 hv4 hv5 hv6 hv7 hv8 hv9 hv10 hv11' hv11;have HBF:=yq (zd hw);clear hw hj hap hdead;go_wp2;go_ret;exact ⟨rfl,HBF.out⟩
def zft (g:DGrammar) (i:Nat):Bool:=!zkl (g.fl.getD i default) (g.fl.take i)
noncomputable def zhf (g:DGrammar) (i:Nat):Bool:=!zlm (g.fm.getD i default) (g.fm.take i)
def zcd (g:DGrammar) (k:Nat):List ByteArray:=(g.fl.take k).map DSymbol.fa
def zce (g:DGrammar) (k:Nat):List ByteArray:=(g.fm.take k).map DRule.fa
def zvb (g:DGrammar) (z:Int):Prop :=
 (∃ i:Nat,z=i∧i < g.fl.length∧zbo (zft g) i∧zft g i=true)∨(zbo (zft g) g.fl.length ∧ ∃ i:Nat,z=i∧i < g.fm.length∧zbo (zhf g) i∧zhf g i=true)∨(z = -1∧zbo (zft g) g.fl.length∧zbo (zhf g) g.fm.length)
theorem zwl (l:List DSymbol) (nm:ByteArray):memB nm (l.map DSymbol.fa)=symB l nm:=by
 unfold symB
 rw [ze8,Bool.eq_iff_iff,zdo,List.any_eq_true,List.mem_map]
 constructor
 ·rintro ⟨y,hy,e⟩;exact ⟨y,hy,znr e⟩
 ·rintro ⟨y,hy,e⟩;exact ⟨y,hy,zk9 (by unfold PSym at e;exact eq_of_beq e)⟩
theorem zwg (l:List DRule) (nm:ByteArray):memB nm (l.map DRule.fa)=zjd l nm:=by
 unfold zjd
 rw [ze8,Bool.eq_iff_iff,zdo,List.any_eq_true,List.mem_map]
 constructor
 ·rintro ⟨y,hy,e⟩;exact ⟨y,hy,zqs e⟩
 ·rintro ⟨y,hy,e⟩;exact ⟨y,hy,zk1 (by unfold PRu at e;exact eq_of_beq e)⟩
theorem zrv (g:DGrammar) {k:Nat} (h:k < g.fl.length):zcd g (k+1)=zcd g k ++ [(g.fl.getD k default).fa]:=by unfold zcd;rw [zcq h,List.map_append];rfl
theorem zra (g:DGrammar) {k:Nat} (h:k < g.fm.length):zce g (k+1)=zce g k ++ [(g.fm.getD k default).fa]:=by unfold zce;rw [zcq h,List.map_append];rfl
theorem zvo {g:DGrammar} (h:g.sz≤1048576) (k j:Nat):((zcd g k).getD j ByteArray.empty).size≤9223372036854775807:=by
 rw [List.getD_eq_getElem?_getD]
 by_cases hj:j < (zcd g k).length
 ·rw [List.getElem?_eq_getElem hj]
  obtain ⟨y,hy,e⟩:=List.mem_map.1 (List.getElem_mem hj);obtain ⟨i,hi,rfl⟩:=List.getElem_of_mem (List.mem_of_mem_take hy);have h2:=zab (f:=DSymbol.sz) g.fl i hi;rw [List.getD_eq_getElem?_getD,List.getElem?_eq_getElem hi,Option.getD_some] at h2
  show (zcd g k)[j].size≤_
  rw [show (zcd g k)[j]=g.fl[i].fa from e.symm]
  unfold DGrammar.sz at h
  unfold DSymbol.sz at h2 h
  omega
 ·rw [List.getElem?_eq_none (by omega)]
  exact Nat.zero_le _
theorem zt7 {g:DGrammar} (h:g.sz≤1048576) (k j:Nat):((zce g k).getD j ByteArray.empty).size≤9223372036854775807:=by
 rw [List.getD_eq_getElem?_getD]
 by_cases hj:j < (zce g k).length
 ·rw [List.getElem?_eq_getElem hj]
  obtain ⟨y,hy,e⟩:=List.mem_map.1 (List.getElem_mem hj);obtain ⟨i,hi,rfl⟩:=List.getElem_of_mem (List.mem_of_mem_take hy);have h2:=zab (f:=DRule.sz) g.fm i hi;rw [List.getD_eq_getElem?_getD,List.getElem?_eq_getElem hi,Option.getD_some] at h2
  show (zce g k)[j].size≤_
  rw [show (zce g k)[j]=g.fm[i].fa from e.symm]
  have h3:lsz DRule.sz g.fm≤1048576:=by unfold DGrammar.sz at h;omega
  have h4:g.fm[i].fa.size≤DRule.sz g.fm[i]:=by unfold DRule.sz;omega
  omega
 ·rw [List.getElem?_eq_none (by omega)]
  exact Nat.zero_le _
theorem zfw {w:World} {B:Nat} {v:Value} {L:List ByteArray} (s:ByteArray) (h:w.ownsRow B 9 1 v L.length (L.flatMap vS)) (hn:L.length≤1048576) (hz : ∀ k,(L.getD k ByteArray.empty).size≤9223372036854775807) :
  Calls Tryz.prog 38 #[v,.string s] w fun e w'=>e = .returned (.bool (memB s L))∧w=w':=by
 rcases zfe h hz with ⟨rfl,rfl⟩|⟨g,cap,rfl,hc,hs⟩
 ·exact zfd (B:=0) (cap:=0) (a:=none) [] s (by decide) w (show Strs 0 w none [] from Or.inl rfl)
 ·exact zfd L s (by omega) w hs
theorem zu9:(Tryz.prog.info? 9).map (fun i=>(i.zero,i.size,i.bytes))=some (some (.string ⟨#[]⟩),1,16):=by kernel_rfl
theorem zr3 {lo hi:Nat} {a0 a1:Option Addr} {c0_0 c0_1:Nat} (g:DGrammar) (okg:g.ok) (hszg:g.sz≤1048576) (w:World) (hhi:hi≤w.heap.size) (hs0:Sl lo hi w 2 g.fl.length (fun k=>DSymbol.ct (g.fl.getD k default)) a0) (hs1:Sl lo hi w 6 g.fm.length (fun k=>DRule.ct (g.fm.getD k default)) a1) :
  Calls Tryz.prog 12 #[.agg #[.slice a0 g.fl.length c0_0,.slice a1 g.fm.length c0_1]] w fun e w'=>(∃ z:Int,e = .returned (.int .i64 z)∧zvb g z)∧Below w.heap.size w w':=by
 have HB:=yq (show Below w.heap.size w (w.alloc (.cells #[.slice a0 g.fl.length c0_0,.slice a1 g.fm.length c0_1] 32)) from (Below.refl _ _).alloc (Nat.le_refl _) _)
 have HBG:=yq (show (w.alloc (.cells #[.slice a0 g.fl.length c0_0,.slice a1 g.fm.length c0_1] 32)).heap[w.heap.size]? = some (.cells #[.slice a0 g.fl.length c0_0,.slice a1 g.fm.length c0_1] 32) from ze rfl)
 have HZ:=yq (show (w.alloc (.cells #[.slice a0 g.fl.length c0_0,.slice a1 g.fm.length c0_1] 32)).heap.size=w.heap.size+1 by simp)
 have HS0:=yq (fun (W:World) (hW:Below w.heap.size w W)=>hs0.later hW hhi)
 have HS1:=yq (fun (W:World) (hW:Below w.heap.size w W)=>hs1.later hW hhi)
 have HHI:=yq hhi
 have hnS:g.fl.length≤1048576:=by unfold DGrammar.sz lsz at hszg;omega
 have hnR:g.fm.length≤1048576:=by unfold DGrammar.sz lsz at hszg;omega
 have HSZS:=yq (fun i (hi':i < g.fl.length)=>Nat.le_trans (zab (f:=DSymbol.sz) g.fl i hi') (show lsz DSymbol.sz g.fl≤1048576 by unfold DGrammar.sz at hszg;omega))
 have HSZR:=yq (fun i (hi':i < g.fm.length)=>Nat.le_trans (zab (f:=DRule.sz) g.fm i hi') (show lsz DRule.sz g.fm≤1048576 by unfold DGrammar.sz at hszg;omega))
 have HOKS:=yq (fun i (hi':i < g.fl.length)=>okg.1.at hi')
 have HOKR:=yq (fun i (hi':i < g.fm.length)=>okg.2.at hi')
 have HNS:=yq (fun k (hk:k < g.fl.length)=>zrv g hk)
 have HNR:=yq (fun k (hk:k < g.fm.length)=>zra g hk)
 have HZS:=yq (fun k=>zvo hszg k)
 have HZR:=yq (fun k=>zt7 hszg k)
 have HLS:=yq (fun k=>show (zcd g k).length≤1048576 by unfold zcd;rw [List.length_map,List.length_take];omega)
 have HLR:=yq (fun k=>show (zce g k).length≤1048576 by unfold zce;rw [List.length_map,List.length_take];omega)
 have HES:=yq (fun k=>show zft g k = !(symV (g.fl.getD k default).fa (g.fl.getD k default).fu && !memB (g.fl.getD k default).fa (zcd g k)) from by unfold zft zkl zcd;rw [zwl])
 have HER:=yq (fun k=>show zhf g k = !(zfx (g.fm.getD k default) && !memB (g.fm.getD k default).fa (zce g k)) from by unfold zhf zlm zce;rw [zwg])
 have HO0:=yq (show ((w.alloc (.cells #[.slice a0 g.fl.length c0_0,.slice a1 g.fm.length c0_1] 32)).alloc (.cells #[] 9)).ownsRow (w.heap.size+1) 9 1 (.slice (some ⟨w.heap.size+1,0,none⟩) 0 0) (zcd g 0).length ((zcd g 0).flatMap vS) from by have h:=zc3 (w:=(w.alloc (.cells #[.slice a0 g.fl.length c0_0,.slice a1 g.fm.length c0_1] 32))) (e:=9) (n:=1) (vals:=vS);rw [HZ.out] at h;unfold zcd;rw [List.take_zero];exact h)
 have HRN:=yq (fun (W:World)=>show (W.alloc (.cells #[] 9)).ownsRow W.heap.size 9 1 (.slice (some ⟨W.heap.size,0,none⟩) 0 0) (zce g 0).length ((zce g 0).flatMap vS) from by unfold zce;rw [List.take_zero];exact zc3)
 obtain ⟨i0,hi',hz0,hz1,hz2⟩:=info_parts zu9;clear hs0 hs1 hhi okg hszg
 go_enter Tryz.func12,Tryz.ntmps12
 go_wp2;generalize (w.alloc (.cells #[.slice a0 g.fl.length c0_0,.slice a1 g.fm.length c0_1] 32))=w0 at *
 go_loopw [3,4] (fun v i wr=>∃ k:Nat,k≤g.fl.length∧i = .int .i64 (k:Int)∧zbo (zft g) k∧wr.ownsRow (w.heap.size+1) 9 1 v (zcd g k).length ((zcd g k).flatMap vS)∧Below (w.heap.size+1) w0 wr) (fun _ i _=>g.fl.length - (intOf i).toNat)
 case atStart=>exact ⟨0,Nat.zero_le _,rfl,zau _,HO0.out,(Below.refl _ _).alloc (Nat.le_of_eq HZ.out.symm) _⟩
 case round =>
  obtain ⟨k,hk,rfl,hno,hown,hb⟩:=hrel;have HN:=yq hno;have HO:=yq hown;have HBL:=yq hb
  have HBT:=yq (show Below w.heap.size w wr from HB.out.trans (hb.mono (Nat.le_succ _)))
  have hszr:w.heap.size+1≤wr.heap.size:=HZ.out ▸ hb.size
  have hzr:w.heap.size < wr.heap.size:=by omega
  have HGW:=yq ((hb.block w.heap.size (by omega)).trans HBG.out)
  have HLK:=yq (HLS.out k);have HZK:=yq (HZS.out k);clear hno hown hb;have g0:wr.cell? ⟨w.heap.size,0,none⟩=some (.slice a0 g.fl.length c0_0):=za HGW.out rfl
  by_cases hlt:k < g.fl.length
  ·have hkI:(0:Int)≤(k:Int)∧(k:Int) < (g.fl.length:Int):=by omega
   obtain ⟨rb,ro,rfl,_,hrb,hc⟩:=(HS0.out wr HBT.out).at k hlt;obtain ⟨b1,c1,hc0,hc1,hsa⟩:=DSymbol.open hc;have HIV:=yq (zgh (c0_0:=c1) (g.fl.getD k default) (HOKS.out k hlt) (HSZS.out k hlt) wr (Nat.le_trans HHI.out HBT.out.size) hsa);have HEK:=yq (HES.out k);have HNK:=yq (HNS.out k hlt)
   have HRB:=yq (show rb < wr.heap.size from Nat.lt_of_lt_of_le hrb (Nat.le_trans HHI.out HBT.out.size))
   have HC0:=yq hc0
   have HHAS:=yq (fun (s:ByteArray) (W:World) (hW:Below wr.heap.size wr W)=>zfw s (zcl HO.out hW) HLK.out HZK.out)
   clear hc hrb hsa HES HER HNS HNR;generalize symV (g.fl.getD k default).fa (g.fl.getD k default).fu=bv at *;generalize hnq:memB (g.fl.getD k default).fa (zcd g k)=bh at HEK;have HBH:=yq hnq;clear hnq;generalize g.fl.getD k default=s at *;generalize hnn:zcd g k=nms at *;clear hnn;have hll:=HLK.out;(go_wp2_with fail);refine HIV.out.mono ?_;rintro e w6 ⟨rfl,hb6⟩;have HB6:=yq hb6;have HB6L:=yq (HBL.out.trans (hb6.mono hszr));have HB6T:=yq (HBT.out.trans (hb6.mono HBT.out.size));have HO6:=yq (zcl HO.out hb6);have hsz6:w.heap.size+1≤w6.heap.size:=Nat.le_trans hszr hb6.size;have k0:w6.cell? ⟨w.heap.size,0,none⟩=some (.slice (some ⟨rb,ro,none⟩) g.fl.length c0_0):=(hb6.cell (p:=⟨w.heap.size,0,none⟩) hzr).trans g0;have s0:w6.cell? ⟨rb,ro+k * 2,none⟩=some (.string s.fa):=(hb6.cell (p:=⟨rb,ro+k * 2,none⟩) HRB.out).trans HC0.out;have HH6:=yq (HHAS.out s.fa w6 hb6);rw [HBH.out] at HH6;clear hb6 HIV g0 hc0 hc1 HHAS
   cases bv with
   | false =>
    have FIN:=yq (show zft g k=true from HEK.out)
    go_wp2;go_ret;exact ⟨⟨_,rfl,.inl ⟨k,rfl,hlt,HN.out,FIN.out⟩⟩,HB6T.out⟩
   | true =>
    (go_wp2_with fail);refine HH6.out.mono ?_;rintro e w7 ⟨rfl,rfl⟩
    cases bh with
    | true =>
     have FIN:=yq (show zft g k=true from HEK.out)
     go_wp2;go_ret;exact ⟨⟨_,rfl,.inl ⟨k,rfl,hlt,HN.out,FIN.out⟩⟩,HB6T.out⟩
    | false =>
     have HN1:=yq (zap HN.out HEK.out)
     go_wp2_with (at_builtin;refine zp rfl (.tmp 32) (.tmp 39) 46 rfl (w.heap.size+1) 9 i0 (.string ⟨#[]⟩) 1 16 Tryz.underlying46 hi' hz0 hz1 hz2 rfl (by decide) _ _ _ rfl (zl HO6.out ((Below.refl _ _).alloc (Nat.le_refl _) _)) ⟨w6.heap.size,0,none⟩ 1 1 [.string s.fa] rfl rfl zgv (by intro u hu;simp at hu;subst hu;rfl) yl (by omega) ye ?_;intro v' w2 hown' hgrow hat)
     have HOS:=yq (zbs (x:=s.fa) (vals:=vS) hown' rfl)
     have HBS:=yq ((HB6L.out.alloc hsz6 _).grown hgrow ye (fun z hz=>(HO6.out.lt z hz).1))
     clear hown' hgrow hat;go_wp2;go_roundw
     case rel=>exact ⟨k+1,by omega,by go_num,HN1.out,by rw [HNK.out];exact HOS.out,HBS.out⟩
     case measure=>simp [intOf];omega
  ·obtain rfl:k=g.fl.length:=by omega
   have HNALL:=HN;have hszr2:=hszr;clear HN HO HLK HZK HNS HLS HZS HES HSZS HOKS;have HW:=yq (HRN.out wr);have HBX:=HBT;have HGX:=HGW;clear HBT HBL HGW;go_wp2;clear g0;generalize wr=wa at *
   go_loopw [3,5] (fun v i wr=>∃ k:Nat,k≤g.fm.length∧i = .int .i64 (k:Int)∧zbo (zhf g) k∧wr.ownsRow (wa.heap.size) 9 1 v (zce g k).length ((zce g k).flatMap vS)∧Below (wa.heap.size) wa wr) (fun _ i _=>g.fm.length - (intOf i).toNat)
   case atStart=>exact ⟨0,Nat.zero_le _,rfl,zau _,HW.out,(Below.refl _ _).alloc (Nat.le_refl _) _⟩
   case round =>
    obtain ⟨k,hk,rfl,hno,hown,hb⟩:=hrel;have HN:=yq hno;have HO:=yq hown;have HBL:=yq hb
    have HBT:=yq (show Below w.heap.size w wr from HBX.out.trans (hb.mono (by omega)))
    have hszr:wa.heap.size≤wr.heap.size:=hb.size
    have hzr:w.heap.size < wr.heap.size:=by omega
    have HGW:=yq ((hb.block w.heap.size (by omega)).trans HGX.out)
    have HLK:=yq (HLR.out k);have HZK:=yq (HZR.out k);clear hno hown hb;have g0:wr.cell? ⟨w.heap.size,1,none⟩=some (.slice a1 g.fm.length c0_1):=za HGW.out rfl
    by_cases hlt:k < g.fm.length
    ·have hkI:(0:Int)≤(k:Int)∧(k:Int) < (g.fm.length:Int):=by omega
     obtain ⟨rb,ro,rfl,_,hrb,hc⟩:=(HS1.out wr HBT.out).at k hlt;obtain ⟨b2,c1_0,b4,c1_1,b5,c1_2,hc0,hc1,hc2,hc3,hc4,hc5,hsa,hsb,hsc⟩:=DRule.open hc;have HIV:=yq (zjo (c0_0:=c1_0) (c0_1:=c1_1) (c0_2:=c1_2) (g.fm.getD k default) (HOKR.out k hlt) (HSZR.out k hlt) wr (Nat.le_trans HHI.out HBT.out.size) hsa hsb hsc);have HEK:=yq (HER.out k);have HNK:=yq (HNR.out k hlt)
     have HRB:=yq (show rb < wr.heap.size from Nat.lt_of_lt_of_le hrb (Nat.le_trans HHI.out HBT.out.size))
     have HC0:=yq hc0
     have HHAS:=yq (fun (s:ByteArray) (W:World) (hW:Below wr.heap.size wr W)=>zfw s (zcl HO.out hW) HLK.out HZK.out)
     clear hc hrb hsa hsb hsc HER HNR;generalize zfx (g.fm.getD k default)=bv at *;generalize hnq:memB (g.fm.getD k default).fa (zce g k)=bh at HEK;have HBH:=yq hnq;clear hnq;generalize g.fm.getD k default=s at *;generalize hnn:zce g k=nms at *;clear hnn;have hll:=HLK.out;(go_wp2_with fail);refine HIV.out.mono ?_;rintro e w6 ⟨rfl,hb6⟩;have HB6:=yq hb6;have HB6L:=yq (HBL.out.trans (hb6.mono hszr));have HB6T:=yq (HBT.out.trans (hb6.mono HBT.out.size));have HO6:=yq (zcl HO.out hb6);have hsz6:wa.heap.size≤w6.heap.size:=Nat.le_trans hszr hb6.size;have k0:w6.cell? ⟨w.heap.size,1,none⟩=some (.slice (some ⟨rb,ro,none⟩) g.fm.length c0_1):=(hb6.cell (p:=⟨w.heap.size,1,none⟩) hzr).trans g0;have s0:w6.cell? ⟨rb,ro+k * 6,none⟩=some (.string s.fa):=(hb6.cell (p:=⟨rb,ro+k * 6,none⟩) HRB.out).trans HC0.out;have HH6:=yq (HHAS.out s.fa w6 hb6);rw [HBH.out] at HH6;clear hb6 HIV g0 hc0 hc1 hc2 hc3 hc4 hc5 HHAS
     cases bv with
     | false =>
      have FIN:=yq (show zhf g k=true from HEK.out)
      go_wp2;go_ret;exact ⟨⟨_,rfl,.inr (.inl ⟨HNALL.out,k,rfl,hlt,HN.out,FIN.out⟩)⟩,HB6T.out⟩
     | true =>
      (go_wp2_with fail);refine HH6.out.mono ?_;rintro e w7 ⟨rfl,rfl⟩
      cases bh with
      | true =>
       have FIN:=yq (show zhf g k=true from HEK.out)
       go_wp2;go_ret;exact ⟨⟨_,rfl,.inr (.inl ⟨HNALL.out,k,rfl,hlt,HN.out,FIN.out⟩)⟩,HB6T.out⟩
      | false =>
       have HN1:=yq (zap HN.out HEK.out)
       go_wp2_with (at_builtin;refine zp rfl (.tmp 67) (.tmp 74) 46 rfl (wa.heap.size) 9 i0 (.string ⟨#[]⟩) 1 16 Tryz.underlying46 hi' hz0 hz1 hz2 rfl (by decide) _ _ _ rfl (zl HO6.out ((Below.refl _ _).alloc (Nat.le_refl _) _)) ⟨w6.heap.size,0,none⟩ 1 1 [.string s.fa] rfl rfl zgv (by intro u hu;simp at hu;subst hu;rfl) yl (by omega) ye ?_;intro v' w2 hown' hgrow hat)
       have HOS:=yq (zbs (x:=s.fa) (vals:=vS) hown' rfl)
       have HBS:=yq ((HB6L.out.alloc hsz6 _).grown hgrow ye (fun z hz=>(HO6.out.lt z hz).1))
       clear hown' hgrow hat;go_wp2;go_roundw
       case rel=>exact ⟨k+1,by omega,by go_num,HN1.out,by rw [HNK.out];exact HOS.out,HBS.out⟩
       case measure=>simp [intOf];omega
    ·obtain rfl:k=g.fm.length:=by omega
     go_wp2;go_ret;exact ⟨⟨_,rfl,.inr (.inr ⟨rfl,HNALL.out,HN.out⟩)⟩,HBT.out⟩
theorem zqh {w:World} {cs:List Value} {t:TypeId} {g:Nat} (hg:g=w.heap.size) : ∀ j u,cs[j]? = some u→(w.alloc (.cells cs.toArray t)).cell? ((⟨g,0,Option.none⟩:Addr).add j)=some u:=by
 subst hg;exact zgv
theorem zgd {hi:Nat} {b2 b4 b5:Option Addr} {c1_0 c1_1 c1_2:Nat} (x:DRule) (hszx:x.sz≤1048576) (w:World) (hhi:hi≤w.heap.size) (hs4:Sf 0 hi w 9 x.fg.length (fun k=>DEquation.ct (x.fg.getD k default)) b4) (hs5:Sf 0 hi w 16 x.fo.length (fun k=>DContribution.ct (x.fo.getD k default)) b5) :
  Calls Tryz.prog 53 #[.agg #[.string x.fa,.string x.fp,.slice b2 x.fj.length c1_0,.bool x.fq,.slice b4 x.fg.length c1_1,.slice b5 x.fo.length c1_2]] w fun e w'=>∃ a c,e = .returned (.slice a (zao x).length c)∧Sf 0 w'.heap.size w' 7 (zao x).length (ctE (zao x)) a∧Below w.heap.size w w':=by
 have HB:=yq (show Below w.heap.size w (w.alloc (.cells #[.string x.fa,.string x.fp,.slice b2 x.fj.length c1_0,.bool x.fq,.slice b4 x.fg.length c1_1,.slice b5 x.fo.length c1_2] 50)) from (Below.refl _ _).alloc (Nat.le_refl _) _)
 have HBR:=yq (show (w.alloc (.cells #[.string x.fa,.string x.fp,.slice b2 x.fj.length c1_0,.bool x.fq,.slice b4 x.fg.length c1_1,.slice b5 x.fo.length c1_2] 50)).heap[w.heap.size]? = some (.cells #[.string x.fa,.string x.fp,.slice b2 x.fj.length c1_0,.bool x.fq,.slice b4 x.fg.length c1_1,.slice b5 x.fo.length c1_2] 50) from ze rfl)
 have HZ:=yq (show (w.alloc (.cells #[.string x.fa,.string x.fp,.slice b2 x.fj.length c1_0,.bool x.fq,.slice b4 x.fg.length c1_1,.slice b5 x.fo.length c1_2] 50)).heap.size=w.heap.size+1 by simp)
 have HS4:=yq hs4;have HS5:=yq hs5;have HHI:=yq hhi
 have hne:x.fg.length≤1048576:=by unfold DRule.sz lsz at hszx;omega
 have hnc:x.fo.length≤1048576:=by unfold DRule.sz lsz at hszx;omega
 have HQS:=yq (fun k (hk:k < x.fg.length)=>zrr x hk)
 have HCS:=yq (fun k (hk:k < x.fo.length)=>zrn x hk)
 have HC0:=yq (zrm x)
 have HQL:=yq (fun k=>ztc x k)
 have HCL:=yq (fun k=>zm5 x k)
 have HRES:=yq (show zao x=zcc x x.fo.length from rfl)
 obtain ⟨i0,hi',hz0,hz1,hz2⟩:=info_parts zk3;clear hs4 hs5 hhi hszx;rw [HRES.out]
 go_enter Tryz.func53,Tryz.ntmps53
 go_wp2;generalize (w.alloc (.cells #[.string x.fa,.string x.fp,.slice b2 x.fj.length c1_0,.bool x.fq,.slice b4 x.fg.length c1_1,.slice b5 x.fo.length c1_2] 50))=w0 at *
 go_loopw [3,11] (fun v i wr=>∃ (k:Nat) (m:List EA),k≤x.fg.length∧i = .int .i64 (k:Int)∧m.map (·.1)=ziw x k∧zqk hi w m∧wr.ownsRow (w.heap.size+1) 90 7 v m.length (m.flatMap vEA)∧Below (w.heap.size+1) w0 wr) (fun _ i _=>x.fg.length - (intOf i).toNat)
 case atStart=>exact ⟨0,[],Nat.zero_le _,rfl,rfl,zvn,zg7,Below.refl _ _⟩
 case round =>
  obtain ⟨k,m,hk,rfl,hmap,hsf,hown,hb⟩:=hrel
  have hml:m.length≤1048576:=by have h1:=congrArg List.length hmap;rw [List.length_map] at h1;have h2:=HQL.out k;omega
  have HMAP:=yq hmap;have HSFT:=yq hsf;have HO:=yq hown;have HBL:=yq hb;have hszr:w.heap.size+1≤wr.heap.size:=HZ.out ▸ hb.size
  have HBT:=yq (show Below w.heap.size w wr from HB.out.trans (hb.mono (Nat.le_succ _)))
  have HRW:=yq ((hb.block w.heap.size (Nat.lt_succ_self _)).trans HBR.out);clear hmap hsf hown hb
  by_cases hlt:k < x.fg.length
  ·have hkI:(0:Int)≤(k:Int)∧(k:Int) < (x.fg.length:Int):=by omega
   obtain ⟨rb,ro,rfl,_,hrb,_,hc⟩:=HS4.out.at k hlt;obtain ⟨a8,c8,hc0,hc1,hc2,hc3,hc4,hc5,hc6,hc7,hc8,hs8⟩:=DEquation.openS hc;have HQK:=yq (HQS.out k hlt);have HS8:=yq hs8;have hrbl:rb < w.heap.size:=Nat.lt_of_lt_of_le hrb HHI.out
   replace hc0:=(HBT.out.cell (p:=⟨rb,ro+k * 9,none⟩) hrbl).trans hc0
   replace hc1:=(HBT.out.cell (p:=⟨rb,ro+k * 9+1,none⟩) hrbl).trans hc1
   replace hc2:=(HBT.out.cell (p:=⟨rb,ro+k * 9+2,none⟩) hrbl).trans hc2
   replace hc3:=(HBT.out.cell (p:=⟨rb,ro+k * 9+3,none⟩) hrbl).trans hc3
   replace hc4:=(HBT.out.cell (p:=⟨rb,ro+k * 9+4,none⟩) hrbl).trans hc4
   replace hc5:=(HBT.out.cell (p:=⟨rb,ro+k * 9+5,none⟩) hrbl).trans hc5
   replace hc6:=(HBT.out.cell (p:=⟨rb,ro+k * 9+6,none⟩) hrbl).trans hc6
   replace hc7:=(HBT.out.cell (p:=⟨rb,ro+k * 9+7,none⟩) hrbl).trans hc7
   replace hc8:=(HBT.out.cell (p:=⟨rb,ro+k * 9+8,none⟩) hrbl).trans hc8
   clear hc hs8;generalize x.fg.getD k default=q at *;have e2:(wr.alloc (.cells #[.int .i64 q.fAt.fb,.string q.fAt.fa,.int .i64 q.fi.fh,.int .i64 q.fi.fN,.int .i64 q.fi.fb,.int .i64 q.fi.fk,.string q.fi.fd,.string q.fi.fa,.slice a8 q.fi.fc.length c8] 95)).cell? ⟨wr.heap.size,2,none⟩=some (.int .i64 q.fi.fh):=za (ze rfl) rfl;have e3:(wr.alloc (.cells #[.int .i64 q.fAt.fb,.string q.fAt.fa,.int .i64 q.fi.fh,.int .i64 q.fi.fN,.int .i64 q.fi.fb,.int .i64 q.fi.fk,.string q.fi.fd,.string q.fi.fa,.slice a8 q.fi.fc.length c8] 95)).cell? ⟨wr.heap.size,3,none⟩=some (.int .i64 q.fi.fN):=za (ze rfl) rfl;have e4:(wr.alloc (.cells #[.int .i64 q.fAt.fb,.string q.fAt.fa,.int .i64 q.fi.fh,.int .i64 q.fi.fN,.int .i64 q.fi.fb,.int .i64 q.fi.fk,.string q.fi.fd,.string q.fi.fa,.slice a8 q.fi.fc.length c8] 95)).cell? ⟨wr.heap.size,4,none⟩=some (.int .i64 q.fi.fb):=za (ze rfl) rfl;have e5:(wr.alloc (.cells #[.int .i64 q.fAt.fb,.string q.fAt.fa,.int .i64 q.fi.fh,.int .i64 q.fi.fN,.int .i64 q.fi.fb,.int .i64 q.fi.fk,.string q.fi.fd,.string q.fi.fa,.slice a8 q.fi.fc.length c8] 95)).cell? ⟨wr.heap.size,5,none⟩=some (.int .i64 q.fi.fk):=za (ze rfl) rfl;have e6:(wr.alloc (.cells #[.int .i64 q.fAt.fb,.string q.fAt.fa,.int .i64 q.fi.fh,.int .i64 q.fi.fN,.int .i64 q.fi.fb,.int .i64 q.fi.fk,.string q.fi.fd,.string q.fi.fa,.slice a8 q.fi.fc.length c8] 95)).cell? ⟨wr.heap.size,6,none⟩=some (.string q.fi.fd):=za (ze rfl) rfl;have e7:(wr.alloc (.cells #[.int .i64 q.fAt.fb,.string q.fAt.fa,.int .i64 q.fi.fh,.int .i64 q.fi.fN,.int .i64 q.fi.fb,.int .i64 q.fi.fk,.string q.fi.fd,.string q.fi.fa,.slice a8 q.fi.fc.length c8] 95)).cell? ⟨wr.heap.size,7,none⟩=some (.string q.fi.fa):=za (ze rfl) rfl;have e8:(wr.alloc (.cells #[.int .i64 q.fAt.fb,.string q.fAt.fa,.int .i64 q.fi.fh,.int .i64 q.fi.fN,.int .i64 q.fi.fb,.int .i64 q.fi.fk,.string q.fi.fd,.string q.fi.fa,.slice a8 q.fi.fc.length c8] 95)).cell? ⟨wr.heap.size,8,none⟩=some (.slice a8 q.fi.fc.length c8):=za (ze rfl) rfl
   go_wp2_with (first|(at_builtin;refine zp rfl (.tmp 15) (.tmp 18) 88 rfl (w.heap.size+1) 90 i0 (.agg #[.int .i64 0,.int .i64 0,.int .i64 0,.int .i64 0,.string ⟨#[]⟩,.string ⟨#[]⟩,.slice none 0 0]) 7 88 Tryz.underlying88 hi' hz0 hz1 hz2 rfl (by decide) _ _ _ rfl (zl HO.out (((Below.refl _ _).alloc (Nat.le_refl _) _).alloc (by simp) _)) ⟨wr.heap.size+1,0,none⟩ 1 1 [.int .i64 q.fi.fh,.int .i64 q.fi.fN,.int .i64 q.fi.fb,.int .i64 q.fi.fk,.string q.fi.fd,.string q.fi.fa,.slice a8 q.fi.fc.length c8] rfl rfl (zqh (by simp)) (by intro u hu;simp at hu;rcases hu with rfl|rfl|rfl|rfl|rfl|rfl|rfl<;>rfl) yl (by omega) ye ?_;intro v' w2 hown' hgrow hat)|(refine wpList_store_rowTo rfl 95 (.tmp 5) (.tmp 14) rfl rfl wr.heap.size _ rfl rfl 95 _ (ze rfl) (by kernel_rfl) rfl (by simp [Value.oneCell']) ?_;rw [zbc rfl]))
   have HOS:=yq (zbs (x:=(q.fi,a8,c8)) hown' rfl)
   have HBS:=yq (((HBL.out.alloc hszr _).alloc ye _).grown hgrow ye (fun z hz=>(HO.out.lt z hz).1))
   clear hown' hgrow hat;go_wp2;go_roundw
   case rel=>exact ⟨k+1,_,by omega,by go_num,by rw [List.map_append,HMAP.out,HQK.out];rfl,HSFT.out.snoc HS8.out,HOS.out,HBS.out⟩
   case measure=>simp [intOf];omega
  ·obtain rfl:k=x.fg.length:=by omega
   have HM0:=yq (HMAP.out.trans HC0.out);have r5:wr.cell? ⟨w.heap.size,5,none⟩=some (.slice b5 x.fo.length c1_2):=za HRW.out rfl;go_wp2;clear r5 hml hszr HMAP HBT HRW;generalize wr=wa at *
   go_loopw [3,24] (fun v i wr=>∃ (k:Nat) (m:List EA),k≤x.fo.length∧i = .int .i64 (k:Int)∧m.map (·.1)=zcc x k∧zqk hi w m∧wr.ownsRow (w.heap.size+1) 90 7 v m.length (m.flatMap vEA)∧Below (w.heap.size+1) wa wr) (fun _ i _=>x.fo.length - (intOf i).toNat)
   case atStart=>exact ⟨0,m,Nat.zero_le _,rfl,HM0.out,HSFT.out,HO.out,Below.refl _ _⟩
   case round =>
    clear HO HSFT HM0;obtain ⟨k,m,hk,rfl,hmap,hsf,hown,hb⟩:=hrel
    have hml:m.length≤4194304:=by have h1:=congrArg List.length hmap;rw [List.length_map] at h1;have h2:=HCL.out k;omega
    have HMAP:=yq hmap;have HSFT:=yq hsf;have HO:=yq hown;have hszr:w.heap.size+1≤wr.heap.size:=Nat.le_trans (HZ.out ▸ HBL.out.size) hb.size;have HBW:=yq hb
    have HBT:=yq (show Below w.heap.size w wr from HB.out.trans ((HBL.out.trans hb).mono (Nat.le_succ _)))
    clear hmap hsf hown hb
    by_cases hlt:k < x.fo.length
    ·have hkI:(0:Int)≤(k:Int)∧(k:Int) < (x.fo.length:Int):=by omega
     obtain ⟨rb,ro,rfl,_,hrb,_,hc⟩:=HS5.out.at k hlt;obtain ⟨a8,c8,a15,c15,hc0,hc1,hc2,hc3,hc4,hc5,hc6,hc7,hc8,hc9,hc10,hc11,hc12,hc13,hc14,hc15,hs8,hs15⟩:=DContribution.openS hc;have HQK:=yq (HCS.out k hlt);have HS8:=yq hs8;have HS15:=yq hs15;have hrbl:rb < w.heap.size:=Nat.lt_of_lt_of_le hrb HHI.out
     replace hc0:=(HBT.out.cell (p:=⟨rb,ro+k * 16,none⟩) hrbl).trans hc0
     replace hc1:=(HBT.out.cell (p:=⟨rb,ro+k * 16+1,none⟩) hrbl).trans hc1
     replace hc2:=(HBT.out.cell (p:=⟨rb,ro+k * 16+2,none⟩) hrbl).trans hc2
     replace hc3:=(HBT.out.cell (p:=⟨rb,ro+k * 16+3,none⟩) hrbl).trans hc3
     replace hc4:=(HBT.out.cell (p:=⟨rb,ro+k * 16+4,none⟩) hrbl).trans hc4
     replace hc5:=(HBT.out.cell (p:=⟨rb,ro+k * 16+5,none⟩) hrbl).trans hc5
     replace hc6:=(HBT.out.cell (p:=⟨rb,ro+k * 16+6,none⟩) hrbl).trans hc6
     replace hc7:=(HBT.out.cell (p:=⟨rb,ro+k * 16+7,none⟩) hrbl).trans hc7
     replace hc8:=(HBT.out.cell (p:=⟨rb,ro+k * 16+8,none⟩) hrbl).trans hc8
     replace hc9:=(HBT.out.cell (p:=⟨rb,ro+k * 16+9,none⟩) hrbl).trans hc9
     replace hc10:=(HBT.out.cell (p:=⟨rb,ro+k * 16+10,none⟩) hrbl).trans hc10
     replace hc11:=(HBT.out.cell (p:=⟨rb,ro+k * 16+11,none⟩) hrbl).trans hc11
     replace hc12:=(HBT.out.cell (p:=⟨rb,ro+k * 16+12,none⟩) hrbl).trans hc12
     replace hc13:=(HBT.out.cell (p:=⟨rb,ro+k * 16+13,none⟩) hrbl).trans hc13
     replace hc14:=(HBT.out.cell (p:=⟨rb,ro+k * 16+14,none⟩) hrbl).trans hc14
     replace hc15:=(HBT.out.cell (p:=⟨rb,ro+k * 16+15,none⟩) hrbl).trans hc15
     clear hc hs8 hs15;generalize x.fo.getD k default=q at *;have e2:(wr.alloc (.cells #[.string q.fd,.string q.fa,.int .i64 q.fe.fh,.int .i64 q.fe.fN,.int .i64 q.fe.fb,.int .i64 q.fe.fk,.string q.fe.fd,.string q.fe.fa,.slice a8 q.fe.fc.length c8,.int .i64 q.ff.fh,.int .i64 q.ff.fN,.int .i64 q.ff.fb,.int .i64 q.ff.fk,.string q.ff.fd,.string q.ff.fa,.slice a15 q.ff.fc.length c15] 110)).cell? ⟨wr.heap.size,2,none⟩=some (.int .i64 q.fe.fh):=za (ze rfl) rfl;have e3:(wr.alloc (.cells #[.string q.fd,.string q.fa,.int .i64 q.fe.fh,.int .i64 q.fe.fN,.int .i64 q.fe.fb,.int .i64 q.fe.fk,.string q.fe.fd,.string q.fe.fa,.slice a8 q.fe.fc.length c8,.int .i64 q.ff.fh,.int .i64 q.ff.fN,.int .i64 q.ff.fb,.int .i64 q.ff.fk,.string q.ff.fd,.string q.ff.fa,.slice a15 q.ff.fc.length c15] 110)).cell? ⟨wr.heap.size,3,none⟩=some (.int .i64 q.fe.fN):=za (ze rfl) rfl;have e4:(wr.alloc (.cells #[.string q.fd,.string q.fa,.int .i64 q.fe.fh,.int .i64 q.fe.fN,.int .i64 q.fe.fb,.int .i64 q.fe.fk,.string q.fe.fd,.string q.fe.fa,.slice a8 q.fe.fc.length c8,.int .i64 q.ff.fh,.int .i64 q.ff.fN,.int .i64 q.ff.fb,.int .i64 q.ff.fk,.string q.ff.fd,.string q.ff.fa,.slice a15 q.ff.fc.length c15] 110)).cell? ⟨wr.heap.size,4,none⟩=some (.int .i64 q.fe.fb):=za (ze rfl) rfl;have e5:(wr.alloc (.cells #[.string q.fd,.string q.fa,.int .i64 q.fe.fh,.int .i64 q.fe.fN,.int .i64 q.fe.fb,.int .i64 q.fe.fk,.string q.fe.fd,.string q.fe.fa,.slice a8 q.fe.fc.length c8,.int .i64 q.ff.fh,.int .i64 q.ff.fN,.int .i64 q.ff.fb,.int .i64 q.ff.fk,.string q.ff.fd,.string q.ff.fa,.slice a15 q.ff.fc.length c15] 110)).cell? ⟨wr.heap.size,5,none⟩=some (.int .i64 q.fe.fk):=za (ze rfl) rfl;have e6:(wr.alloc (.cells #[.string q.fd,.string q.fa,.int .i64 q.fe.fh,.int .i64 q.fe.fN,.int .i64 q.fe.fb,.int .i64 q.fe.fk,.string q.fe.fd,.string q.fe.fa,.slice a8 q.fe.fc.length c8,.int .i64 q.ff.fh,.int .i64 q.ff.fN,.int .i64 q.ff.fb,.int .i64 q.ff.fk,.string q.ff.fd,.string q.ff.fa,.slice a15 q.ff.fc.length c15] 110)).cell? ⟨wr.heap.size,6,none⟩=some (.string q.fe.fd):=za (ze rfl) rfl
     have e7:(wr.alloc (.cells #[.string q.fd,.string q.fa,.int .i64 q.fe.fh,.int .i64 q.fe.fN,.int .i64 q.fe.fb,.int .i64 q.fe.fk,.string q.fe.fd,.string q.fe.fa,.slice a8 q.fe.fc.length c8,.int .i64 q.ff.fh,.int .i64 q.ff.fN,.int .i64 q.ff.fb,.int .i64 q.ff.fk,.string q.ff.fd,.string q.ff.fa,.slice a15 q.ff.fc.length c15] 110)).cell? ⟨wr.heap.size,7,none⟩=some (.string q.fe.fa):=za (ze rfl) rfl;have e8:(wr.alloc (.cells #[.string q.fd,.string q.fa,.int .i64 q.fe.fh,.int .i64 q.fe.fN,.int .i64 q.fe.fb,.int .i64 q.fe.fk,.string q.fe.fd,.string q.fe.fa,.slice a8 q.fe.fc.length c8,.int .i64 q.ff.fh,.int .i64 q.ff.fN,.int .i64 q.ff.fb,.int .i64 q.ff.fk,.string q.ff.fd,.string q.ff.fa,.slice a15 q.ff.fc.length c15] 110)).cell? ⟨wr.heap.size,8,none⟩=some (.slice a8 q.fe.fc.length c8):=za (ze rfl) rfl;have e9:(wr.alloc (.cells #[.string q.fd,.string q.fa,.int .i64 q.fe.fh,.int .i64 q.fe.fN,.int .i64 q.fe.fb,.int .i64 q.fe.fk,.string q.fe.fd,.string q.fe.fa,.slice a8 q.fe.fc.length c8,.int .i64 q.ff.fh,.int .i64 q.ff.fN,.int .i64 q.ff.fb,.int .i64 q.ff.fk,.string q.ff.fd,.string q.ff.fa,.slice a15 q.ff.fc.length c15] 110)).cell? ⟨wr.heap.size,9,none⟩=some (.int .i64 q.ff.fh):=za (ze rfl) rfl;have e10:(wr.alloc (.cells #[.string q.fd,.string q.fa,.int .i64 q.fe.fh,.int .i64 q.fe.fN,.int .i64 q.fe.fb,.int .i64 q.fe.fk,.string q.fe.fd,.string q.fe.fa,.slice a8 q.fe.fc.length c8,.int .i64 q.ff.fh,.int .i64 q.ff.fN,.int .i64 q.ff.fb,.int .i64 q.ff.fk,.string q.ff.fd,.string q.ff.fa,.slice a15 q.ff.fc.length c15] 110)).cell? ⟨wr.heap.size,10,none⟩=some (.int .i64 q.ff.fN):=za (ze rfl) rfl;have e11:(wr.alloc (.cells #[.string q.fd,.string q.fa,.int .i64 q.fe.fh,.int .i64 q.fe.fN,.int .i64 q.fe.fb,.int .i64 q.fe.fk,.string q.fe.fd,.string q.fe.fa,.slice a8 q.fe.fc.length c8,.int .i64 q.ff.fh,.int .i64 q.ff.fN,.int .i64 q.ff.fb,.int .i64 q.ff.fk,.string q.ff.fd,.string q.ff.fa,.slice a15 q.ff.fc.length c15] 110)).cell? ⟨wr.heap.size,11,none⟩=some (.int .i64 q.ff.fb):=za (ze rfl) rfl
     have e12:(wr.alloc (.cells #[.string q.fd,.string q.fa,.int .i64 q.fe.fh,.int .i64 q.fe.fN,.int .i64 q.fe.fb,.int .i64 q.fe.fk,.string q.fe.fd,.string q.fe.fa,.slice a8 q.fe.fc.length c8,.int .i64 q.ff.fh,.int .i64 q.ff.fN,.int .i64 q.ff.fb,.int .i64 q.ff.fk,.string q.ff.fd,.string q.ff.fa,.slice a15 q.ff.fc.length c15] 110)).cell? ⟨wr.heap.size,12,none⟩=some (.int .i64 q.ff.fk):=za (ze rfl) rfl;have e13:(wr.alloc (.cells #[.string q.fd,.string q.fa,.int .i64 q.fe.fh,.int .i64 q.fe.fN,.int .i64 q.fe.fb,.int .i64 q.fe.fk,.string q.fe.fd,.string q.fe.fa,.slice a8 q.fe.fc.length c8,.int .i64 q.ff.fh,.int .i64 q.ff.fN,.int .i64 q.ff.fb,.int .i64 q.ff.fk,.string q.ff.fd,.string q.ff.fa,.slice a15 q.ff.fc.length c15] 110)).cell? ⟨wr.heap.size,13,none⟩=some (.string q.ff.fd):=za (ze rfl) rfl;have e14:(wr.alloc (.cells #[.string q.fd,.string q.fa,.int .i64 q.fe.fh,.int .i64 q.fe.fN,.int .i64 q.fe.fb,.int .i64 q.fe.fk,.string q.fe.fd,.string q.fe.fa,.slice a8 q.fe.fc.length c8,.int .i64 q.ff.fh,.int .i64 q.ff.fN,.int .i64 q.ff.fb,.int .i64 q.ff.fk,.string q.ff.fd,.string q.ff.fa,.slice a15 q.ff.fc.length c15] 110)).cell? ⟨wr.heap.size,14,none⟩=some (.string q.ff.fa):=za (ze rfl) rfl;have e15:(wr.alloc (.cells #[.string q.fd,.string q.fa,.int .i64 q.fe.fh,.int .i64 q.fe.fN,.int .i64 q.fe.fb,.int .i64 q.fe.fk,.string q.fe.fd,.string q.fe.fa,.slice a8 q.fe.fc.length c8,.int .i64 q.ff.fh,.int .i64 q.ff.fN,.int .i64 q.ff.fb,.int .i64 q.ff.fk,.string q.ff.fd,.string q.ff.fa,.slice a15 q.ff.fc.length c15] 110)).cell? ⟨wr.heap.size,15,none⟩=some (.slice a15 q.ff.fc.length c15):=za (ze rfl) rfl
     go_wp2_with (first|(at_builtin;refine zp rfl (.tmp 28) (.tmp 33) 88 rfl (w.heap.size+1) 90 i0 (.agg #[.int .i64 0,.int .i64 0,.int .i64 0,.int .i64 0,.string ⟨#[]⟩,.string ⟨#[]⟩,.slice none 0 0]) 7 88 Tryz.underlying88 hi' hz0 hz1 hz2 rfl (by decide) _ _ _ rfl (zl HO.out (((Below.refl _ _).alloc (Nat.le_refl _) _).alloc (by simp) _)) ⟨wr.heap.size+1,0,none⟩ 2 2 [.int .i64 q.fe.fh,.int .i64 q.fe.fN,.int .i64 q.fe.fb,.int .i64 q.fe.fk,.string q.fe.fd,.string q.fe.fa,.slice a8 q.fe.fc.length c8,.int .i64 q.ff.fh,.int .i64 q.ff.fN,.int .i64 q.ff.fb,.int .i64 q.ff.fk,.string q.ff.fd,.string q.ff.fa,.slice a15 q.ff.fc.length c15] rfl rfl (zqh (by simp)) (by intro u hu;simp at hu;rcases hu with rfl|rfl|rfl|rfl|rfl|rfl|rfl|rfl|rfl|rfl|rfl|rfl|rfl|rfl<;>rfl) yl (by omega) ye ?_;intro v' w2 hown' hgrow hat)|(refine wpList_store_rowTo rfl 110 (.tmp 7) (.tmp 27) rfl rfl wr.heap.size _ rfl rfl 110 _ (ze rfl) (by kernel_rfl) rfl (by simp [Value.oneCell']) ?_;rw [zbc rfl]))
     have HOS:=yq (ztm (x:=(q.fe,a8,c8)) (y:=(q.ff,a15,c15)) hown' rfl)
     have HBS:=yq (((HBW.out.alloc (Nat.le_trans (HZ.out ▸ HBL.out.size) HBW.out.size) _).alloc ye _).grown hgrow ye (fun z hz=>(HO.out.lt z hz).1))
     clear hown' hgrow hat;go_wp2;go_roundw
     case rel=>exact ⟨k+1,_,by omega,by go_num,by rw [List.map_append,List.map_append,HMAP.out,HQK.out,List.append_assoc];rfl,(HSFT.out.snoc HS8.out).snoc HS15.out,HOS.out,HBS.out⟩
     case measure=>simp [intOf];omega
    ·obtain rfl:k=x.fo.length:=by omega
     have HSF2:=yq (show zqk hi wr m from fun p hp=>(HSFT.out p hp).later HBT.out HHI.out)
     obtain ⟨a,c,rfl,hsl⟩:=zta HO.out HSF2.out (Nat.le_trans HHI.out HBT.out.size)
     have HFIN:=yq (show ∃ a' c',Value.slice a m.length c = .slice a' (zcc x x.fo.length).length c'∧Sf 0 wr.heap.size wr 7 (zcc x x.fo.length).length (ctE (zcc x x.fo.length)) a' from by
      rw [← HMAP.out,List.length_map]
      exact ⟨a,c,rfl,hsl⟩)
     clear hsl;go_wp2;go_ret;obtain ⟨a',c',h1,h2⟩:=HFIN.out;exact ⟨a',c',congrArg Ending.returned h1,h2,HBT.out⟩
end Go.Proofs.YtmbaajangkmjdaaGreat
