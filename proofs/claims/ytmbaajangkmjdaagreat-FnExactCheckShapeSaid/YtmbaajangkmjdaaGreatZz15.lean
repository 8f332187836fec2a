/-
  The checks of CheckShape in the program: a rule's symbols.
  l11Symbols of the model.
  The occurrences of a rule: what OccurrencesOf and RequiredOccurrences list.
  RequiredOccurrences of the model and of the program.
-/
import Derived.Test.YtmbaajangkmjdaaGreatZz11
import Derived.Test.YtmbaajangkmjdaaGreatZShapeP
import Derived.Test.YtmbaajangkmjdaaGreatZz10
set_option maxHeartbeats 12800000
set_option maxRecDepth 100000
namespace Go.Proofs.YtmbaajangkmjdaaGreat
open Go.ChangeShapes Go.WideShapes Go.ChangeAt Go.RowKit Go.Deep
def zf3 (g:DGrammar) (x:DRule) (k:Nat):Bool:=!symB g.fl (zg x (k:Int))
def zdy (g:DGrammar) (x:DRule):Bool:=anyP (zf3 g x) (x.fj.length+1)
theorem zlr {lo hi:Nat} {a0 a1:Option Addr} {c0_0 c0_1:Nat} {b2 b4 b5:Option Addr} {c1_0 c1_1 c1_2:Nat} (g:DGrammar) (_:g.ok) (hszg:g.sz≤1048576) (x:DRule) (okx:x.ok) (hszx:x.sz≤1048576) (w:World) (hhi:hi≤w.heap.size) (hs0:Sl lo hi w 2 g.fl.length (fun k=>DSymbol.ct (g.fl.getD k default)) a0) (hs1:Sl lo hi w 6 g.fm.length (fun k=>DRule.ct (g.fm.getD k default)) a1) (hs2:Sl lo hi w 1 x.fj.length (fun k=>ictS (x.fj.getD k default)) b2) (hs4:Sl lo hi w 9 x.fg.length (fun k=>DEquation.ct (x.fg.getD k default)) b4) (hs5:Sl lo hi w 16 x.fo.length (fun k=>DContribution.ct (x.fo.getD k default)) b5) :
  Calls Tryz.prog 26 #[.agg #[.slice a0 g.fl.length c0_0,.slice a1 g.fm.length c0_1],.agg #[.string x.fa,.string x.fp,.slice b2 x.fj.length c1_0,.bool x.fq,.slice b4 x.fg.length c1_1,.slice b5 x.fo.length c1_2]] w fun e w'=>e = .returned (.bool (!zdy g x))∧Below w.heap.size w w':=by
 have HB:=yq (show Below w.heap.size w ((w.alloc (.cells #[.slice a0 g.fl.length c0_0,.slice a1 g.fm.length c0_1] 32)).alloc (.cells #[.string x.fa,.string x.fp,.slice b2 x.fj.length c1_0,.bool x.fq,.slice b4 x.fg.length c1_1,.slice b5 x.fo.length c1_2] 50)) from ((Below.refl w.heap.size w).alloc (Nat.le_refl _) (.cells #[.slice a0 g.fl.length c0_0,.slice a1 g.fm.length c0_1] 32)).alloc (by simp) (.cells #[.string x.fa,.string x.fp,.slice b2 x.fj.length c1_0,.bool x.fq,.slice b4 x.fg.length c1_1,.slice b5 x.fo.length c1_2] 50))
 have HBG:=yq (show ((w.alloc (.cells #[.slice a0 g.fl.length c0_0,.slice a1 g.fm.length c0_1] 32)).alloc (.cells #[.string x.fa,.string x.fp,.slice b2 x.fj.length c1_0,.bool x.fq,.slice b4 x.fg.length c1_1,.slice b5 x.fo.length c1_2] 50)).heap[w.heap.size]? = some (.cells #[.slice a0 g.fl.length c0_0,.slice a1 g.fm.length c0_1] 32) from zn (by simp) (ze rfl))
 have HBR:=yq (show ((w.alloc (.cells #[.slice a0 g.fl.length c0_0,.slice a1 g.fm.length c0_1] 32)).alloc (.cells #[.string x.fa,.string x.fp,.slice b2 x.fj.length c1_0,.bool x.fq,.slice b4 x.fg.length c1_1,.slice b5 x.fo.length c1_2] 50)).heap[w.heap.size+1]? = some (.cells #[.string x.fa,.string x.fp,.slice b2 x.fj.length c1_0,.bool x.fq,.slice b4 x.fg.length c1_1,.slice b5 x.fo.length c1_2] 50) from ze (by simp))
 have HZ:=yq (show ((w.alloc (.cells #[.slice a0 g.fl.length c0_0,.slice a1 g.fm.length c0_1] 32)).alloc (.cells #[.string x.fa,.string x.fp,.slice b2 x.fj.length c1_0,.bool x.fq,.slice b4 x.fg.length c1_1,.slice b5 x.fo.length c1_2] 50)).heap.size=w.heap.size+2 by simp)
 have HS0:=yq (fun (W:World) (hW:Below w.heap.size w W)=>hs0.later hW hhi)
 have HS1:=yq (fun (W:World) (hW:Below w.heap.size w W)=>hs1.later hW hhi)
 have HS2:=yq (fun (W:World) (hW:Below w.heap.size w W)=>hs2.later hW hhi)
 have HS4:=yq (fun (W:World) (hW:Below w.heap.size w W)=>hs4.later hW hhi)
 have HS5:=yq (fun (W:World) (hW:Below w.heap.size w W)=>hs5.later hW hhi)
 have HHI:=yq hhi
 have hn:x.fj.length≤1048576:=by unfold DRule.sz lsz at hszx;omega
 have hWR:IntKind.i64.wrap ((x.fj.length:Int)+1)=(x.fj.length:Int)+1:=by rw [IntKind.wrap_i64];omega
 have HSA:=yq (fun (k:Nat) (hk:k < x.fj.length+1) (W:World) (hW:Below w.heap.size w W)=>zd9 (c0_0:=c1_0) (c0_1:=c1_1) (c0_2:=c1_2) x okx hszx (k:Int) ⟨by omega,by omega⟩ W (Nat.le_trans HHI.out hW.size) (HS2.out W hW) (HS4.out W hW) (HS5.out W hW))
 have HSN:=yq (fun (nm:ByteArray) (W:World) (hW:Below w.heap.size w W)=>zbw (c0:=c0_0) (c1:=c0_1) (n1:=g.fm.length) (a1:=a1) g.fl (by unfold DGrammar.sz at hszg;omega) nm W (Nat.le_trans HHI.out hW.size) (HS0.out W hW))
 have HR:=yq (show zdy g x=anyP (zf3 g x) (x.fj.length+1) from rfl)
 have HE:=yq (fun (k:Nat)=>show zf3 g x k = !symB g.fl (zg x (k:Int)) from rfl)
 clear hs0 hs1 hs2 hs4 hs5 hhi hszg okx hszx
 go_enter Tryz.func26,Tryz.ntmps26
 go_wp2;generalize ((w.alloc (.cells #[.slice a0 g.fl.length c0_0,.slice a1 g.fm.length c0_1] 32)).alloc (.cells #[.string x.fa,.string x.fp,.slice b2 x.fj.length c1_0,.bool x.fq,.slice b4 x.fg.length c1_1,.slice b5 x.fo.length c1_2] 50))=w0 at *
 go_loopw [12] (fun i wr=>∃ k:Nat,k≤x.fj.length+1∧i = .int .i64 (k:Int)∧zbo (zf3 g x) k∧Below w0.heap.size w0 wr) (fun i _=>x.fj.length+1 - (intOf i).toNat)
 case atStart=>exact ⟨0,Nat.zero_le _,rfl,zau _,Below.refl _ _⟩
 case round =>
  obtain ⟨k,hk,rfl,hno,hb⟩:=hrel;have HN:=yq hno;have HBW:=yq hb;have HBT:=yq (HB.out.trans (hb.mono HB.out.size))
  have HGW:=yq ((hb.block w.heap.size (by rw [HZ.out];omega)).trans HBG.out)
  have HRW:=yq ((hb.block (w.heap.size+1) (by rw [HZ.out];omega)).trans HBR.out)
  have HZW:=yq (show w.heap.size+2≤wr.heap.size from HZ.out ▸ hb.size)
  clear hno hb
  by_cases hlt:k < x.fj.length+1
  ·have hkI:(k:Int) < (x.fj.length:Int)+1:=by omega
   have HA:=yq (fun (W:World) (hW:Below wr.heap.size wr W)=>HSA.out k hlt W (HBT.out.trans (hW.mono HBT.out.size)))
   have HM:=yq (fun (W:World) (hW:Below wr.heap.size wr W)=>HSN.out (zg x (k:Int)) W (HBT.out.trans (hW.mono HBT.out.size)))
   have HEK:=yq (HE.out k);clear HSA HSN HE;generalize symB g.fl (zg x (k:Int))=bb at *;generalize symS g.fl (zg x (k:Int))=ss at *;generalize zg x (k:Int)=nm at *;go_wp2
   refine zw [([],.none,[]),([],.none,[]),([],.none,[]),([1,2],.none,[]),([0,3],.none,[]),([4],.none,[]),([5],.none,[]),([5],.none,[]),([],.none,[]),([8,6],.new 8,[]),([7],.none,[])] [0,1,2,3,4,5,6,7,9,10] [] (fun _=>False) (fun _=>True) (fun _=>0) (fun jq9 V L H wx=>match jq9 with|0=>V 0 = .agg #[.slice a0 g.fl.length c0_0,.slice a1 g.fm.length c0_1]|1=>V 1 = .agg #[.string x.fa,.string x.fp,.slice b2 x.fj.length c1_0,.bool x.fq,.slice b4 x.fg.length c1_1,.slice b5 x.fo.length c1_2]|2=>V 2 = .int .i64 (k:Int)|3=>V 3 = .string nm|4=>∃ ra rc,V 4 = .tuple #[.agg #[.string ss.fa,.slice ra ss.fu.length rc],.bool bb]|5=>V 5=V 4 ∧ ∃ ra_5 rc_5,V 5 = .tuple #[.agg #[.string ss.fa,.slice ra_5 ss.fu.length rc_5],.bool bb]|6=>(∀ x0 x1,V 5 = .tuple #[x0,x1]→V 6=x0) ∧ ∃ ra_6 rc_6,V 6 = .agg #[.string ss.fa,.slice ra_6 ss.fu.length rc_6]|7=>(∀ x0 x1,V 5 = .tuple #[x0,x1]→V 7=x1)|8=>V 8 = .pointer (some ⟨L,0,none⟩)∧L < H∧wx.heap[L]? = some (.cells #[.string ⟨#[]⟩,.slice none 0 0] 42)|9=>∀ x0 x1,V 6 = .agg #[x0,x1]→L < H∧wx.heap[L]? = some (.cells #[x0,x1] 42)|10=>V 10=V 7|_=>True) (by kernel_rfl) (by kernel_rfl) ?obs (fun _ h=>h.elim) trivial (fun _ _ _ _ _=>trivial) ?loc ?lasts ?walk
   case obs =>
    trivial
   case loc =>
    intro k V V' L H wx h0 h1 hG
    match k with
    | 0 =>
     (try dsimp only at hG ⊢);rw [← h0];exact hG
    | 1 =>
     (try dsimp only at hG ⊢);rw [← h0];exact hG
    | 2 =>
     (try dsimp only at hG ⊢);rw [← h0];exact hG
    | 3 =>
     (try dsimp only at hG ⊢);rw [← h0];exact hG
    | 4 =>
     (try dsimp only at hG ⊢);rw [← h0];exact hG
    | 5 =>
     have e4:=h1 4 (by decide)
     (try dsimp only at hG ⊢);rw [← h0,← e4];exact hG
    | 6 =>
     have e5:=h1 5 (by decide)
     (try dsimp only at hG ⊢);rw [← h0,← e5];exact hG
    | 7 =>
     have e5:=h1 5 (by decide)
     (try dsimp only at hG ⊢);rw [← h0,← e5];exact hG
    | 8 =>
     (try dsimp only at hG ⊢);rw [← h0];exact hG
    | 9 =>
     have e6:=h1 6 (by decide)
     (try dsimp only at hG ⊢);rw [← e6];exact hG
    | 10 =>
     have e7:=h1 7 (by decide)
     (try dsimp only at hG ⊢);rw [← h0,← e7];exact hG
    | n+11=>trivial
   case lasts =>
    intro i hi V L H wx wy hB hH hk
    match i,hi with
    | 0,_=>exact fun h=>h
    | 1,_=>exact fun h=>h
    | 2,_=>exact fun h=>h
    | 3,_=>exact fun h=>h
    | 4,_=>exact fun h=>h
    | 5,_=>exact fun h=>h
    | 6,_=>exact fun h=>h
    | 7,_=>exact fun h=>h
    | 8,_=>exact fun ⟨hv,hl,hc⟩=>⟨hv,hl,(hk.2 L (.inr (.inl ⟨Nat.le_refl _,hl⟩)) (Nat.lt_of_lt_of_le hl hH)).trans hc⟩
    | 9,_=>exact fun h x0 x1 hv=>⟨(h x0 x1 hv).1,(hk.2 L (.inr (.inl ⟨Nat.le_refl _,(h x0 x1 hv).1⟩)) (Nat.lt_of_lt_of_le (h x0 x1 hv).1 hH)).trans (h x0 x1 hv).2⟩
    | 10,_=>exact fun h=>h
    | n+11,hn=>exact absurd hn (by simp)
   case walk =>
    simp (maxSteps:=4000000) only [zda,Nat.reduceAdd,Act.put,List.setIfInBounds_toArray,List.set_cons_succ,List.set_cons_zero]
    refine ⟨?_,?_,?_,?_,?_,?_,?_,?_,?_,?_,?_,?_⟩
    ·intro V L H w1 hw hk hj hd
     clear hd
     have g0:w1.cell? ⟨w.heap.size,0,none⟩=some (.slice a0 g.fl.length c0_0):=((zd hw).cell (p:=⟨w.heap.size,0,none⟩) (show w.heap.size < wr.heap.size by have:=HZW.out;omega)).trans (za HGW.out rfl)
     have g1:w1.cell? ⟨w.heap.size,1,none⟩=some (.slice a1 g.fm.length c0_1):=((zd hw).cell (p:=⟨w.heap.size,1,none⟩) (show w.heap.size < wr.heap.size by have:=HZW.out;omega)).trans (za HGW.out rfl)
     (go_wp2_with fail);exact zc _ rfl ⟨⟨WritesF.refl _ _,hj⟩,zb⟩
    ·intro V L H w1 hw hk hj hd
     clear hd
     have r0:w1.cell? ⟨(w.heap.size+1),0,none⟩=some (.string x.fa):=((zd hw).cell (p:=⟨(w.heap.size+1),0,none⟩) (show w.heap.size+1 < wr.heap.size by have:=HZW.out;omega)).trans (za HRW.out rfl)
     have r1:w1.cell? ⟨(w.heap.size+1),1,none⟩=some (.string x.fp):=((zd hw).cell (p:=⟨(w.heap.size+1),1,none⟩) (show w.heap.size+1 < wr.heap.size by have:=HZW.out;omega)).trans (za HRW.out rfl)
     have r2:w1.cell? ⟨(w.heap.size+1),2,none⟩=some (.slice b2 x.fj.length c1_0):=((zd hw).cell (p:=⟨(w.heap.size+1),2,none⟩) (show w.heap.size+1 < wr.heap.size by have:=HZW.out;omega)).trans (za HRW.out rfl)
     have r3:w1.cell? ⟨(w.heap.size+1),3,none⟩=some (.bool x.fq):=((zd hw).cell (p:=⟨(w.heap.size+1),3,none⟩) (show w.heap.size+1 < wr.heap.size by have:=HZW.out;omega)).trans (za HRW.out rfl)
     have r4:w1.cell? ⟨(w.heap.size+1),4,none⟩=some (.slice b4 x.fg.length c1_1):=((zd hw).cell (p:=⟨(w.heap.size+1),4,none⟩) (show w.heap.size+1 < wr.heap.size by have:=HZW.out;omega)).trans (za HRW.out rfl)
     have r5:w1.cell? ⟨(w.heap.size+1),5,none⟩=some (.slice b5 x.fo.length c1_2):=((zd hw).cell (p:=⟨(w.heap.size+1),5,none⟩) (show w.heap.size+1 < wr.heap.size by have:=HZW.out;omega)).trans (za HRW.out rfl)
     (go_wp2_with fail);exact zc _ rfl ⟨⟨WritesF.refl _ _,hj⟩,zb⟩
    ·intro V L H w1 hw hk hj hd
     clear hd;(go_wp2_with fail);exact zc _ rfl ⟨⟨WritesF.refl _ _,hj⟩,zb⟩
    ·intro V L H w1 hw hk hj hd
     obtain ⟨⟨_,_,_,hv1⟩,⟨_,_,_,hv2⟩,-⟩:=hd;rw [hv1,hv2];have HV1:=yq hv1;have HV2:=yq hv2;clear hv1 hv2;(go_wp2_with fail);refine (HA.out w1 (zd hw)).mono ?_;rintro e w2 ⟨rfl,hb2⟩;(go_wp2_with fail);exact zc _ rfl ⟨⟨(WritesF.refl _ _).later hb2,trivial⟩,zb⟩
    ·intro V L H w1 hw hk hj hd
     obtain ⟨⟨_,_,_,hv0⟩,⟨_,_,_,hv3⟩,-⟩:=hd;rw [hv0,hv3];have HV0:=yq hv0;have HV3:=yq hv3;clear hv0 hv3;(go_wp2_with fail);refine (HM.out w1 (zd hw)).mono ?_;rintro e w2 ⟨⟨ra,rc,rfl,-⟩,hb2⟩;(go_wp2_with fail);exact zc _ rfl ⟨⟨(WritesF.refl _ _).later hb2,trivial⟩,Exists.intro ra (Exists.intro rc (zb))⟩
    ·intro V L H w1 hw hk hj hd
     obtain ⟨⟨_,_,_,ra,rc,hv4⟩,-⟩:=hd;rw [hv4];have HV4:=yq hv4;clear hv4;(go_wp2_with fail)
     exact zc _ rfl ⟨⟨WritesF.refl _ _,hj⟩,And.intro (zb.trans (HV4.out.symm.trans (zam (by decide)).symm)) ⟨_,_,zb⟩⟩
    ·intro V L H w1 hw hk hj hd
     obtain ⟨⟨_,_,_,hv5,ra_5,rc_5,hz5⟩,-⟩:=hd;clear hv5;rw [hz5];have HV5:=yq hz5;clear hz5;(go_wp2_with fail)
     exact zc _ rfl ⟨⟨WritesF.refl _ _,hj⟩,And.intro (fun x0 x1 h=>by cases (HV5.out.symm.trans ((zam (by decide)).symm.trans h));exact zb) ⟨_,_,zb⟩⟩
    ·intro V L H w1 hw hk hj hd
     obtain ⟨⟨_,_,_,hv5,ra_5,rc_5,hz5⟩,-⟩:=hd;clear hv5;rw [hz5];have HV5:=yq hz5;clear hz5;(go_wp2_with fail)
     exact zc _ rfl ⟨⟨WritesF.refl _ _,hj⟩,fun x0 x1 h=>by cases (HV5.out.symm.trans ((zam (by decide)).symm.trans h));exact zb⟩
    ·intro V L H w1 hw hk hj hd
     clear hd;(go_wp2_with fail)
     refine zc _ rfl ⟨⟨(WritesF.refl _ _).later ((Below.refl _ _).alloc (Nat.le_refl _) _),trivial⟩,zb,by simp,ze rfl⟩
    ·intro V L H w1 hw hk hj hd
     obtain ⟨⟨_,_,_,hv8,hlt8,hc8⟩,⟨_,_,_,hv6,ra_6,rc_6,hz6⟩,-⟩:=hd;clear hv6;rw [hv8,hz6];have HV8:=yq hv8;have HV6:=yq hz6;clear hv8 hz6;have hc_0:=za (j:=0) (v:=.string ⟨#[]⟩) hc8 rfl;have hf_0:=zay (j:=0) hc8;have hc_1:=za (j:=1) (v:=.slice none 0 0) hc8 rfl;have hf_1:=zay (j:=1) hc8;have HBLK:=yq hc8;clear hc8;(go_wp2_with fail)
     refine zc undef rfl ⟨(Touches.put (L:=L 8) (H:=H 8) (Touches.put (L:=L 8) (H:=H 8) Touches.refl (p:=⟨L 8,0,none⟩) ⟨Nat.le_refl _,hlt8⟩ _) (p:=⟨L 8,1,none⟩) ⟨Nat.le_refl _,hlt8⟩ _),fun x0 x1 h=>?_⟩
     cases (HV6.out.symm.trans ((zam (by decide)).symm.trans h))
     exact ⟨hlt8,(zbu (zbu HBLK.out rfl) rfl)⟩
    ·intro V L H w1 hw hk hj hd
     obtain ⟨⟨_,_,_,hv7⟩,-⟩:=hd;clear hv7;(go_wp2_with fail)
     exact zc _ rfl ⟨⟨WritesF.refl _ _,hj⟩,zb.trans (zam (by decide)).symm⟩
    ·intro V L H w1 hw hj hd hap hdead
     obtain ⟨⟨_,_,_,hv0⟩,⟨_,_,_,hv1⟩,⟨_,_,_,hv2⟩,⟨_,_,_,hv3⟩,⟨_,_,_,ra,rc,hv4⟩,⟨_,_,_,hv5,ra_5,rc_5,hz5⟩,⟨_,_,_,hv6,ra_6,rc_6,hz6⟩,⟨_,_,_,hv7⟩,⟨_,_,_,hst9_⟩,⟨_,_,_,hv10⟩,-⟩:=hd;have hv5':=hv5.trans hv4;have hv6':=hv6 _ _ hv5';have hv7':=hv7 _ _ hv5';have hv10':=hv10.trans hv7';obtain ⟨vlt9,vb9⟩:=hst9_ _ _ hv6'
     obtain ⟨hLe9,hHe9,wo9,hva9,-⟩:=hdead 9 8 (by decide) rfl
     rw [← hLe9] at hva9;clear hLe9 hHe9;rw [hv0,hv1,hv2,hv3,hv4,hv5',hv6',hv7',hva9,hv10'];clear hv0 hv1 hv2 hv3 hv4 hv5' hv6' hv7' hva9 hv10' hv5 hv6 hv7 hv10;have HBN:=yq (HBW.out.trans ((zd hw).mono HBW.out.size));have HBF:=yq (HBT.out.trans ((zd hw).mono HBT.out.size));clear hw hj hap hdead
     cases bb with
     | false =>
      have FIN:=yq (show zdy g x=true from HR.out.trans (zbm hlt HEK.out))
      go_wp2;go_ret
      exact ⟨zh (by rw [FIN.out];rfl),HBF.out⟩
     | true =>
      have HN1:=yq (zap HN.out HEK.out);go_wp2;go_roundw
      case rel=>exact ⟨k+1,by omega,by go_num,HN1.out,HBN.out⟩
      case measure=>simp [intOf];omega
  ·obtain rfl:k=x.fj.length+1:=by omega
   have FIN:=yq (show zdy g x=false from HR.out.trans (zbp HN.out))
   go_wp2;go_ret
   exact ⟨zh (by rw [FIN.out];rfl),HBT.out⟩
theorem zrp {hi bg:Nat} {c0_0 c0_1:Nat} {a0 a1:Option Addr} (g:DGrammar) (okg:g.ok) (hszg:g.sz≤1048576) (i:Nat) (hi':i < g.fm.length) (w:World) (hhi:hi≤w.heap.size) (hs0:Sf 0 hi w 2 g.fl.length (fun k=>DSymbol.ct (g.fl.getD k default)) a0) (hs1:Sf 0 hi w 6 g.fm.length (fun k=>DRule.ct (g.fm.getD k default)) a1) (hg:w.heap[bg]? = some (.cells #[.slice a0 g.fl.length c0_0,.slice a1 g.fm.length c0_1] 32)) :
  Calls Tryz.prog 25 #[.int .i64 (i:Int),.pointer (some ⟨bg,0,none⟩)] w fun e w'=>e = .returned (.bool (!(!zdy g (g.fm.getD i default))))∧Below w.heap.size w w':=by
 have hbg:bg < w.heap.size:=(Array.getElem?_eq_some_iff.1 hg).1;have HBGL:=yq hbg
 have hiI:(0:Int)≤(i:Int)∧(i:Int) < (g.fm.length:Int):=by omega
 obtain ⟨rb,ro,rfl,_,hrb,_,hc⟩:=hs1.at i hi';obtain ⟨b2,c1_0,b4,c1_1,b5,c1_2,h0,h1,h2,h3,h4,h5,hs2,hs4,hs5⟩:=DRule.openS hc;have okx:DRule.ok (g.fm.getD i default):=okg.2.at hi'
 have hszx:DRule.sz (g.fm.getD i default)≤1048576:=Nat.le_trans (zab (f:=DRule.sz) g.fm i hi') (by unfold DGrammar.sz at hszg;omega)
 have HRLT:=yq (show rb < w.heap.size by omega)
 have HGW:=yq hg;have HROW:=yq (And.intro h0 (And.intro h1 (And.intro h2 (And.intro h3 (And.intro h4 h5)))));generalize g.fm.getD i default=x at *
 have HC:=yq (fun (W:World) (hW:Below w.heap.size w W)=>zlr (c0_0:=c0_0) (c0_1:=c0_1) (c1_0:=c1_0) (c1_1:=c1_1) (c1_2:=c1_2) g okg hszg x okx hszx W (Nat.le_trans hhi hW.size) (hs0.later hW hhi).sl (hs1.later hW hhi).sl (hs2.later hW hhi).sl (hs4.later hW hhi).sl (hs5.later hW hhi).sl)
 clear hg hc hs0 hs1 hs2 hs4 hs5 okg hszg okx hszx hhi hi' h0 h1 h2 h3 h4 h5 hbg hrb;generalize (!zdy g x)=bb at *
 go_enter Tryz.func25,Tryz.ntmps25
 go_wp2
 refine zw [([],.none,[]),([],.none,[]),([1],.none,[]),([],.none,[]),([2,3],.none,[]),([4],.none,[]),([0,5],.none,[]),([6],.none,[]),([7],.none,[])] [0,1,2,3,4,5,6,7,8] [] (fun _=>False) (fun _=>True) (fun _=>0) (fun jq9 V L H wx=>match jq9 with|0=>V 0 = .agg #[.slice a0 g.fl.length c0_0,.slice (some ⟨rb,ro,none⟩) g.fm.length c0_1]|1=>V 1 = .pointer (some ⟨bg,1,none⟩)|2=>V 2 = .slice (some ⟨rb,ro,none⟩) g.fm.length c0_1|3=>V 3 = .int .i64 (i:Int)|4=>V 4 = .pointer (some ⟨rb,ro+i * 6,none⟩)|5=>V 5 = .agg #[.string x.fa,.string x.fp,.slice b2 x.fj.length c1_0,.bool x.fq,.slice b4 x.fg.length c1_1,.slice b5 x.fo.length c1_2]|6=>V 6 = .bool bb|7=>V 7 = .bool (!bb)|8=>V 8=V 7|_=>True) (by kernel_rfl) (by kernel_rfl) ?obs (fun _ h=>h.elim) trivial (fun _ _ _ _ _=>trivial) ?loc ?lasts ?walk
 case obs =>
  trivial
 case loc =>
  intro k V V' L H wx h0 h1 hG
  match k with
  | 0 =>
   (try dsimp only at hG ⊢);rw [← h0];exact hG
  | 1 =>
   (try dsimp only at hG ⊢);rw [← h0];exact hG
  | 2 =>
   (try dsimp only at hG ⊢);rw [← h0];exact hG
  | 3 =>
   (try dsimp only at hG ⊢);rw [← h0];exact hG
  | 4 =>
   (try dsimp only at hG ⊢);rw [← h0];exact hG
  | 5 =>
   (try dsimp only at hG ⊢);rw [← h0];exact hG
  | 6 =>
   (try dsimp only at hG ⊢);rw [← h0];exact hG
  | 7 =>
   (try dsimp only at hG ⊢);rw [← h0];exact hG
  | 8 =>
   have e7:=h1 7 (by decide)
   (try dsimp only at hG ⊢);rw [← h0,← e7];exact hG
  | n+9=>trivial
 case lasts =>
  intro i hi V L H wx wy hB hH hk
  match i,hi with
  | 0,_=>exact fun h=>h
  | 1,_=>exact fun h=>h
  | 2,_=>exact fun h=>h
  | 3,_=>exact fun h=>h
  | 4,_=>exact fun h=>h
  | 5,_=>exact fun h=>h
  | 6,_=>exact fun h=>h
  | 7,_=>exact fun h=>h
  | 8,_=>exact fun h=>h
  | n+9,hn=>exact absurd hn (by simp)
 case walk =>
  simp (maxSteps:=4000000) only [zda,Nat.reduceAdd,Act.put,List.setIfInBounds_toArray,List.set_cons_succ,List.set_cons_zero]
  refine ⟨?_,?_,?_,?_,?_,?_,?_,?_,?_,?_⟩
  ·intro V L H w1 hw hk hj hd
   clear hd;have g0:w1.cell? ⟨bg,0,none⟩=some (.slice a0 g.fl.length c0_0):=((zd hw).cell (p:=⟨bg,0,none⟩) HBGL.out).trans (za HGW.out rfl);have g1:w1.cell? ⟨bg,1,none⟩=some (.slice (some ⟨rb,ro,none⟩) g.fm.length c0_1):=((zd hw).cell (p:=⟨bg,1,none⟩) HBGL.out).trans (za HGW.out rfl);(go_wp2_with fail);exact zc _ rfl ⟨⟨WritesF.refl _ _,hj⟩,zb⟩
  ·intro V L H w1 hw hk hj hd
   clear hd;(go_wp2_with fail);exact zc _ rfl ⟨⟨WritesF.refl _ _,hj⟩,zb⟩
  ·intro V L H w1 hw hk hj hd
   obtain ⟨⟨_,_,_,hv1⟩,-⟩:=hd;rw [hv1];have HV1:=yq hv1;clear hv1;have g1:w1.cell? ⟨bg,1,none⟩=some (.slice (some ⟨rb,ro,none⟩) g.fm.length c0_1):=((zd hw).cell (p:=⟨bg,1,none⟩) HBGL.out).trans (za HGW.out rfl);(go_wp2_with fail);exact zc _ rfl ⟨⟨WritesF.refl _ _,hj⟩,zb⟩
  ·intro V L H w1 hw hk hj hd
   clear hd;(go_wp2_with fail);exact zc _ rfl ⟨⟨WritesF.refl _ _,hj⟩,zb⟩
  ·intro V L H w1 hw hk hj hd
   obtain ⟨⟨_,_,_,hv2⟩,⟨_,_,_,hv3⟩,-⟩:=hd;rw [hv2,hv3];have HV2:=yq hv2;have HV3:=yq hv3;clear hv2 hv3;(go_wp2_with fail);exact zc _ rfl ⟨⟨WritesF.refl _ _,hj⟩,zb⟩
  ·intro V L H w1 hw hk hj hd
   obtain ⟨⟨_,_,_,hv4⟩,-⟩:=hd;rw [hv4];have HV4:=yq hv4;clear hv4;have r0:w1.cell? ⟨rb,ro+i * 6,none⟩=some (.string x.fa):=((zd hw).cell (p:=⟨rb,ro+i * 6,none⟩) HRLT.out).trans HROW.out.1;have r1:w1.cell? ⟨rb,ro+i * 6+1,none⟩=some (.string x.fp):=((zd hw).cell (p:=⟨rb,ro+i * 6+1,none⟩) HRLT.out).trans HROW.out.2.1;have r2:w1.cell? ⟨rb,ro+i * 6+2,none⟩=some (.slice b2 x.fj.length c1_0):=((zd hw).cell (p:=⟨rb,ro+i * 6+2,none⟩) HRLT.out).trans HROW.out.2.2.1;have r3:w1.cell? ⟨rb,ro+i * 6+3,none⟩=some (.bool x.fq):=((zd hw).cell (p:=⟨rb,ro+i * 6+3,none⟩) HRLT.out).trans HROW.out.2.2.2.1;have r4:w1.cell? ⟨rb,ro+i * 6+4,none⟩=some (.slice b4 x.fg.length c1_1):=((zd hw).cell (p:=⟨rb,ro+i * 6+4,none⟩) HRLT.out).trans HROW.out.2.2.2.2.1;have r5:w1.cell? ⟨rb,ro+i * 6+5,none⟩=some (.slice b5 x.fo.length c1_2):=((zd hw).cell (p:=⟨rb,ro+i * 6+5,none⟩) HRLT.out).trans HROW.out.2.2.2.2.2;(go_wp2_with fail);exact zc _ rfl ⟨⟨WritesF.refl _ _,hj⟩,zb⟩
  ·intro V L H w1 hw hk hj hd
   obtain ⟨⟨_,_,_,hv0⟩,⟨_,_,_,hv5⟩,-⟩:=hd;rw [hv0,hv5];have HV0:=yq hv0;have HV5:=yq hv5;clear hv0 hv5;(go_wp2_with fail);refine (HC.out w1 (zd hw)).mono ?_;rintro e w2 ⟨rfl,hb2⟩;(go_wp2_with fail);exact zc _ rfl ⟨⟨(WritesF.refl _ _).later hb2,trivial⟩,zb⟩
  ·intro V L H w1 hw hk hj hd
   obtain ⟨⟨_,_,_,hv6⟩,-⟩:=hd;rw [hv6];have HV6:=yq hv6;clear hv6;(go_wp2_with fail);exact zc _ rfl ⟨⟨WritesF.refl _ _,hj⟩,zb⟩
  ·intro V L H w1 hw hk hj hd
   obtain ⟨⟨_,_,_,hv7⟩,-⟩:=hd;rw [hv7];have HV7:=yq hv7;clear hv7;(go_wp2_with fail)
   exact zc _ rfl ⟨⟨WritesF.refl _ _,hj⟩,zb.trans (HV7.out.symm.trans (zam (by decide)).symm)⟩
  ·intro V L H w1 hw hj hd hap hdead
   obtain ⟨⟨_,_,_,hv0⟩,⟨_,_,_,hv1⟩,⟨_,_,_,hv2⟩,⟨_,_,_,hv3⟩,⟨_,_,_,hv4⟩,⟨_,_,_,hv5⟩,⟨_,_,_,hv6⟩,⟨_,_,_,hv7⟩,⟨_,_,_,hv8⟩,-⟩:=hd;have hv8':=hv8.trans hv7;rw [hv0,hv1,hv2,hv3,hv4,hv5,hv6,hv7,hv8'];clear hv0 hv1 hv2 hv3 hv4 hv5 hv6 hv7 hv8' hv8;have HBF:=yq (zd hw);clear hw hj hap hdead;go_wp2;go_ret;exact ⟨rfl,HBF.out⟩
theorem zlc {lo hi:Nat} {a0 a1:Option Addr} {c0_0 c0_1:Nat} {b2 b4 b5:Option Addr} {c1_0 c1_1 c1_2:Nat} (g:DGrammar) (_:g.ok) (hszg:g.sz≤1048576) (x:DRule) (okx:x.ok) (hszx:x.sz≤1048576) (w:World) (hhi:hi≤w.heap.size) (hs0:Sl lo hi w 2 g.fl.length (fun k=>DSymbol.ct (g.fl.getD k default)) a0) (_:Sl lo hi w 6 g.fm.length (fun k=>DRule.ct (g.fm.getD k default)) a1) (hs2:Sl lo hi w 1 x.fj.length (fun k=>ictS (x.fj.getD k default)) b2) (hs4:Sl lo hi w 9 x.fg.length (fun k=>DEquation.ct (x.fg.getD k default)) b4) (hs5:Sl lo hi w 16 x.fo.length (fun k=>DContribution.ct (x.fo.getD k default)) b5) :
  Calls Tryz.prog 40 #[.agg #[.slice a0 g.fl.length c0_0,.slice a1 g.fm.length c0_1],.agg #[.string x.fa,.string x.fp,.slice b2 x.fj.length c1_0,.bool x.fq,.slice b4 x.fg.length c1_1,.slice b5 x.fo.length c1_2]] w fun e w'=>e = .returned (.bool (!zdy g x))∧Below w.heap.size w w':=by
 have HB:=yq (show Below w.heap.size w ((w.alloc (.cells #[.slice a0 g.fl.length c0_0,.slice a1 g.fm.length c0_1] 32)).alloc (.cells #[.string x.fa,.string x.fp,.slice b2 x.fj.length c1_0,.bool x.fq,.slice b4 x.fg.length c1_1,.slice b5 x.fo.length c1_2] 50)) from ((Below.refl w.heap.size w).alloc (Nat.le_refl _) (.cells #[.slice a0 g.fl.length c0_0,.slice a1 g.fm.length c0_1] 32)).alloc (by simp) (.cells #[.string x.fa,.string x.fp,.slice b2 x.fj.length c1_0,.bool x.fq,.slice b4 x.fg.length c1_1,.slice b5 x.fo.length c1_2] 50))
 have HBG:=yq (show ((w.alloc (.cells #[.slice a0 g.fl.length c0_0,.slice a1 g.fm.length c0_1] 32)).alloc (.cells #[.string x.fa,.string x.fp,.slice b2 x.fj.length c1_0,.bool x.fq,.slice b4 x.fg.length c1_1,.slice b5 x.fo.length c1_2] 50)).heap[w.heap.size]? = some (.cells #[.slice a0 g.fl.length c0_0,.slice a1 g.fm.length c0_1] 32) from zn (by simp) (ze rfl))
 have HBR:=yq (show ((w.alloc (.cells #[.slice a0 g.fl.length c0_0,.slice a1 g.fm.length c0_1] 32)).alloc (.cells #[.string x.fa,.string x.fp,.slice b2 x.fj.length c1_0,.bool x.fq,.slice b4 x.fg.length c1_1,.slice b5 x.fo.length c1_2] 50)).heap[w.heap.size+1]? = some (.cells #[.string x.fa,.string x.fp,.slice b2 x.fj.length c1_0,.bool x.fq,.slice b4 x.fg.length c1_1,.slice b5 x.fo.length c1_2] 50) from ze (by simp))
 have HZ:=yq (show ((w.alloc (.cells #[.slice a0 g.fl.length c0_0,.slice a1 g.fm.length c0_1] 32)).alloc (.cells #[.string x.fa,.string x.fp,.slice b2 x.fj.length c1_0,.bool x.fq,.slice b4 x.fg.length c1_1,.slice b5 x.fo.length c1_2] 50)).heap.size=w.heap.size+2 by simp)
 have HS0:=yq (fun (W:World) (hW:Below w.heap.size w W)=>hs0.later hW hhi)
 have HS2:=yq (fun (W:World) (hW:Below w.heap.size w W)=>hs2.later hW hhi)
 have HS4:=yq (fun (W:World) (hW:Below w.heap.size w W)=>hs4.later hW hhi)
 have HS5:=yq (fun (W:World) (hW:Below w.heap.size w W)=>hs5.later hW hhi)
 have HHI:=yq hhi
 have hn:x.fj.length≤1048576:=by unfold DRule.sz lsz at hszx;omega
 have HSA:=yq (fun (k:Nat) (hk:k < x.fj.length+1) (W:World) (hW:Below w.heap.size w W)=>zd8 (c0_0:=c1_0) (c0_1:=c1_1) (c0_2:=c1_2) x okx hszx (k:Int) ⟨by omega,by omega⟩ W (Nat.le_trans HHI.out hW.size) (HS2.out W hW) (HS4.out W hW) (HS5.out W hW))
 have HSN:=yq (fun (nm:ByteArray) (W:World) (hW:Below w.heap.size w W)=>zcx (c0:=c0_0) (c1:=c0_1) (n1:=g.fm.length) (a1:=a1) g.fl (by unfold DGrammar.sz at hszg;omega) nm W (Nat.le_trans HHI.out hW.size) (HS0.out W hW))
 have HR:=yq (show zdy g x=anyP (zf3 g x) (x.fj.length+1) from rfl)
 have HE:=yq (fun (k:Nat)=>show zf3 g x k = !symB g.fl (zg x (k:Int)) from rfl)
 clear hs0 hs2 hs4 hs5 hhi hszg okx hszx
 go_enter Tryz.func40,Tryz.ntmps40
 go_wp2;generalize ((w.alloc (.cells #[.slice a0 g.fl.length c0_0,.slice a1 g.fm.length c0_1] 32)).alloc (.cells #[.string x.fa,.string x.fp,.slice b2 x.fj.length c1_0,.bool x.fq,.slice b4 x.fg.length c1_1,.slice b5 x.fo.length c1_2] 50))=w0 at *
 go_loopw [5] (fun i wr=>∃ k:Nat,k≤x.fj.length+1∧i = .int .i64 (k:Int)∧zbo (zf3 g x) k∧Below w0.heap.size w0 wr) (fun i _=>x.fj.length+1 - (intOf i).toNat)
 case atStart=>exact ⟨0,Nat.zero_le _,rfl,zau _,Below.refl _ _⟩
 case round =>
  obtain ⟨k,hk,rfl,hno,hb⟩:=hrel;have HN:=yq hno;have HBW:=yq hb;have HBT:=yq (HB.out.trans (hb.mono HB.out.size))
  have HGW:=yq ((hb.block w.heap.size (by rw [HZ.out];omega)).trans HBG.out)
  have HRW:=yq ((hb.block (w.heap.size+1) (by rw [HZ.out];omega)).trans HBR.out)
  have HZW:=yq (show w.heap.size+2≤wr.heap.size from HZ.out ▸ hb.size)
  clear hno hb;have r2:wr.cell? ⟨w.heap.size+1,2,none⟩=some (.slice b2 x.fj.length c1_0):=za HRW.out rfl
  by_cases hlt:k < x.fj.length+1
  ·have hkI:(k:Int)≤(x.fj.length:Int):=by omega
   have HA:=yq (fun (W:World) (hW:Below wr.heap.size wr W)=>HSA.out k hlt W (HBT.out.trans (hW.mono HBT.out.size)))
   have HM:=yq (fun (W:World) (hW:Below wr.heap.size wr W)=>HSN.out (zg x (k:Int)) W (HBT.out.trans (hW.mono HBT.out.size)))
   have HEK:=yq (HE.out k);clear HSA HSN HE;generalize symB g.fl (zg x (k:Int))=bb at *;generalize symS g.fl (zg x (k:Int))=ss at *;generalize zg x (k:Int)=nm at *;go_wp2;clear r2
   refine zw [([],.none,[]),([],.none,[]),([],.none,[]),([1,2],.none,[]),([0,3],.none,[]),([4],.none,[]),([5],.none,[]),([5],.none,[]),([],.none,[]),([8,6],.new 8,[]),([7],.none,[])] [0,1,2,3,4,5,6,7,9,10] [] (fun _=>False) (fun _=>True) (fun _=>0) (fun jq9 V L H wx=>match jq9 with|0=>V 0 = .agg #[.slice a0 g.fl.length c0_0,.slice a1 g.fm.length c0_1]|1=>V 1 = .agg #[.string x.fa,.string x.fp,.slice b2 x.fj.length c1_0,.bool x.fq,.slice b4 x.fg.length c1_1,.slice b5 x.fo.length c1_2]|2=>V 2 = .int .i64 (k:Int)|3=>V 3 = .string nm|4=>∃ ra rc,V 4 = .tuple #[.agg #[.string ss.fa,.slice ra ss.fu.length rc],.bool bb]|5=>V 5=V 4 ∧ ∃ ra_5 rc_5,V 5 = .tuple #[.agg #[.string ss.fa,.slice ra_5 ss.fu.length rc_5],.bool bb]|6=>(∀ x0 x1,V 5 = .tuple #[x0,x1]→V 6=x0) ∧ ∃ ra_6 rc_6,V 6 = .agg #[.string ss.fa,.slice ra_6 ss.fu.length rc_6]|7=>(∀ x0 x1,V 5 = .tuple #[x0,x1]→V 7=x1)|8=>V 8 = .pointer (some ⟨L,0,none⟩)∧L < H∧wx.heap[L]? = some (.cells #[.string ⟨#[]⟩,.slice none 0 0] 42)|9=>∀ x0 x1,V 6 = .agg #[x0,x1]→L < H∧wx.heap[L]? = some (.cells #[x0,x1] 42)|10=>V 10=V 7|_=>True) (by kernel_rfl) (by kernel_rfl) ?obs (fun _ h=>h.elim) trivial (fun _ _ _ _ _=>trivial) ?loc ?lasts ?walk
   case obs =>
    trivial
   case loc =>
    intro k V V' L H wx h0 h1 hG
    match k with
    | 0 =>
     (try dsimp only at hG ⊢);rw [← h0];exact hG
    | 1 =>
     (try dsimp only at hG ⊢);rw [← h0];exact hG
    | 2 =>
     (try dsimp only at hG ⊢);rw [← h0];exact hG
    | 3 =>
     (try dsimp only at hG ⊢);rw [← h0];exact hG
    | 4 =>
     (try dsimp only at hG ⊢);rw [← h0];exact hG
    | 5 =>
     have e4:=h1 4 (by decide)
     (try dsimp only at hG ⊢);rw [← h0,← e4];exact hG
    | 6 =>
     have e5:=h1 5 (by decide)
     (try dsimp only at hG ⊢);rw [← h0,← e5];exact hG
    | 7 =>
     have e5:=h1 5 (by decide)
     (try dsimp only at hG ⊢);rw [← h0,← e5];exact hG
    | 8 =>
     (try dsimp only at hG ⊢);rw [← h0];exact hG
    | 9 =>
     have e6:=h1 6 (by decide)
     (try dsimp only at hG ⊢);rw [← e6];exact hG
    | 10 =>
     have e7:=h1 7 (by decide)
     (try dsimp only at hG ⊢);rw [← h0,← e7];exact hG
    | n+11=>trivial
   case lasts =>
    intro i hi V L H wx wy hB hH hk
    match i,hi with
    | 0,_=>exact fun h=>h
    | 1,_=>exact fun h=>h
    | 2,_=>exact fun h=>h
    | 3,_=>exact fun h=>h
    | 4,_=>exact fun h=>h
    | 5,_=>exact fun h=>h
    | 6,_=>exact fun h=>h
    | 7,_=>exact fun h=>h
    | 8,_=>exact fun ⟨hv,hl,hc⟩=>⟨hv,hl,(hk.2 L (.inr (.inl ⟨Nat.le_refl _,hl⟩)) (Nat.lt_of_lt_of_le hl hH)).trans hc⟩
    | 9,_=>exact fun h x0 x1 hv=>⟨(h x0 x1 hv).1,(hk.2 L (.inr (.inl ⟨Nat.le_refl _,(h x0 x1 hv).1⟩)) (Nat.lt_of_lt_of_le (h x0 x1 hv).1 hH)).trans (h x0 x1 hv).2⟩
    | 10,_=>exact fun h=>h
    | n+11,hn=>exact absurd hn (by simp)
   case walk =>
    simp (maxSteps:=4000000) only [zda,Nat.reduceAdd,Act.put,List.setIfInBounds_toArray,List.set_cons_succ,List.set_cons_zero]
    refine ⟨?_,?_,?_,?_,?_,?_,?_,?_,?_,?_,?_,?_⟩
    ·intro V L H w1 hw hk hj hd
     clear hd
     have g0:w1.cell? ⟨w.heap.size,0,none⟩=some (.slice a0 g.fl.length c0_0):=((zd hw).cell (p:=⟨w.heap.size,0,none⟩) (show w.heap.size < wr.heap.size by have:=HZW.out;omega)).trans (za HGW.out rfl)
     have g1:w1.cell? ⟨w.heap.size,1,none⟩=some (.slice a1 g.fm.length c0_1):=((zd hw).cell (p:=⟨w.heap.size,1,none⟩) (show w.heap.size < wr.heap.size by have:=HZW.out;omega)).trans (za HGW.out rfl)
     (go_wp2_with fail);exact zc _ rfl ⟨⟨WritesF.refl _ _,hj⟩,zb⟩
    ·intro V L H w1 hw hk hj hd
     clear hd
     have r0:w1.cell? ⟨(w.heap.size+1),0,none⟩=some (.string x.fa):=((zd hw).cell (p:=⟨(w.heap.size+1),0,none⟩) (show w.heap.size+1 < wr.heap.size by have:=HZW.out;omega)).trans (za HRW.out rfl)
     have r1:w1.cell? ⟨(w.heap.size+1),1,none⟩=some (.string x.fp):=((zd hw).cell (p:=⟨(w.heap.size+1),1,none⟩) (show w.heap.size+1 < wr.heap.size by have:=HZW.out;omega)).trans (za HRW.out rfl)
     have r2:w1.cell? ⟨(w.heap.size+1),2,none⟩=some (.slice b2 x.fj.length c1_0):=((zd hw).cell (p:=⟨(w.heap.size+1),2,none⟩) (show w.heap.size+1 < wr.heap.size by have:=HZW.out;omega)).trans (za HRW.out rfl)
     have r3:w1.cell? ⟨(w.heap.size+1),3,none⟩=some (.bool x.fq):=((zd hw).cell (p:=⟨(w.heap.size+1),3,none⟩) (show w.heap.size+1 < wr.heap.size by have:=HZW.out;omega)).trans (za HRW.out rfl)
     have r4:w1.cell? ⟨(w.heap.size+1),4,none⟩=some (.slice b4 x.fg.length c1_1):=((zd hw).cell (p:=⟨(w.heap.size+1),4,none⟩) (show w.heap.size+1 < wr.heap.size by have:=HZW.out;omega)).trans (za HRW.out rfl)
     have r5:w1.cell? ⟨(w.heap.size+1),5,none⟩=some (.slice b5 x.fo.length c1_2):=((zd hw).cell (p:=⟨(w.heap.size+1),5,none⟩) (show w.heap.size+1 < wr.heap.size by have:=HZW.out;omega)).trans (za HRW.out rfl)
     (go_wp2_with fail);exact zc _ rfl ⟨⟨WritesF.refl _ _,hj⟩,zb⟩
    ·intro V L H w1 hw hk hj hd
     clear hd;(go_wp2_with fail);exact zc _ rfl ⟨⟨WritesF.refl _ _,hj⟩,zb⟩
    ·intro V L H w1 hw hk hj hd
     obtain ⟨⟨_,_,_,hv1⟩,⟨_,_,_,hv2⟩,-⟩:=hd;rw [hv1,hv2];have HV1:=yq hv1;have HV2:=yq hv2;clear hv1 hv2;(go_wp2_with fail);refine (HA.out w1 (zd hw)).mono ?_;rintro e w2 ⟨rfl,hb2⟩;(go_wp2_with fail);exact zc _ rfl ⟨⟨(WritesF.refl _ _).later hb2,trivial⟩,zb⟩
    ·intro V L H w1 hw hk hj hd
     obtain ⟨⟨_,_,_,hv0⟩,⟨_,_,_,hv3⟩,-⟩:=hd;rw [hv0,hv3];have HV0:=yq hv0;have HV3:=yq hv3;clear hv0 hv3;(go_wp2_with fail);refine (HM.out w1 (zd hw)).mono ?_;rintro e w2 ⟨⟨ra,rc,rfl,-⟩,hb2⟩;(go_wp2_with fail);exact zc _ rfl ⟨⟨(WritesF.refl _ _).later hb2,trivial⟩,Exists.intro ra (Exists.intro rc (zb))⟩
    ·intro V L H w1 hw hk hj hd
     obtain ⟨⟨_,_,_,ra,rc,hv4⟩,-⟩:=hd;rw [hv4];have HV4:=yq hv4;clear hv4;(go_wp2_with fail)
     exact zc _ rfl ⟨⟨WritesF.refl _ _,hj⟩,And.intro (zb.trans (HV4.out.symm.trans (zam (by decide)).symm)) ⟨_,_,zb⟩⟩
    ·intro V L H w1 hw hk hj hd
     obtain ⟨⟨_,_,_,hv5,ra_5,rc_5,hz5⟩,-⟩:=hd;clear hv5;rw [hz5];have HV5:=yq hz5;clear hz5;(go_wp2_with fail)
     exact zc _ rfl ⟨⟨WritesF.refl _ _,hj⟩,And.intro (fun x0 x1 h=>by cases (HV5.out.symm.trans ((zam (by decide)).symm.trans h));exact zb) ⟨_,_,zb⟩⟩
    ·intro V L H w1 hw hk hj hd
     obtain ⟨⟨_,_,_,hv5,ra_5,rc_5,hz5⟩,-⟩:=hd;clear hv5;rw [hz5];have HV5:=yq hz5;clear hz5;(go_wp2_with fail)
     exact zc _ rfl ⟨⟨WritesF.refl _ _,hj⟩,fun x0 x1 h=>by cases (HV5.out.symm.trans ((zam (by decide)).symm.trans h));exact zb⟩
    ·intro V L H w1 hw hk hj hd
     clear hd;(go_wp2_with fail)
     refine zc _ rfl ⟨⟨(WritesF.refl _ _).later ((Below.refl _ _).alloc (Nat.le_refl _) _),trivial⟩,zb,by simp,ze rfl⟩
    ·intro V L H w1 hw hk hj hd
     obtain ⟨⟨_,_,_,hv8,hlt8,hc8⟩,⟨_,_,_,hv6,ra_6,rc_6,hz6⟩,-⟩:=hd;clear hv6;rw [hv8,hz6];have HV8:=yq hv8;have HV6:=yq hz6;clear hv8 hz6;have hc_0:=za (j:=0) (v:=.string ⟨#[]⟩) hc8 rfl;have hf_0:=zay (j:=0) hc8;have hc_1:=za (j:=1) (v:=.slice none 0 0) hc8 rfl;have hf_1:=zay (j:=1) hc8;have HBLK:=yq hc8;clear hc8;(go_wp2_with fail)
     refine zc undef rfl ⟨(Touches.put (L:=L 8) (H:=H 8) (Touches.put (L:=L 8) (H:=H 8) Touches.refl (p:=⟨L 8,0,none⟩) ⟨Nat.le_refl _,hlt8⟩ _) (p:=⟨L 8,1,none⟩) ⟨Nat.le_refl _,hlt8⟩ _),fun x0 x1 h=>?_⟩
     cases (HV6.out.symm.trans ((zam (by decide)).symm.trans h))
     exact ⟨hlt8,(zbu (zbu HBLK.out rfl) rfl)⟩
    ·intro V L H w1 hw hk hj hd
     obtain ⟨⟨_,_,_,hv7⟩,-⟩:=hd;clear hv7;(go_wp2_with fail)
     exact zc _ rfl ⟨⟨WritesF.refl _ _,hj⟩,zb.trans (zam (by decide)).symm⟩
    ·intro V L H w1 hw hj hd hap hdead
     obtain ⟨⟨_,_,_,hv0⟩,⟨_,_,_,hv1⟩,⟨_,_,_,hv2⟩,⟨_,_,_,hv3⟩,⟨_,_,_,ra,rc,hv4⟩,⟨_,_,_,hv5,ra_5,rc_5,hz5⟩,⟨_,_,_,hv6,ra_6,rc_6,hz6⟩,⟨_,_,_,hv7⟩,⟨_,_,_,hst9_⟩,⟨_,_,_,hv10⟩,-⟩:=hd;have hv5':=hv5.trans hv4;have hv6':=hv6 _ _ hv5';have hv7':=hv7 _ _ hv5';have hv10':=hv10.trans hv7';obtain ⟨vlt9,vb9⟩:=hst9_ _ _ hv6'
     obtain ⟨hLe9,hHe9,wo9,hva9,-⟩:=hdead 9 8 (by decide) rfl
     rw [← hLe9] at hva9;clear hLe9 hHe9;rw [hv0,hv1,hv2,hv3,hv4,hv5',hv6',hv7',hva9,hv10'];clear hv0 hv1 hv2 hv3 hv4 hv5' hv6' hv7' hva9 hv10' hv5 hv6 hv7 hv10;have HBN:=yq (HBW.out.trans ((zd hw).mono HBW.out.size));have HBF:=yq (HBT.out.trans ((zd hw).mono HBT.out.size));clear hw hj hap hdead
     cases bb with
     | false =>
      have FIN:=yq (show zdy g x=true from HR.out.trans (zbm hlt HEK.out))
      go_wp2;go_ret
      exact ⟨zh (by rw [FIN.out];rfl),HBF.out⟩
     | true =>
      have HN1:=yq (zap HN.out HEK.out);go_wp2;go_roundw
      case rel=>exact ⟨k+1,by omega,by go_num,HN1.out,HBN.out⟩
      case measure=>simp [intOf];omega
  ·obtain rfl:k=x.fj.length+1:=by omega
   have FIN:=yq (show zdy g x=false from HR.out.trans (zbp HN.out))
   go_wp2;go_ret
   exact ⟨zh (by rw [FIN.out];rfl),HBT.out⟩
theorem zom:(Tryz.prog.info? 87).map (fun i=>(i.zero,i.size,i.bytes))=some (some (.agg #[.int .i64 0,.string ⟨#[]⟩]),2,24):=by kernel_rfl
def vOcc (x:DOccurrence):List Value:=[.int .i64 x.fb,.string x.fa]
theorem znq (x:DOccurrence):(vOcc x).length=2:=rfl
theorem zqw (x:DOccurrence) (c:Nat) (h:c < 2):x.ct c = .lit ((vOcc x).getD c .nilFunc):=match c,h with|0,_=>rfl|1,_=>rfl
def occP (k:Nat) (l:List DAttribute):List DOccurrence:=l.map fun a=>⟨(k:Int),a.fa⟩
theorem zwc (k:Nat) (l:List DAttribute):(occP k l).length=l.length:=List.length_map ..
def catL (f:Nat→List DOccurrence):Nat→List DOccurrence
 | 0=>[]
 | k+1=>catL f k ++ f k
theorem zjq {f:Nat→List DOccurrence} (hf : ∀ k,(f k).length≤1048575) : ∀ k,(catL f k).length≤k * 1048575
 | 0=>by simp [catL]
 | k+1=>by
  have h1:=zjq hf k;have h2:=hf k
  show (catL f k ++ f k).length≤_
  rw [List.length_append]
  omega
theorem zsm {α : Type} [Inhabited α] {f : α → Nat} : ∀ {l:List α} {k:Nat},k < l.length→f (l.getD k default)+1≤lsz f l
 | [],k,h=>absurd h (Nat.not_lt_zero _)
 | a :: l,0,_=>by unfold lsz;rw [List.map_cons,List.sum_cons,List.length_cons];show f a+1≤_;omega
 | a :: l,k+1,h=>by
  have ih:=zsm (f:=f) (l:=l) (k:=k) (by simpa using h)
  show f (l.getD k default)+1≤_
  unfold lsz at *
  rw [List.map_cons,List.sum_cons,List.length_cons]
  omega
theorem zt8 {g:DGrammar} (h:g.sz≤1048576) (nm:ByteArray):(symS g.fl nm).fu.length≤1048575:=by
 have hz:lsz DSymbol.sz g.fl≤1048576:=by unfold DGrammar.sz at h;omega
 by_cases h0:0≤idxI (PSym nm) g.fl
 ·obtain ⟨k,hk⟩ : ∃ k:Nat,idxI (PSym nm) g.fl=k:=⟨(idxI (PSym nm) g.fl).toNat,by omega⟩
  rw [zh8 hk]
  by_cases hl:k < g.fl.length
  ·have h1:=zsm (f:=DSymbol.sz) hl
   have h2:(g.fl.getD k default).fu.length≤DSymbol.sz (g.fl.getD k default):=by unfold DSymbol.sz lsz;omega
   omega
  ·rw [List.getD_eq_getElem?_getD,List.getElem?_eq_none (by omega)]
   exact Nat.zero_le _
 ·unfold symS
  rw [if_neg h0];exact Nat.zero_le _
theorem zoz {x:DRule} (h:x.sz≤1048576):x.fj.length≤1048576:=by unfold DRule.sz lsz at h;omega
def zdq (p:Int):Int:=if p=0 then 2 else 1
def reqF (k:Nat) (l:List DAttribute):List DAttribute:=l.filter fun a=>a.fv == zdq k
theorem zof {k:Nat} {l:List DAttribute} {j:Nat} (hj:j < l.length) (h:(l.getD j default).fv=zdq k):occP k (reqF k (l.take (j+1)))=occP k (reqF k (l.take j)) ++ [⟨(k:Int),(l.getD j default).fa⟩]:=by
 rw [zcq hj];unfold reqF;rw [List.filter_append,List.filter_cons,if_pos (by rw [h];simp),List.filter_nil];unfold occP;rw [List.map_append];rfl
theorem zq5 {k:Nat} {l:List DAttribute} {j:Nat} (hj:j < l.length) (h:(l.getD j default).fv≠zdq k):occP k (reqF k (l.take (j+1)))=occP k (reqF k (l.take j)):=by
 rw [zcq hj];unfold reqF;rw [List.filter_append,List.filter_cons,if_neg (by simpa using h),List.filter_nil,List.append_nil]
theorem zjv (k:Nat) (l:List DAttribute):(occP k (reqF k l)).length≤l.length:=by rw [zwc];exact List.length_filter_le _ _
def zdj (g:DGrammar) (x:DRule) (k:Nat):List DOccurrence:=occP k (reqF k (symS g.fl (zg x k)).fu)
theorem zkm {g:DGrammar} (h:g.sz≤1048576) (x:DRule) (k:Nat):(zdj g x k).length≤1048575:=Nat.le_trans (zjv _ _) (zt8 h _)
def zaw (g:DGrammar) (x:DRule):List DOccurrence:=catL (zdj g x) (x.fj.length+1)
theorem zfg {g:DGrammar} (h:g.sz≤1048576) {x:DRule} (hx:x.sz≤1048576):(zaw g x).length≤1099511627776:=by
 have h1:=zjq (f:=zdj g x) (zkm h x) (x.fj.length+1);have h2:=zoz hx
 unfold zaw
 omega
theorem zei (p:Int) (w:World) :
  Calls Tryz.prog 87 #[.int .i64 p] w fun e w'=>e = .returned (.int .i64 (zdq p))∧w=w':=by
 by_cases h:p=0
 ·have FIN:=yq (show zdq p=2 from if_pos h)
  subst h
  go_enter Tryz.func87,Tryz.ntmps87
  go_wp2;go_ret
  exact ⟨zan (by rw [FIN.out]),rfl⟩
 ·have FIN:=yq (show zdq p=1 from if_neg h)
  have hd:(p == 0)=false:=by simpa using h
  clear h
  go_enter Tryz.func87,Tryz.ntmps87
  go_wp2;go_ret
  exact ⟨zan (by rw [FIN.out]),rfl⟩
theorem zb4 {lo hi:Nat} {a0 a1 b2 b4 b5:Option Addr} {c0_0 c0_1 c1_0 c1_1 c1_2:Nat} (g:DGrammar) (okg:g.ok) (hszg:g.sz≤1048576) (x:DRule) (okx:x.ok) (hszx:x.sz≤1048576) (w:World) (hhi:hi≤w.heap.size) (hs0:Sl lo hi w 2 g.fl.length (fun k=>DSymbol.ct (g.fl.getD k default)) a0) (hs1:Sl lo hi w 6 g.fm.length (fun k=>DRule.ct (g.fm.getD k default)) a1) (hs2:Sl lo hi w 1 x.fj.length (fun k=>ictS (x.fj.getD k default)) b2) (hs4:Sl lo hi w 9 x.fg.length (fun k=>DEquation.ct (x.fg.getD k default)) b4) (hs5:Sl lo hi w 16 x.fo.length (fun k=>DContribution.ct (x.fo.getD k default)) b5) :
  Calls Tryz.prog 68 #[.agg #[.slice a0 g.fl.length c0_0,.slice a1 g.fm.length c0_1],.agg #[.string x.fa,.string x.fp,.slice b2 x.fj.length c1_0,.bool x.fq,.slice b4 x.fg.length c1_1,.slice b5 x.fo.length c1_2]] w fun e w'=>∃ a c,e = .returned (.slice a (zaw g x).length c)∧Own w' (fun z=>w.heap.size≤z∧z < w'.heap.size) (.sl 2 (zaw g x).length (fun k=>DOccurrence.ct ((zaw g x).getD k default))) (.slice a (zaw g x).length c)∧Below w.heap.size w w':=by
 have hnx:=zoz hszx
 have hzs:lsz DSymbol.sz g.fl≤1048576:=by unfold DGrammar.sz at hszg;omega
 have HZS:=yq hzs;clear hzs
 have HB:=yq (((Below.refl w.heap.size w).alloc (Nat.le_refl _) (.cells #[.slice a0 g.fl.length c0_0,.slice a1 g.fm.length c0_1] 32)).alloc (by simp) (.cells #[.string x.fa,.string x.fp,.slice b2 x.fj.length c1_0,.bool x.fq,.slice b4 x.fg.length c1_1,.slice b5 x.fo.length c1_2] 50))
 have HS0:=yq (hs0.later HB.out hhi);have HS1:=yq (hs1.later HB.out hhi);have HS2:=yq (hs2.later HB.out hhi);have HS4:=yq (hs4.later HB.out hhi);have HS5:=yq (hs5.later HB.out hhi);have HHI:=yq hhi;have HSX:=yq hszx;have OKX:=yq okx;have HZG:=yq hszg;have OKG:=yq okg
 have HLN:=yq (fun k=>zjq (f:=zdj g x) (zkm hszg x) k)
 have HRES:=yq (show (zaw g x)=catL (zdj g x) (x.fj.length+1) from rfl)
 have HGO:=yq (fun (w':World) (v:Value) (K:List DOccurrence) (h:w'.ownsRow (w.heap.size+2) 87 2 v (K).length ((K).flatMap vOcc))=>zd4 (ct:=DOccurrence.ct) (by decide) znq zqw h)
 obtain ⟨i0,hi',hz0,hz1,hz2⟩:=info_parts zom;clear hs0 hs1 hs2 hs4 hs5 hhi hszx okx hszg okg
 have HCG:=yq (show ((w.alloc (.cells #[.slice a0 g.fl.length c0_0,.slice a1 g.fm.length c0_1] 32)).alloc (.cells #[.string x.fa,.string x.fp,.slice b2 x.fj.length c1_0,.bool x.fq,.slice b4 x.fg.length c1_1,.slice b5 x.fo.length c1_2] 50)).heap[w.heap.size]? = some (.cells #[.slice a0 g.fl.length c0_0,.slice a1 g.fm.length c0_1] 32) from zn (by simp) (ze rfl))
 have HCR:=yq (show ((w.alloc (.cells #[.slice a0 g.fl.length c0_0,.slice a1 g.fm.length c0_1] 32)).alloc (.cells #[.string x.fa,.string x.fp,.slice b2 x.fj.length c1_0,.bool x.fq,.slice b4 x.fg.length c1_1,.slice b5 x.fo.length c1_2] 50)).heap[w.heap.size+1]? = some (.cells #[.string x.fa,.string x.fp,.slice b2 x.fj.length c1_0,.bool x.fq,.slice b4 x.fg.length c1_1,.slice b5 x.fo.length c1_2] 50) from ze (by simp))
 have HO0:=yq (show (((w.alloc (.cells #[.slice a0 g.fl.length c0_0,.slice a1 g.fm.length c0_1] 32)).alloc (.cells #[.string x.fa,.string x.fp,.slice b2 x.fj.length c1_0,.bool x.fq,.slice b4 x.fg.length c1_1,.slice b5 x.fo.length c1_2] 50)).alloc (.cells #[] 87)).ownsRow (w.heap.size+2) 87 2 (.slice (some ⟨w.heap.size+2,0,none⟩) 0 0) ([]:List DOccurrence).length (([]:List DOccurrence).flatMap vOcc) from by have h:=zc3 (w:=((w.alloc (.cells #[.slice a0 g.fl.length c0_0,.slice a1 g.fm.length c0_1] 32)).alloc (.cells #[.string x.fa,.string x.fp,.slice b2 x.fj.length c1_0,.bool x.fq,.slice b4 x.fg.length c1_1,.slice b5 x.fo.length c1_2] 50))) (e:=87) (n:=2) (vals:=vOcc);rw [show ((w.alloc (.cells #[.slice a0 g.fl.length c0_0,.slice a1 g.fm.length c0_1] 32)).alloc (.cells #[.string x.fa,.string x.fp,.slice b2 x.fj.length c1_0,.bool x.fq,.slice b4 x.fg.length c1_1,.slice b5 x.fo.length c1_2] 50)).heap.size=w.heap.size+2 by simp] at h;exact h)
 have HE0:=yq (show Below (w.heap.size+2) ((w.alloc (.cells #[.slice a0 g.fl.length c0_0,.slice a1 g.fm.length c0_1] 32)).alloc (.cells #[.string x.fa,.string x.fp,.slice b2 x.fj.length c1_0,.bool x.fq,.slice b4 x.fg.length c1_1,.slice b5 x.fo.length c1_2] 50)) (((w.alloc (.cells #[.slice a0 g.fl.length c0_0,.slice a1 g.fm.length c0_1] 32)).alloc (.cells #[.string x.fa,.string x.fp,.slice b2 x.fj.length c1_0,.bool x.fq,.slice b4 x.fg.length c1_1,.slice b5 x.fo.length c1_2] 50)).alloc (.cells #[] 87)) from (Below.refl _ _).alloc (by simp) _)
 have HZ0:=yq (show ((w.alloc (.cells #[.slice a0 g.fl.length c0_0,.slice a1 g.fm.length c0_1] 32)).alloc (.cells #[.string x.fa,.string x.fp,.slice b2 x.fj.length c1_0,.bool x.fq,.slice b4 x.fg.length c1_1,.slice b5 x.fo.length c1_2] 50)).heap.size=w.heap.size+2 by simp)
 go_enter Tryz.func68,Tryz.ntmps68
 go_wp2
 go_loopw [5,6] (fun v i wr=>∃ j:Nat,j≤x.fj.length+1∧i = .int .i64 (j:Int)∧wr.ownsRow (w.heap.size+2) 87 2 v (catL (zdj g x) j).length ((catL (zdj g x) j).flatMap vOcc)∧Below (w.heap.size+2) ((w.alloc (.cells #[.slice a0 g.fl.length c0_0,.slice a1 g.fm.length c0_1] 32)).alloc (.cells #[.string x.fa,.string x.fp,.slice b2 x.fj.length c1_0,.bool x.fq,.slice b4 x.fg.length c1_1,.slice b5 x.fo.length c1_2] 50)) wr) (fun _ i _=>x.fj.length+1 - (intOf i).toNat)
 case atStart=>exact ⟨0,Nat.zero_le _,rfl,HO0.out,HE0.out⟩
 case round =>
  obtain ⟨j,hj,rfl,hown,hbl⟩:=hrel;obtain ⟨wq,rfl⟩ : ∃ wq:World,wq=wr:=⟨_,rfl⟩;have HO:=yq hown;have HBL:=yq hbl
  have hsz1:w.heap.size+2≤wq.heap.size:=by have:=hbl.size;rw [HZ0.out] at this;exact this
  have hk0:w.heap.size < wq.heap.size:=by omega
  have hk1:w.heap.size+1 < wq.heap.size:=by omega
  have HCG1:=yq ((hbl.block w.heap.size (by omega)).trans HCG.out)
  have HCR1:=yq ((hbl.block (w.heap.size+1) (by omega)).trans HCR.out)
  have HLJ:=yq (HLN.out j)
  have hjn : -9223372036854775808≤(j:Int)∧(j:Int)≤9223372036854775807:=by omega
  have HOJ:=yq (show okI (j:Int) from hjn)
  have g0:wq.cell? ⟨w.heap.size,0,none⟩=some (.slice a0 g.fl.length c0_0):=za (j:=0) (v:=.slice a0 g.fl.length c0_0) HCG1.out rfl;have g1:wq.cell? ⟨w.heap.size,1,none⟩=some (.slice a1 g.fm.length c0_1):=za (j:=1) (v:=.slice a1 g.fm.length c0_1) HCG1.out rfl;have r0:wq.cell? ⟨w.heap.size+1,0,none⟩=some (.string x.fa):=za (j:=0) (v:=.string x.fa) HCR1.out rfl;have r1:wq.cell? ⟨w.heap.size+1,1,none⟩=some (.string x.fp):=za (j:=1) (v:=.string x.fp) HCR1.out rfl;have r2:wq.cell? ⟨w.heap.size+1,2,none⟩=some (.slice b2 x.fj.length c1_0):=za (j:=2) (v:=.slice b2 x.fj.length c1_0) HCR1.out rfl;have r3:wq.cell? ⟨w.heap.size+1,3,none⟩=some (.bool x.fq):=za (j:=3) (v:=.bool x.fq) HCR1.out rfl;have r4:wq.cell? ⟨w.heap.size+1,4,none⟩=some (.slice b4 x.fg.length c1_1):=za (j:=4) (v:=.slice b4 x.fg.length c1_1) HCR1.out rfl;have r5:wq.cell? ⟨w.heap.size+1,5,none⟩=some (.slice b5 x.fo.length c1_2):=za (j:=5) (v:=.slice b5 x.fo.length c1_2) HCR1.out rfl
  have HB1:=yq (show Below w.heap.size w wq from HB.out.trans (hbl.mono (by omega)))
  clear hown hbl
  by_cases hlt:j < x.fj.length+1
  ·have HST:=yq (show catL (zdj g x) (j+1)=catL (zdj g x) j ++ zdj g x j from rfl)
   generalize catL (zdj g x) j=K at *
   have hle:((j:Int)≤(x.fj.length:Int)):=by omega
   (go_wp2_with fail)
   refine zcn [([],none),([],none),([],none),([1,2],none),([0,3],none),([4],none),([5],none),([5],none),([],none),([8,6],some 8),([7],none)] [0,1,2,3,4,5,6,7,9,10] (fun jq9 V L H wx=>match jq9 with|0=>V 0 = .agg #[.slice a0 g.fl.length c0_0,.slice a1 g.fm.length c0_1]|1=>V 1 = .agg #[.string x.fa,.string x.fp,.slice b2 x.fj.length c1_0,.bool x.fq,.slice b4 x.fg.length c1_1,.slice b5 x.fo.length c1_2]|2=>V 2 = .int .i64 (j:Int)|3=>V 3 = .string (zg x (j:Int))|4=>∃ a9 c9,V 4 = .tuple #[.agg #[.string (symS g.fl (zg x (j:Int))).fa,.slice a9 (symS g.fl (zg x (j:Int))).fu.length c9],.bool (symB g.fl (zg x (j:Int)))]∧Own wx (fun y=>L≤y∧y < H) (.sl 4 (symS g.fl (zg x (j:Int))).fu.length (fun k=>DAttribute.ct ((symS g.fl (zg x (j:Int))).fu.getD k default))) (.slice a9 (symS g.fl (zg x (j:Int))).fu.length c9)|5=>V 5=V 4 ∧ ∃ a9_5 c9_5,V 5 = .tuple #[.agg #[.string (symS g.fl (zg x (j:Int))).fa,.slice a9_5 (symS g.fl (zg x (j:Int))).fu.length c9_5],.bool (symB g.fl (zg x (j:Int)))]|6=>(∀ x0 x1,V 5 = .tuple #[x0,x1]→V 6=x0) ∧ ∃ a9_6 c9_6,V 6 = .agg #[.string (symS g.fl (zg x (j:Int))).fa,.slice a9_6 (symS g.fl (zg x (j:Int))).fu.length c9_6]|7=>(∀ x0 x1,V 5 = .tuple #[x0,x1]→V 7=x1)|8=>V 8 = .pointer (some ⟨L,0,none⟩)∧L < H∧wx.cell? ⟨L,0,none⟩=some (.string ⟨#[]⟩)∧wx.frozen? ⟨L,0,none⟩=false∧wx.cell? ⟨L,1,none⟩=some (.slice none 0 0)∧wx.frozen? ⟨L,1,none⟩=false|9=>∀ x0 x1,V 6 = .agg #[x0,x1]→L < H∧wx.cell? ⟨L,0,none⟩=some x0∧wx.frozen? ⟨L,0,none⟩=false∧wx.cell? ⟨L,1,none⟩=some x1∧wx.frozen? ⟨L,1,none⟩=false|10=>V 10=V 7|_=>True) (by kernel_rfl) (by kernel_rfl) ?loc ?lasts ?walk
   case loc =>
    intro k V V' L H wx h0 h1 hG
    match k with
    | 0 =>
     (try dsimp only at hG ⊢);rw [← h0];exact hG
    | 1 =>
     (try dsimp only at hG ⊢);rw [← h0];exact hG
    | 2 =>
     (try dsimp only at hG ⊢);rw [← h0];exact hG
    | 3 =>
     (try dsimp only at hG ⊢);rw [← h0];exact hG
    | 4 =>
     (try dsimp only at hG ⊢);rw [← h0];exact hG
    | 5 =>
     have e4:=h1 4 (by decide)
     (try dsimp only at hG ⊢);rw [← h0,← e4];exact hG
    | 6 =>
     have e5:=h1 5 (by decide)
     (try dsimp only at hG ⊢);rw [← h0,← e5];exact hG
    | 7 =>
     have e5:=h1 5 (by decide)
     (try dsimp only at hG ⊢);rw [← h0,← e5];exact hG
    | 8 =>
     (try dsimp only at hG ⊢);rw [← h0];exact hG
    | 9 =>
     have e6:=h1 6 (by decide)
     (try dsimp only at hG ⊢);rw [← e6];exact hG
    | 10 =>
     have e7:=h1 7 (by decide)
     (try dsimp only at hG ⊢);rw [← h0,← e7];exact hG
    | n+11=>trivial
   case lasts =>
    intro i hi V L H wx wy hB hH hk
    match i,hi with
    | 0,_=>exact fun h=>h
    | 1,_=>exact fun h=>h
    | 2,_=>exact fun h=>h
    | 3,_=>exact fun h=>h
    | 4,_=>exact fun ⟨a9,c9,hv,ho0⟩=>⟨a9,c9,hv,ho0.kept (hk.sub fun x hx=>.inr hx)⟩
    | 5,_=>exact fun h=>h
    | 6,_=>exact fun h=>h
    | 7,_=>exact fun h=>h
    | 8,_=>exact fun ⟨hv,hl,hc0,hf0,hc1,hf1⟩=>⟨hv,hl,(hk.cell (p:=⟨L,0,none⟩) (.inr ⟨Nat.le_refl _,hl⟩) (Nat.lt_of_lt_of_le hl hH)).trans hc0,(hk.frozen (p:=⟨L,0,none⟩) (.inr ⟨Nat.le_refl _,hl⟩) (Nat.lt_of_lt_of_le hl hH)).trans hf0,(hk.cell (p:=⟨L,1,none⟩) (.inr ⟨Nat.le_refl _,hl⟩) (Nat.lt_of_lt_of_le hl hH)).trans hc1,(hk.frozen (p:=⟨L,1,none⟩) (.inr ⟨Nat.le_refl _,hl⟩) (Nat.lt_of_lt_of_le hl hH)).trans hf1⟩
    | 9,_ =>
     intro h x0 x1 hv;obtain ⟨hl,hc0,hf0,hc1,hf1⟩:=h x0 x1 hv;exact ⟨hl,(hk.cell (p:=⟨L,0,none⟩) (.inr ⟨Nat.le_refl _,hl⟩) (Nat.lt_of_lt_of_le hl hH)).trans hc0,(hk.frozen (p:=⟨L,0,none⟩) (.inr ⟨Nat.le_refl _,hl⟩) (Nat.lt_of_lt_of_le hl hH)).trans hf0,(hk.cell (p:=⟨L,1,none⟩) (.inr ⟨Nat.le_refl _,hl⟩) (Nat.lt_of_lt_of_le hl hH)).trans hc1,(hk.frozen (p:=⟨L,1,none⟩) (.inr ⟨Nat.le_refl _,hl⟩) (Nat.lt_of_lt_of_le hl hH)).trans hf1⟩
    | 10,_=>exact fun h=>h
    | n+11,hn=>exact absurd hn (by simp)
   case walk =>
    simp (maxSteps:=4000000) only [free,Nat.reduceAdd,Act.put,List.setIfInBounds_toArray,List.set_cons_succ,List.set_cons_zero]
    refine ⟨?_,?_,?_,?_,?_,?_,?_,?_,?_,?_,?_,?_⟩
    ·intro V L H w1 hb1 hd
     clear hd
     have g0:w1.cell? ⟨w.heap.size,0,none⟩=some (.slice a0 g.fl.length c0_0):=(hb1.cell (p:=⟨w.heap.size,0,none⟩) (by assumption)).trans g0
     have g1:w1.cell? ⟨w.heap.size,1,none⟩=some (.slice a1 g.fm.length c0_1):=(hb1.cell (p:=⟨w.heap.size,1,none⟩) (by assumption)).trans g1
     (go_wp2_with fail);exact zc _ rfl ⟨Below.refl _ _,zb⟩
    ·intro V L H w1 hb1 hd
     clear hd
     have r0:w1.cell? ⟨w.heap.size+1,0,none⟩=some (.string x.fa):=(hb1.cell (p:=⟨w.heap.size+1,0,none⟩) (by assumption)).trans r0
     have r1:w1.cell? ⟨w.heap.size+1,1,none⟩=some (.string x.fp):=(hb1.cell (p:=⟨w.heap.size+1,1,none⟩) (by assumption)).trans r1
     have r2:w1.cell? ⟨w.heap.size+1,2,none⟩=some (.slice b2 x.fj.length c1_0):=(hb1.cell (p:=⟨w.heap.size+1,2,none⟩) (by assumption)).trans r2
     have r3:w1.cell? ⟨w.heap.size+1,3,none⟩=some (.bool x.fq):=(hb1.cell (p:=⟨w.heap.size+1,3,none⟩) (by assumption)).trans r3
     have r4:w1.cell? ⟨w.heap.size+1,4,none⟩=some (.slice b4 x.fg.length c1_1):=(hb1.cell (p:=⟨w.heap.size+1,4,none⟩) (by assumption)).trans r4
     have r5:w1.cell? ⟨w.heap.size+1,5,none⟩=some (.slice b5 x.fo.length c1_2):=(hb1.cell (p:=⟨w.heap.size+1,5,none⟩) (by assumption)).trans r5
     (go_wp2_with fail);exact zc _ rfl ⟨Below.refl _ _,zb⟩
    ·intro V L H w1 hb1 hd
     clear hd;(go_wp2_with fail);exact zc _ rfl ⟨Below.refl _ _,zb⟩
    ·intro V L H w1 hb1 hd
     obtain ⟨⟨_,_,_,hv1⟩,⟨_,_,_,hv2⟩,-⟩:=hd;rw [hv1,hv2];have HV1:=yq hv1;have HV2:=yq hv2;clear hv1 hv2;(go_wp2_with fail)
     refine (zd8 (c0_0:=c1_0) (c0_1:=c1_1) (c0_2:=c1_2) x OKX.out HSX.out (j:Int) HOJ.out _ (Nat.le_trans (Nat.le_trans HHI.out (by omega)) hb1.size) (HS2.out.later (HBL.out.mono (by omega) |>.trans (hb1.mono (by omega))) HHI.out) (HS4.out.later (HBL.out.mono (by omega) |>.trans (hb1.mono (by omega))) HHI.out) (HS5.out.later (HBL.out.mono (by omega) |>.trans (hb1.mono (by omega))) HHI.out)).mono ?_
     rintro e w2 ⟨rfl,hb2⟩;(go_wp2_with fail);exact zc _ rfl ⟨hb2,zb⟩
    ·intro V L H w1 hb1 hd
     obtain ⟨⟨_,_,_,hv0⟩,⟨_,_,_,hv3⟩,-⟩:=hd;rw [hv0,hv3];have HV0:=yq hv0;have HV3:=yq hv3;clear hv0 hv3;(go_wp2_with fail)
     refine (zcx (c0:=c0_0) (c1:=c0_1) (a1:=a1) (n1:=g.fm.length) g.fl HZS.out (zg x (j:Int)) _ (Nat.le_trans (Nat.le_trans HHI.out (by omega)) hb1.size) (HS0.out.later (HBL.out.mono (by omega) |>.trans (hb1.mono (by omega))) HHI.out)).mono ?_
     rintro e w2 ⟨⟨a9,c9,rfl,ho⟩,hb2⟩;(go_wp2_with fail);exact zc _ rfl ⟨hb2,Exists.intro a9 (Exists.intro c9 (And.intro (zb) (ho)))⟩
    ·intro V L H w1 hb1 hd
     obtain ⟨⟨hL4,_,hH4,a9,c9,hv4,ho4_0⟩,-⟩:=hd;rw [hv4];have HV4:=yq hv4;clear hv4;(go_wp2_with fail)
     exact zc _ rfl ⟨Below.refl _ _,And.intro (zb.trans (HV4.out.symm.trans (zam (by decide)).symm)) ⟨_,_,zb⟩⟩
    ·intro V L H w1 hb1 hd
     obtain ⟨⟨_,_,_,hv5,a9_5,c9_5,hz5⟩,-⟩:=hd;clear hv5;rw [hz5];have HV5:=yq hz5;clear hz5;(go_wp2_with fail)
     exact zc _ rfl ⟨Below.refl _ _,And.intro (fun x0 x1 h=>by cases (HV5.out.symm.trans ((zam (by decide)).symm.trans h));exact zb) ⟨_,_,zb⟩⟩
    ·intro V L H w1 hb1 hd
     obtain ⟨⟨_,_,_,hv5,a9_5,c9_5,hz5⟩,-⟩:=hd;clear hv5;rw [hz5];have HV5:=yq hz5;clear hz5;(go_wp2_with fail)
     exact zc _ rfl ⟨Below.refl _ _,fun x0 x1 h=>by cases (HV5.out.symm.trans ((zam (by decide)).symm.trans h));exact zb⟩
    ·intro V L H w1 hb1 hd
     clear hd;(go_wp2_with fail);refine zc _ rfl ⟨Below.alloc (Below.refl _ _) (Nat.le_refl _) _,zb,?_,?_,?_,?_,?_⟩
     ·simp
     all_goals go_simp
    ·intro V L H w1 hb1 hd
     obtain ⟨⟨_,_,_,hv8,hlt8,hc8_0,hf8_0,hc8_1,hf8_1⟩,⟨_,_,_,hv6,a9_6,c9_6,hz6⟩,-⟩:=hd;clear hv6;rw [hv8,hz6];have HV8:=yq hv8;have HV6:=yq hz6;clear hv8 hz6;(go_wp2_with fail)
     refine zc undef rfl ⟨(Touches.put (L:=L 8) (H:=H 8) (Touches.put (L:=L 8) (H:=H 8) Touches.refl (p:=⟨L 8,0,none⟩) ⟨Nat.le_refl _,hlt8⟩ _) (p:=⟨L 8,1,none⟩) ⟨Nat.le_refl _,hlt8⟩ _),fun x0 x1 h=>?_⟩
     cases (HV6.out.symm.trans ((zam (by decide)).symm.trans h))
     refine ⟨hlt8,?_,?_,?_,?_⟩
     all_goals go_simp
    ·intro V L H w1 hb1 hd
     obtain ⟨⟨_,_,_,hv7⟩,-⟩:=hd;clear hv7;(go_wp2_with fail)
     exact zc _ rfl ⟨Below.refl _ _,zb.trans (zam (by decide)).symm⟩
    ·intro V L H w1 hb1 hd hap hdead
     obtain ⟨⟨_,_,_,hv0⟩,⟨_,_,_,hv1⟩,⟨_,_,_,hv2⟩,⟨_,_,_,hv3⟩,⟨hL4,_,hH4,a9,c9,hv4,ho4_0⟩,⟨_,_,_,hv5,a9_5,c9_5,hz5⟩,⟨_,_,_,hv6,a9_6,c9_6,hz6⟩,⟨_,_,_,hv7⟩,⟨_,_,_,hst9_⟩,⟨_,_,_,hv10⟩,-⟩:=hd;have hv5':=hv5.trans hv4;have hv6':=hv6 _ _ hv5';have hv7':=hv7 _ _ hv5';have hv10':=hv10.trans hv7';obtain ⟨vlt,vc0,vf0,vc1,vf1⟩:=hst9_ _ _ hv6'
     obtain ⟨hLe,hHe,wo,hva,-⟩:=hdead 9 8 (by decide) rfl
     rw [← hLe] at hva;rw [hv0,hv1,hv2,hv3,hv4,hv5',hv6',hv7',hva,hv10'];clear hv0 hv1 hv2 hv3 hv4 hv5' hv6' hv7' hva hv10' hv5 hv6 hv7 hv10;clear hLe hHe
     have g0:w1.cell? ⟨w.heap.size,0,none⟩=some (.slice a0 g.fl.length c0_0):=(hb1.cell (p:=⟨w.heap.size,0,none⟩) (by assumption)).trans g0
     have g1:w1.cell? ⟨w.heap.size,1,none⟩=some (.slice a1 g.fm.length c0_1):=(hb1.cell (p:=⟨w.heap.size,1,none⟩) (by assumption)).trans g1
     have r0:w1.cell? ⟨w.heap.size+1,0,none⟩=some (.string x.fa):=(hb1.cell (p:=⟨w.heap.size+1,0,none⟩) (by assumption)).trans r0
     have r1:w1.cell? ⟨w.heap.size+1,1,none⟩=some (.string x.fp):=(hb1.cell (p:=⟨w.heap.size+1,1,none⟩) (by assumption)).trans r1
     have r2:w1.cell? ⟨w.heap.size+1,2,none⟩=some (.slice b2 x.fj.length c1_0):=(hb1.cell (p:=⟨w.heap.size+1,2,none⟩) (by assumption)).trans r2
     have r3:w1.cell? ⟨w.heap.size+1,3,none⟩=some (.bool x.fq):=(hb1.cell (p:=⟨w.heap.size+1,3,none⟩) (by assumption)).trans r3
     have r4:w1.cell? ⟨w.heap.size+1,4,none⟩=some (.slice b4 x.fg.length c1_1):=(hb1.cell (p:=⟨w.heap.size+1,4,none⟩) (by assumption)).trans r4
     have r5:w1.cell? ⟨w.heap.size+1,5,none⟩=some (.slice b5 x.fo.length c1_2):=(hb1.cell (p:=⟨w.heap.size+1,5,none⟩) (by assumption)).trans r5
     have HSA:Hid (Sl wq.heap.size w1.heap.size w1 4 (symS g.fl (zg x (j:Int))).fu.length (fun k=>DAttribute.ct ((symS g.fl (zg x (j:Int))).fu.getD k default)) a9):=Sl.of (ho4_0.lies fun y hy=>⟨Nat.le_trans hL4 hy.1,Nat.lt_of_lt_of_le hy.2 hH4⟩)
     have HLA:=yq (show (symS g.fl (zg x (j:Int))).fu.length≤1048576 from zsi HZG.out _)
     have HAT:=yq (show zdj g x j=occP j (reqF j (symS g.fl (zg x (j:Int))).fu) from rfl)
     have HO1:=yq (zb5 HO.out hb1);have HBL1:=yq (HBL.out.trans (hb1.mono hsz1));have hsz2:wq.heap.size≤w1.heap.size:=hb1.size
     have HOLT:=yq (fun g hg=>HO.out.lt g hg)
     have hbx:=Nat.lt_of_lt_of_le vlt (show H 9≤w1.heap.size from by assumption)
     have hbo:wq.heap.size≤L 9:=by assumption
     have HBX0:=yq vc0;have HBX1:=yq vc1;clear hb1 ho4_0 hap hdead;generalize hlst:(symS g.fl (zg x (j:Int))).fu=lst at *;clear hlst
     by_cases hj0:j=0
     ·have hd0:((j:Int) == 0)=true:=by simp [hj0]
      have HMD:=yq (show zdq (j:Int)=2 from by unfold zdq;rw [if_pos (by omega)])
      clear hj0;go_wp2
      go_loopw [5,10] (fun v i wr=>∃ t:Nat,t≤lst.length∧i = .int .i64 (t:Int)∧wr.ownsRow (w.heap.size+2) 87 2 v (K ++ occP j (reqF j (lst.take t))).length ((K ++ occP j (reqF j (lst.take t))).flatMap vOcc) ∧ ∃ v0,GInv v0 w1 v wr∧(∀ g,v0.ownBlock=some g→w.heap.size+2≤g∧g < wq.heap.size)) (fun _ i _=>lst.length - (intOf i).toNat)
      case atStart =>
       refine ⟨0,Nat.zero_le _,rfl,?_,_,GInv.start ya,HOLT.out⟩
       rw [show occP j (reqF j (lst.take 0))=[] from rfl,List.append_nil]
       exact zb5 HO1.out ya
      case round =>
       obtain ⟨t,ht,rfl,hown,v0,hinv,hv0⟩:=hrel;have HOR:=yq hown;have HIR:=yq hinv;have hszr:w1.heap.size≤wr.heap.size:=hinv.1.size
       have HAR:=yq (hinv.sl HSA.out (fun g hg=>by have:=hv0 g hg;omega) (by omega))
       have hlen:(K ++ occP j (reqF j (lst.take t))).length≤1099513724928:=by
        have h1:=HLJ.out;have h2:=HLA.out;rw [List.length_append]
        have h3:(lst.take t).length≤lst.length:=by rw [List.length_take];omega
        have h4:=zjv j (lst.take t)
        omega
       have q1:wr.cell? ⟨L 9,1,none⟩=some (.slice a9 lst.length c9):=(World.cell?_of_block (a:=⟨L 9,1,none⟩) (hinv.block (k:=L 9) hbx (fun e=>by have h9:=(hv0 (L 9) e).2;omega))).trans HBX1.out
       have hkb:L 9 < wr.heap.size:=by omega
       have HV0:=yq hv0;clear hown hinv hv0
       by_cases hlt2:t < lst.length
       ·obtain ⟨b,off,rfl,_,hbh,hc⟩:=HAR.out.at t hlt2
        obtain ⟨hd_0,hd_1,hd_2,hd_3⟩:=DAttribute.open hc
        have hbw2:b < wr.heap.size:=by omega
        have htI:(0:Int)≤(t:Int)∧(t:Int) < (lst.length:Int):=by omega
        have htB:t≤1048576:=by have:=HLA.out;omega
        have HY:=yq (fun (h:(lst.getD t default).fv=zdq (j:Int))=>zof hlt2 h)
        have HN:=yq (fun (h:(lst.getD t default).fv≠zdq (j:Int))=>zq5 hlt2 h)
        clear hc;generalize occP j (reqF j (lst.take t))=KP at *;generalize lst.getD t default=at1 at *;obtain ⟨t0,t1,t2,t3⟩:=at1
        dsimp only at *
        rw [HMD.out] at HY HN
        by_cases hm:t2=2
        ·have HE:=yq (HY.out hm)
         have hdm:(t2 == 2)=true:=by rw [hm];simp
         clear HY HN hm
         have hgb:(w.heap.size+2)≤wr.heap.size:=by omega
         go_wp2_with (at_builtin;refine wpList_append_own_at _ rfl (.tmp 44) (.tmp 53) 84 rfl (w.heap.size+2) 87 i0 (.agg #[.int .i64 0,.string ⟨#[]⟩]) 2 24 Tryz.underlying84 hi' hz0 hz1 hz2 rfl (by decide) _ _ _ rfl (HOR.out.alloc _) ⟨wr.heap.size,0,none⟩ 1 1 [.int .i64 (j:Int),.string t0] rfl rfl (by intro q u hu;rcases q with _|_|q<;>simp at hu<;>subst hu<;>first|(go_simp;done)|exact (cell_of_row _ _ _ _ _ _ (ze (by simp))).trans rfl) (by intro u hu;simp at hu;rcases hu with rfl|rfl<;>rfl) yl (by omega) ye ?_;intro v' w9 hown' hgrow hnil hat)
         have R1:=yq (zbs (l:=K ++ KP) (x:=(⟨(j:Int),t0⟩:DOccurrence)) (vals:=vOcc) hown' rfl)
         rw [List.append_assoc,show KP ++ [(⟨(j:Int),t0⟩:DOccurrence)]=_ from HE.out.symm] at R1
         have R3:=yq ((HIR.out.later (show Below wr.heap.size wr _ from ya)).grow hgrow hat)
         clear hown' hgrow hnil hat;go_wp2;go_roundw
         case rel=>exact ⟨t+1,by omega,by go_num,R1.out,v0,R3.out,HV0.out⟩
         case measure=>simp [intOf];omega
        ·have HE:=yq (HN.out hm)
         have hdm:(t2 == 2)=false:=by simpa using hm
         clear HY HN hm;go_wp2;go_roundw
         case rel=>exact ⟨t+1,by omega,by go_num,by rw [HE.out];exact zb5 HOR.out ya,v0,HIR.out.later ya,HV0.out⟩
         case measure=>simp [intOf];omega
       ·obtain rfl:t=lst.length:=by omega
        have ho:=HOR.out;rw [List.take_length,← HAT.out,← HST.out] at ho;have HOF:=yq ho
        have HBF:=yq (HIR.out.below (fun g hg=>(HV0.out g hg).1) HBL1.out (by omega))
        clear ho;go_wp2;go_roundw
        case rel=>exact ⟨j+1,by omega,by go_num,HOF.out,HBF.out⟩
        case measure=>simp [intOf];omega
     ·have hd0:((j:Int) == 0)=false:=by simpa using hj0
      have HMD:=yq (show zdq (j:Int)=1 from by unfold zdq;rw [if_neg (by omega)])
      clear hj0;go_wp2
      go_loopw [5,10] (fun v i wr=>∃ t:Nat,t≤lst.length∧i = .int .i64 (t:Int)∧wr.ownsRow (w.heap.size+2) 87 2 v (K ++ occP j (reqF j (lst.take t))).length ((K ++ occP j (reqF j (lst.take t))).flatMap vOcc) ∧ ∃ v0,GInv v0 w1 v wr∧(∀ g,v0.ownBlock=some g→w.heap.size+2≤g∧g < wq.heap.size)) (fun _ i _=>lst.length - (intOf i).toNat)
      case atStart =>
       refine ⟨0,Nat.zero_le _,rfl,?_,_,GInv.start ya,HOLT.out⟩
       rw [show occP j (reqF j (lst.take 0))=[] from rfl,List.append_nil]
       exact zb5 HO1.out ya
      case round =>
       obtain ⟨t,ht,rfl,hown,v0,hinv,hv0⟩:=hrel;have HOR:=yq hown;have HIR:=yq hinv;have hszr:w1.heap.size≤wr.heap.size:=hinv.1.size
       have HAR:=yq (hinv.sl HSA.out (fun g hg=>by have:=hv0 g hg;omega) (by omega))
       have hlen:(K ++ occP j (reqF j (lst.take t))).length≤1099513724928:=by
        have h1:=HLJ.out;have h2:=HLA.out;rw [List.length_append]
        have h3:(lst.take t).length≤lst.length:=by rw [List.length_take];omega
        have h4:=zjv j (lst.take t)
        omega
       have q1:wr.cell? ⟨L 9,1,none⟩=some (.slice a9 lst.length c9):=(World.cell?_of_block (a:=⟨L 9,1,none⟩) (hinv.block (k:=L 9) hbx (fun e=>by have h9:=(hv0 (L 9) e).2;omega))).trans HBX1.out
       have hkb:L 9 < wr.heap.size:=by omega
       have HV0:=yq hv0;clear hown hinv hv0
       by_cases hlt2:t < lst.length
       ·obtain ⟨b,off,rfl,_,hbh,hc⟩:=HAR.out.at t hlt2
        obtain ⟨hd_0,hd_1,hd_2,hd_3⟩:=DAttribute.open hc
        have hbw2:b < wr.heap.size:=by omega
        have htI:(0:Int)≤(t:Int)∧(t:Int) < (lst.length:Int):=by omega
        have htB:t≤1048576:=by have:=HLA.out;omega
        have HY:=yq (fun (h:(lst.getD t default).fv=zdq (j:Int))=>zof hlt2 h)
        have HN:=yq (fun (h:(lst.getD t default).fv≠zdq (j:Int))=>zq5 hlt2 h)
        clear hc;generalize occP j (reqF j (lst.take t))=KP at *;generalize lst.getD t default=at1 at *;obtain ⟨t0,t1,t2,t3⟩:=at1
        dsimp only at *
        rw [HMD.out] at HY HN
        by_cases hm:t2=1
        ·have HE:=yq (HY.out hm)
         have hdm:(t2 == 1)=true:=by rw [hm];simp
         clear HY HN hm
         have hgb:(w.heap.size+2)≤wr.heap.size:=by omega
         go_wp2_with (at_builtin;refine wpList_append_own_at _ rfl (.tmp 44) (.tmp 53) 84 rfl (w.heap.size+2) 87 i0 (.agg #[.int .i64 0,.string ⟨#[]⟩]) 2 24 Tryz.underlying84 hi' hz0 hz1 hz2 rfl (by decide) _ _ _ rfl (HOR.out.alloc _) ⟨wr.heap.size,0,none⟩ 1 1 [.int .i64 (j:Int),.string t0] rfl rfl (by intro q u hu;rcases q with _|_|q<;>simp at hu<;>subst hu<;>first|(go_simp;done)|exact (cell_of_row _ _ _ _ _ _ (ze (by simp))).trans rfl) (by intro u hu;simp at hu;rcases hu with rfl|rfl<;>rfl) yl (by omega) ye ?_;intro v' w9 hown' hgrow hnil hat)
         have R1:=yq (zbs (l:=K ++ KP) (x:=(⟨(j:Int),t0⟩:DOccurrence)) (vals:=vOcc) hown' rfl)
         rw [List.append_assoc,show KP ++ [(⟨(j:Int),t0⟩:DOccurrence)]=_ from HE.out.symm] at R1
         have R3:=yq ((HIR.out.later (show Below wr.heap.size wr _ from ya)).grow hgrow hat)
         clear hown' hgrow hnil hat;go_wp2;go_roundw
         case rel=>exact ⟨t+1,by omega,by go_num,R1.out,v0,R3.out,HV0.out⟩
         case measure=>simp [intOf];omega
        ·have HE:=yq (HN.out hm)
         have hdm:(t2 == 1)=false:=by simpa using hm
         clear HY HN hm;go_wp2;go_roundw
         case rel=>exact ⟨t+1,by omega,by go_num,by rw [HE.out];exact zb5 HOR.out ya,v0,HIR.out.later ya,HV0.out⟩
         case measure=>simp [intOf];omega
       ·obtain rfl:t=lst.length:=by omega
        have ho:=HOR.out;rw [List.take_length,← HAT.out,← HST.out] at ho;have HOF:=yq ho
        have HBF:=yq (HIR.out.below (fun g hg=>(HV0.out g hg).1) HBL1.out (by omega))
        clear ho;go_wp2;go_roundw
        case rel=>exact ⟨j+1,by omega,by go_num,HOF.out,HBF.out⟩
        case measure=>simp [intOf];omega
  ·obtain rfl:j=x.fj.length+1:=by omega
   have hle : ¬ (((x.fj.length+1:Nat):Int)≤(x.fj.length:Int)):=by omega
   go_wp2;go_ret;have ho:=HO.out;rw [← HRES.out] at ho;obtain ⟨a,c,h1,h2⟩:=HGO.out _ _ _ ho
   exact ⟨a,c,congrArg Ending.returned h1,h2.sub fun z hz=>⟨by omega,hz.2⟩,HB1.out⟩
theorem zb7 {lo hi:Nat} {a0 a1 b2 b4 b5:Option Addr} {c0_0 c0_1 c1_0 c1_1 c1_2:Nat} (g:DGrammar) (okg:g.ok) (hszg:g.sz≤1048576) (x:DRule) (okx:x.ok) (hszx:x.sz≤1048576) (w:World) (hhi:hi≤w.heap.size) (hs0:Sl lo hi w 2 g.fl.length (fun k=>DSymbol.ct (g.fl.getD k default)) a0) (hs1:Sl lo hi w 6 g.fm.length (fun k=>DRule.ct (g.fm.getD k default)) a1) (hs2:Sl lo hi w 1 x.fj.length (fun k=>ictS (x.fj.getD k default)) b2) (hs4:Sl lo hi w 9 x.fg.length (fun k=>DEquation.ct (x.fg.getD k default)) b4) (hs5:Sl lo hi w 16 x.fo.length (fun k=>DContribution.ct (x.fo.getD k default)) b5) :
  Calls Tryz.prog 51 #[.agg #[.slice a0 g.fl.length c0_0,.slice a1 g.fm.length c0_1],.agg #[.string x.fa,.string x.fp,.slice b2 x.fj.length c1_0,.bool x.fq,.slice b4 x.fg.length c1_1,.slice b5 x.fo.length c1_2]] w fun e w'=>∃ a c,e = .returned (.slice a (zaw g x).length c)∧Own w' (fun z=>w.heap.size≤z∧z < w'.heap.size) (.sl 2 (zaw g x).length (fun k=>DOccurrence.ct ((zaw g x).getD k default))) (.slice a (zaw g x).length c)∧Below w.heap.size w w':=by
 have hnx:=zoz hszx
 have hzs:lsz DSymbol.sz g.fl≤1048576:=by unfold DGrammar.sz at hszg;omega
 have HZS:=yq hzs;clear hzs
 have HB:=yq (((Below.refl w.heap.size w).alloc (Nat.le_refl _) (.cells #[.slice a0 g.fl.length c0_0,.slice a1 g.fm.length c0_1] 32)).alloc (by simp) (.cells #[.string x.fa,.string x.fp,.slice b2 x.fj.length c1_0,.bool x.fq,.slice b4 x.fg.length c1_1,.slice b5 x.fo.length c1_2] 50))
 have HS0:=yq (hs0.later HB.out hhi);have HS1:=yq (hs1.later HB.out hhi);have HS2:=yq (hs2.later HB.out hhi);have HS4:=yq (hs4.later HB.out hhi);have HS5:=yq (hs5.later HB.out hhi);have HHI:=yq hhi;have HSX:=yq hszx;have OKX:=yq okx;have HZG:=yq hszg;have OKG:=yq okg
 have HLN:=yq (fun k=>zjq (f:=zdj g x) (zkm hszg x) k)
 have HRES:=yq (show (zaw g x)=catL (zdj g x) (x.fj.length+1) from rfl)
 have HGO:=yq (fun (w':World) (v:Value) (K:List DOccurrence) (h:w'.ownsRow (w.heap.size+2) 87 2 v (K).length ((K).flatMap vOcc))=>zd4 (ct:=DOccurrence.ct) (by decide) znq zqw h)
 obtain ⟨i0,hi',hz0,hz1,hz2⟩:=info_parts zom;clear hs0 hs1 hs2 hs4 hs5 hhi hszx okx hszg okg
 have HCG:=yq (show ((w.alloc (.cells #[.slice a0 g.fl.length c0_0,.slice a1 g.fm.length c0_1] 32)).alloc (.cells #[.string x.fa,.string x.fp,.slice b2 x.fj.length c1_0,.bool x.fq,.slice b4 x.fg.length c1_1,.slice b5 x.fo.length c1_2] 50)).heap[w.heap.size]? = some (.cells #[.slice a0 g.fl.length c0_0,.slice a1 g.fm.length c0_1] 32) from zn (by simp) (ze rfl))
 have HCR:=yq (show ((w.alloc (.cells #[.slice a0 g.fl.length c0_0,.slice a1 g.fm.length c0_1] 32)).alloc (.cells #[.string x.fa,.string x.fp,.slice b2 x.fj.length c1_0,.bool x.fq,.slice b4 x.fg.length c1_1,.slice b5 x.fo.length c1_2] 50)).heap[w.heap.size+1]? = some (.cells #[.string x.fa,.string x.fp,.slice b2 x.fj.length c1_0,.bool x.fq,.slice b4 x.fg.length c1_1,.slice b5 x.fo.length c1_2] 50) from ze (by simp))
 have HE0:=yq (show Below (w.heap.size+2) ((w.alloc (.cells #[.slice a0 g.fl.length c0_0,.slice a1 g.fm.length c0_1] 32)).alloc (.cells #[.string x.fa,.string x.fp,.slice b2 x.fj.length c1_0,.bool x.fq,.slice b4 x.fg.length c1_1,.slice b5 x.fo.length c1_2] 50)) ((w.alloc (.cells #[.slice a0 g.fl.length c0_0,.slice a1 g.fm.length c0_1] 32)).alloc (.cells #[.string x.fa,.string x.fp,.slice b2 x.fj.length c1_0,.bool x.fq,.slice b4 x.fg.length c1_1,.slice b5 x.fo.length c1_2] 50)) from Below.refl _ _)
 have HZ0:=yq (show ((w.alloc (.cells #[.slice a0 g.fl.length c0_0,.slice a1 g.fm.length c0_1] 32)).alloc (.cells #[.string x.fa,.string x.fp,.slice b2 x.fj.length c1_0,.bool x.fq,.slice b4 x.fg.length c1_1,.slice b5 x.fo.length c1_2] 50)).heap.size=w.heap.size+2 by simp)
 go_enter Tryz.func51,Tryz.ntmps51
 go_wp2
 go_loopw [5,15] (fun v i wr=>∃ j:Nat,j≤x.fj.length+1∧i = .int .i64 (j:Int)∧wr.ownsRow (w.heap.size+2) 87 2 v (catL (zdj g x) j).length ((catL (zdj g x) j).flatMap vOcc)∧Below (w.heap.size+2) ((w.alloc (.cells #[.slice a0 g.fl.length c0_0,.slice a1 g.fm.length c0_1] 32)).alloc (.cells #[.string x.fa,.string x.fp,.slice b2 x.fj.length c1_0,.bool x.fq,.slice b4 x.fg.length c1_1,.slice b5 x.fo.length c1_2] 50)) wr) (fun _ i _=>x.fj.length+1 - (intOf i).toNat)
 case atStart=>exact ⟨0,Nat.zero_le _,rfl,zg7,HE0.out⟩
 case round =>
  obtain ⟨j,hj,rfl,hown,hbl⟩:=hrel;obtain ⟨wq,rfl⟩ : ∃ wq:World,wq=wr:=⟨_,rfl⟩;have HO:=yq hown;have HBL:=yq hbl
  have hsz1:w.heap.size+2≤wq.heap.size:=by have:=hbl.size;rw [HZ0.out] at this;exact this
  have hk0:w.heap.size < wq.heap.size:=by omega
  have hk1:w.heap.size+1 < wq.heap.size:=by omega
  have HCG1:=yq ((hbl.block w.heap.size (by omega)).trans HCG.out)
  have HCR1:=yq ((hbl.block (w.heap.size+1) (by omega)).trans HCR.out)
  have HLJ:=yq (HLN.out j)
  have hjn : -9223372036854775808≤(j:Int)∧(j:Int)≤9223372036854775807:=by omega
  have HOJ:=yq (show okI (j:Int) from hjn)
  have g0:wq.cell? ⟨w.heap.size,0,none⟩=some (.slice a0 g.fl.length c0_0):=za (j:=0) (v:=.slice a0 g.fl.length c0_0) HCG1.out rfl;have g1:wq.cell? ⟨w.heap.size,1,none⟩=some (.slice a1 g.fm.length c0_1):=za (j:=1) (v:=.slice a1 g.fm.length c0_1) HCG1.out rfl;have r0:wq.cell? ⟨w.heap.size+1,0,none⟩=some (.string x.fa):=za (j:=0) (v:=.string x.fa) HCR1.out rfl;have r1:wq.cell? ⟨w.heap.size+1,1,none⟩=some (.string x.fp):=za (j:=1) (v:=.string x.fp) HCR1.out rfl;have r2:wq.cell? ⟨w.heap.size+1,2,none⟩=some (.slice b2 x.fj.length c1_0):=za (j:=2) (v:=.slice b2 x.fj.length c1_0) HCR1.out rfl;have r3:wq.cell? ⟨w.heap.size+1,3,none⟩=some (.bool x.fq):=za (j:=3) (v:=.bool x.fq) HCR1.out rfl;have r4:wq.cell? ⟨w.heap.size+1,4,none⟩=some (.slice b4 x.fg.length c1_1):=za (j:=4) (v:=.slice b4 x.fg.length c1_1) HCR1.out rfl;have r5:wq.cell? ⟨w.heap.size+1,5,none⟩=some (.slice b5 x.fo.length c1_2):=za (j:=5) (v:=.slice b5 x.fo.length c1_2) HCR1.out rfl
  have HB1:=yq (show Below w.heap.size w wq from HB.out.trans (hbl.mono (by omega)))
  clear hown hbl
  by_cases hlt:j < x.fj.length+1
  ·have HST:=yq (show catL (zdj g x) (j+1)=catL (zdj g x) j ++ zdj g x j from rfl)
   generalize catL (zdj g x) j=K at *
   have hle:((j:Int) < (x.fj.length:Int)+1):=by omega
   (go_wp2_with fail)
   refine zcn [([],none),([],none),([],none),([1,2],none),([0,3],none),([4],none),([5],none),([5],none),([],none),([8,6],some 8),([7],none)] [0,1,2,3,4,5,6,7,9,10] (fun jq9 V L H wx=>match jq9 with|0=>V 0 = .agg #[.slice a0 g.fl.length c0_0,.slice a1 g.fm.length c0_1]|1=>V 1 = .agg #[.string x.fa,.string x.fp,.slice b2 x.fj.length c1_0,.bool x.fq,.slice b4 x.fg.length c1_1,.slice b5 x.fo.length c1_2]|2=>V 2 = .int .i64 (j:Int)|3=>V 3 = .string (zg x (j:Int))|4=>∃ a9 c9,V 4 = .tuple #[.agg #[.string (symS g.fl (zg x (j:Int))).fa,.slice a9 (symS g.fl (zg x (j:Int))).fu.length c9],.bool (symB g.fl (zg x (j:Int)))]∧Sl lo hi wx 4 (symS g.fl (zg x (j:Int))).fu.length (fun k=>DAttribute.ct ((symS g.fl (zg x (j:Int))).fu.getD k default)) a9|5=>V 5=V 4 ∧ ∃ a9_5 c9_5,V 5 = .tuple #[.agg #[.string (symS g.fl (zg x (j:Int))).fa,.slice a9_5 (symS g.fl (zg x (j:Int))).fu.length c9_5],.bool (symB g.fl (zg x (j:Int)))]|6=>(∀ x0 x1,V 5 = .tuple #[x0,x1]→V 6=x0) ∧ ∃ a9_6 c9_6,V 6 = .agg #[.string (symS g.fl (zg x (j:Int))).fa,.slice a9_6 (symS g.fl (zg x (j:Int))).fu.length c9_6]|7=>(∀ x0 x1,V 5 = .tuple #[x0,x1]→V 7=x1)|8=>V 8 = .pointer (some ⟨L,0,none⟩)∧L < H∧wx.cell? ⟨L,0,none⟩=some (.string ⟨#[]⟩)∧wx.frozen? ⟨L,0,none⟩=false∧wx.cell? ⟨L,1,none⟩=some (.slice none 0 0)∧wx.frozen? ⟨L,1,none⟩=false|9=>∀ x0 x1,V 6 = .agg #[x0,x1]→L < H∧wx.cell? ⟨L,0,none⟩=some x0∧wx.frozen? ⟨L,0,none⟩=false∧wx.cell? ⟨L,1,none⟩=some x1∧wx.frozen? ⟨L,1,none⟩=false|10=>V 10=V 7|_=>True) (by kernel_rfl) (by kernel_rfl) ?loc ?lasts ?walk
   case loc =>
    intro k V V' L H wx h0 h1 hG
    match k with
    | 0 =>
     (try dsimp only at hG ⊢);rw [← h0];exact hG
    | 1 =>
     (try dsimp only at hG ⊢);rw [← h0];exact hG
    | 2 =>
     (try dsimp only at hG ⊢);rw [← h0];exact hG
    | 3 =>
     (try dsimp only at hG ⊢);rw [← h0];exact hG
    | 4 =>
     (try dsimp only at hG ⊢);rw [← h0];exact hG
    | 5 =>
     have e4:=h1 4 (by decide)
     (try dsimp only at hG ⊢);rw [← h0,← e4];exact hG
    | 6 =>
     have e5:=h1 5 (by decide)
     (try dsimp only at hG ⊢);rw [← h0,← e5];exact hG
    | 7 =>
     have e5:=h1 5 (by decide)
     (try dsimp only at hG ⊢);rw [← h0,← e5];exact hG
    | 8 =>
     (try dsimp only at hG ⊢);rw [← h0];exact hG
    | 9 =>
     have e6:=h1 6 (by decide)
     (try dsimp only at hG ⊢);rw [← e6];exact hG
    | 10 =>
     have e7:=h1 7 (by decide)
     (try dsimp only at hG ⊢);rw [← h0,← e7];exact hG
    | n+11=>trivial
   case lasts =>
    intro i hi V L H wx wy hB hH hk
    match i,hi with
    | 0,_=>exact fun h=>h
    | 1,_=>exact fun h=>h
    | 2,_=>exact fun h=>h
    | 3,_=>exact fun h=>h
    | 4,_=>exact fun ⟨a9,c9,hv,ho0⟩=>⟨a9,c9,hv,zuj ho0 hk (fun b h1 h2=>.inl (Nat.lt_of_lt_of_le h2 (Nat.le_trans HHI.out (by omega)))) (Nat.le_trans (Nat.le_trans HHI.out (by omega)) hB)⟩
    | 5,_=>exact fun h=>h
    | 6,_=>exact fun h=>h
    | 7,_=>exact fun h=>h
    | 8,_=>exact fun ⟨hv,hl,hc0,hf0,hc1,hf1⟩=>⟨hv,hl,(hk.cell (p:=⟨L,0,none⟩) (.inr ⟨Nat.le_refl _,hl⟩) (Nat.lt_of_lt_of_le hl hH)).trans hc0,(hk.frozen (p:=⟨L,0,none⟩) (.inr ⟨Nat.le_refl _,hl⟩) (Nat.lt_of_lt_of_le hl hH)).trans hf0,(hk.cell (p:=⟨L,1,none⟩) (.inr ⟨Nat.le_refl _,hl⟩) (Nat.lt_of_lt_of_le hl hH)).trans hc1,(hk.frozen (p:=⟨L,1,none⟩) (.inr ⟨Nat.le_refl _,hl⟩) (Nat.lt_of_lt_of_le hl hH)).trans hf1⟩
    | 9,_ =>
     intro h x0 x1 hv;obtain ⟨hl,hc0,hf0,hc1,hf1⟩:=h x0 x1 hv;exact ⟨hl,(hk.cell (p:=⟨L,0,none⟩) (.inr ⟨Nat.le_refl _,hl⟩) (Nat.lt_of_lt_of_le hl hH)).trans hc0,(hk.frozen (p:=⟨L,0,none⟩) (.inr ⟨Nat.le_refl _,hl⟩) (Nat.lt_of_lt_of_le hl hH)).trans hf0,(hk.cell (p:=⟨L,1,none⟩) (.inr ⟨Nat.le_refl _,hl⟩) (Nat.lt_of_lt_of_le hl hH)).trans hc1,(hk.frozen (p:=⟨L,1,none⟩) (.inr ⟨Nat.le_refl _,hl⟩) (Nat.lt_of_lt_of_le hl hH)).trans hf1⟩
    | 10,_=>exact fun h=>h
    | n+11,hn=>exact absurd hn (by simp)
   case walk =>
    simp (maxSteps:=4000000) only [free,Nat.reduceAdd,Act.put,List.setIfInBounds_toArray,List.set_cons_succ,List.set_cons_zero]
    refine ⟨?_,?_,?_,?_,?_,?_,?_,?_,?_,?_,?_,?_⟩
    ·intro V L H w1 hb1 hd
     clear hd
     have g0:w1.cell? ⟨w.heap.size,0,none⟩=some (.slice a0 g.fl.length c0_0):=(hb1.cell (p:=⟨w.heap.size,0,none⟩) (by assumption)).trans g0
     have g1:w1.cell? ⟨w.heap.size,1,none⟩=some (.slice a1 g.fm.length c0_1):=(hb1.cell (p:=⟨w.heap.size,1,none⟩) (by assumption)).trans g1
     (go_wp2_with fail);exact zc _ rfl ⟨Below.refl _ _,zb⟩
    ·intro V L H w1 hb1 hd
     clear hd
     have r0:w1.cell? ⟨w.heap.size+1,0,none⟩=some (.string x.fa):=(hb1.cell (p:=⟨w.heap.size+1,0,none⟩) (by assumption)).trans r0
     have r1:w1.cell? ⟨w.heap.size+1,1,none⟩=some (.string x.fp):=(hb1.cell (p:=⟨w.heap.size+1,1,none⟩) (by assumption)).trans r1
     have r2:w1.cell? ⟨w.heap.size+1,2,none⟩=some (.slice b2 x.fj.length c1_0):=(hb1.cell (p:=⟨w.heap.size+1,2,none⟩) (by assumption)).trans r2
     have r3:w1.cell? ⟨w.heap.size+1,3,none⟩=some (.bool x.fq):=(hb1.cell (p:=⟨w.heap.size+1,3,none⟩) (by assumption)).trans r3
     have r4:w1.cell? ⟨w.heap.size+1,4,none⟩=some (.slice b4 x.fg.length c1_1):=(hb1.cell (p:=⟨w.heap.size+1,4,none⟩) (by assumption)).trans r4
     have r5:w1.cell? ⟨w.heap.size+1,5,none⟩=some (.slice b5 x.fo.length c1_2):=(hb1.cell (p:=⟨w.heap.size+1,5,none⟩) (by assumption)).trans r5
     (go_wp2_with fail);exact zc _ rfl ⟨Below.refl _ _,zb⟩
    ·intro V L H w1 hb1 hd
     clear hd;(go_wp2_with fail);exact zc _ rfl ⟨Below.refl _ _,zb⟩
    ·intro V L H w1 hb1 hd
     obtain ⟨⟨_,_,_,hv1⟩,⟨_,_,_,hv2⟩,-⟩:=hd;rw [hv1,hv2];have HV1:=yq hv1;have HV2:=yq hv2;clear hv1 hv2;(go_wp2_with fail)
     refine (zd9 (c0_0:=c1_0) (c0_1:=c1_1) (c0_2:=c1_2) x OKX.out HSX.out (j:Int) HOJ.out _ (Nat.le_trans (Nat.le_trans HHI.out (by omega)) hb1.size) (HS2.out.later (HBL.out.mono (by omega) |>.trans (hb1.mono (by omega))) HHI.out) (HS4.out.later (HBL.out.mono (by omega) |>.trans (hb1.mono (by omega))) HHI.out) (HS5.out.later (HBL.out.mono (by omega) |>.trans (hb1.mono (by omega))) HHI.out)).mono ?_
     rintro e w2 ⟨rfl,hb2⟩;(go_wp2_with fail);exact zc _ rfl ⟨hb2,zb⟩
    ·intro V L H w1 hb1 hd
     obtain ⟨⟨_,_,_,hv0⟩,⟨_,_,_,hv3⟩,-⟩:=hd;rw [hv0,hv3];have HV0:=yq hv0;have HV3:=yq hv3;clear hv0 hv3;(go_wp2_with fail)
     refine (zbw (c0:=c0_0) (c1:=c0_1) (a1:=a1) (n1:=g.fm.length) g.fl HZS.out (zg x (j:Int)) _ (Nat.le_trans (Nat.le_trans HHI.out (by omega)) hb1.size) (HS0.out.later (HBL.out.mono (by omega) |>.trans (hb1.mono (by omega))) HHI.out)).mono ?_
     rintro e w2 ⟨⟨a9,c9,rfl,ho⟩,hb2⟩;(go_wp2_with fail);exact zc _ rfl ⟨hb2,Exists.intro a9 (Exists.intro c9 (And.intro (zb) (ho)))⟩
    ·intro V L H w1 hb1 hd
     obtain ⟨⟨_,_,_,a9,c9,hv4,ho4_0⟩,-⟩:=hd;rw [hv4];have HV4:=yq hv4;clear hv4;(go_wp2_with fail)
     exact zc _ rfl ⟨Below.refl _ _,And.intro (zb.trans (HV4.out.symm.trans (zam (by decide)).symm)) ⟨_,_,zb⟩⟩
    ·intro V L H w1 hb1 hd
     obtain ⟨⟨_,_,_,hv5,a9_5,c9_5,hz5⟩,-⟩:=hd;clear hv5;rw [hz5];have HV5:=yq hz5;clear hz5;(go_wp2_with fail)
     exact zc _ rfl ⟨Below.refl _ _,And.intro (fun x0 x1 h=>by cases (HV5.out.symm.trans ((zam (by decide)).symm.trans h));exact zb) ⟨_,_,zb⟩⟩
    ·intro V L H w1 hb1 hd
     obtain ⟨⟨_,_,_,hv5,a9_5,c9_5,hz5⟩,-⟩:=hd;clear hv5;rw [hz5];have HV5:=yq hz5;clear hz5;(go_wp2_with fail)
     exact zc _ rfl ⟨Below.refl _ _,fun x0 x1 h=>by cases (HV5.out.symm.trans ((zam (by decide)).symm.trans h));exact zb⟩
    ·intro V L H w1 hb1 hd
     clear hd;(go_wp2_with fail);refine zc _ rfl ⟨Below.alloc (Below.refl _ _) (Nat.le_refl _) _,zb,?_,?_,?_,?_,?_⟩
     ·simp
     all_goals go_simp
    ·intro V L H w1 hb1 hd
     obtain ⟨⟨_,_,_,hv8,hlt8,hc8_0,hf8_0,hc8_1,hf8_1⟩,⟨_,_,_,hv6,a9_6,c9_6,hz6⟩,-⟩:=hd;clear hv6;rw [hv8,hz6];have HV8:=yq hv8;have HV6:=yq hz6;clear hv8 hz6;(go_wp2_with fail)
     refine zc undef rfl ⟨(Touches.put (L:=L 8) (H:=H 8) (Touches.put (L:=L 8) (H:=H 8) Touches.refl (p:=⟨L 8,0,none⟩) ⟨Nat.le_refl _,hlt8⟩ _) (p:=⟨L 8,1,none⟩) ⟨Nat.le_refl _,hlt8⟩ _),fun x0 x1 h=>?_⟩
     cases (HV6.out.symm.trans ((zam (by decide)).symm.trans h))
     refine ⟨hlt8,?_,?_,?_,?_⟩
     all_goals go_simp
    ·intro V L H w1 hb1 hd
     obtain ⟨⟨_,_,_,hv7⟩,-⟩:=hd;clear hv7;(go_wp2_with fail)
     exact zc _ rfl ⟨Below.refl _ _,zb.trans (zam (by decide)).symm⟩
    ·intro V L H w1 hb1 hd hap hdead
     obtain ⟨⟨_,_,_,hv0⟩,⟨_,_,_,hv1⟩,⟨_,_,_,hv2⟩,⟨_,_,_,hv3⟩,⟨_,_,_,a9,c9,hv4,ho4_0⟩,⟨_,_,_,hv5,a9_5,c9_5,hz5⟩,⟨_,_,_,hv6,a9_6,c9_6,hz6⟩,⟨_,_,_,hv7⟩,⟨_,_,_,hst9_⟩,⟨_,_,_,hv10⟩,-⟩:=hd;have hv5':=hv5.trans hv4;have hv6':=hv6 _ _ hv5';have hv7':=hv7 _ _ hv5';have hv10':=hv10.trans hv7';obtain ⟨vlt,vc0,vf0,vc1,vf1⟩:=hst9_ _ _ hv6'
     obtain ⟨hLe,hHe,wo,hva,-⟩:=hdead 9 8 (by decide) rfl
     rw [← hLe] at hva;rw [hv0,hv1,hv2,hv3,hv4,hv5',hv6',hv7',hva,hv10'];clear hv0 hv1 hv2 hv3 hv4 hv5' hv6' hv7' hva hv10' hv5 hv6 hv7 hv10;clear hLe hHe
     have g0:w1.cell? ⟨w.heap.size,0,none⟩=some (.slice a0 g.fl.length c0_0):=(hb1.cell (p:=⟨w.heap.size,0,none⟩) (by assumption)).trans g0
     have g1:w1.cell? ⟨w.heap.size,1,none⟩=some (.slice a1 g.fm.length c0_1):=(hb1.cell (p:=⟨w.heap.size,1,none⟩) (by assumption)).trans g1
     have r0:w1.cell? ⟨w.heap.size+1,0,none⟩=some (.string x.fa):=(hb1.cell (p:=⟨w.heap.size+1,0,none⟩) (by assumption)).trans r0
     have r1:w1.cell? ⟨w.heap.size+1,1,none⟩=some (.string x.fp):=(hb1.cell (p:=⟨w.heap.size+1,1,none⟩) (by assumption)).trans r1
     have r2:w1.cell? ⟨w.heap.size+1,2,none⟩=some (.slice b2 x.fj.length c1_0):=(hb1.cell (p:=⟨w.heap.size+1,2,none⟩) (by assumption)).trans r2
     have r3:w1.cell? ⟨w.heap.size+1,3,none⟩=some (.bool x.fq):=(hb1.cell (p:=⟨w.heap.size+1,3,none⟩) (by assumption)).trans r3
     have r4:w1.cell? ⟨w.heap.size+1,4,none⟩=some (.slice b4 x.fg.length c1_1):=(hb1.cell (p:=⟨w.heap.size+1,4,none⟩) (by assumption)).trans r4
     have r5:w1.cell? ⟨w.heap.size+1,5,none⟩=some (.slice b5 x.fo.length c1_2):=(hb1.cell (p:=⟨w.heap.size+1,5,none⟩) (by assumption)).trans r5
     have HSA:Hid (Sl 0 w.heap.size w1 4 (symS g.fl (zg x (j:Int))).fu.length (fun k=>DAttribute.ct ((symS g.fl (zg x (j:Int))).fu.getD k default)) a9):=ho4_0.mono (Nat.zero_le _) HHI.out
     have HLA:=yq (show (symS g.fl (zg x (j:Int))).fu.length≤1048576 from zsi HZG.out _)
     have HAT:=yq (show zdj g x j=occP j (reqF j (symS g.fl (zg x (j:Int))).fu) from rfl)
     have HO1:=yq (zb5 HO.out hb1);have HBL1:=yq (HBL.out.trans (hb1.mono hsz1));have hsz2:wq.heap.size≤w1.heap.size:=hb1.size
     have HOLT:=yq (fun g hg=>HO.out.lt g hg)
     have hbx:=Nat.lt_of_lt_of_le vlt (show H 9≤w1.heap.size from by assumption)
     have hbo:wq.heap.size≤L 9:=by assumption
     have HBX0:=yq vc0;have HBX1:=yq vc1;clear hb1 ho4_0 hap hdead;generalize hlst:(symS g.fl (zg x (j:Int))).fu=lst at *;clear hlst;go_wp2
     go_loopw [5,29] (fun v i wr=>∃ t:Nat,t≤lst.length∧i = .int .i64 (t:Int)∧wr.ownsRow (w.heap.size+2) 87 2 v (K ++ occP j (reqF j (lst.take t))).length ((K ++ occP j (reqF j (lst.take t))).flatMap vOcc) ∧ ∃ v0,GInv v0 w1 v wr∧(∀ g,v0.ownBlock=some g→w.heap.size+2≤g∧g < wq.heap.size)) (fun _ i _=>lst.length - (intOf i).toNat)
     case atStart =>
      refine ⟨0,Nat.zero_le _,rfl,?_,_,GInv.start ya,HOLT.out⟩
      rw [show occP j (reqF j (lst.take 0))=[] from rfl,List.append_nil]
      exact zb5 HO1.out ya
     case round =>
      obtain ⟨t,ht,rfl,hown,v0,hinv,hv0⟩:=hrel;have HOR:=yq hown;have HIR:=yq hinv;have hszr:w1.heap.size≤wr.heap.size:=hinv.1.size
      have HAR:=yq (hinv.sl HSA.out (fun g hg=>by have:=hv0 g hg;omega) (by omega))
      have hlen:(K ++ occP j (reqF j (lst.take t))).length≤1099513724928:=by
       have h1:=HLJ.out;have h2:=HLA.out;rw [List.length_append]
       have h3:(lst.take t).length≤lst.length:=by rw [List.length_take];omega
       have h4:=zjv j (lst.take t)
       omega
      have q1:wr.cell? ⟨L 9,1,none⟩=some (.slice a9 lst.length c9):=(World.cell?_of_block (a:=⟨L 9,1,none⟩) (hinv.block (k:=L 9) hbx (fun e=>by have h9:=(hv0 (L 9) e).2;omega))).trans HBX1.out
      have hkb:L 9 < wr.heap.size:=by omega
      have HV0:=yq hv0;clear hown hinv hv0
      by_cases hlt2:t < lst.length
      ·obtain ⟨b,off,rfl,_,hbh,hc⟩:=HAR.out.at t hlt2
       obtain ⟨hd_0,hd_1,hd_2,hd_3⟩:=DAttribute.open hc
       have hbw2:b < wr.heap.size:=by omega
       have htI:(0:Int)≤(t:Int)∧(t:Int) < (lst.length:Int):=by omega
       have htB:t≤1048576:=by have:=HLA.out;omega
       have HY:=yq (fun (h:(lst.getD t default).fv=zdq (j:Int))=>zof hlt2 h)
       have HN:=yq (fun (h:(lst.getD t default).fv≠zdq (j:Int))=>zq5 hlt2 h)
       clear hc;generalize occP j (reqF j (lst.take t))=KP at *;generalize lst.getD t default=at1 at *;obtain ⟨t0,t1,t2,t3⟩:=at1
       dsimp only at *
       by_cases hm:t2=zdq (j:Int)
       ·have HE:=yq (HY.out hm)
        have hdm:(t2 == zdq (j:Int))=true:=by rw [hm];simp
        have HMQ:=yq (zei (j:Int));generalize zdq (j:Int)=md at *;clear HY HN hm;(go_wp2_with fail)
        go_quiet ((go_at_call 87;exact Calls.quiet_of_same ((HMQ.out _).mono fun _ _ h=>⟨h.1,h.2.symm⟩)))
        have hgb:(w.heap.size+2)≤wr.heap.size:=by omega
        go_wp2_with (at_builtin;refine wpList_append_own_at _ rfl (.tmp 38) (.tmp 43) 84 rfl (w.heap.size+2) 87 i0 (.agg #[.int .i64 0,.string ⟨#[]⟩]) 2 24 Tryz.underlying84 hi' hz0 hz1 hz2 rfl (by decide) _ _ _ rfl ((HOR.out.alloc _).alloc _) ⟨wr.heap.size+1,0,none⟩ 1 1 [.int .i64 (j:Int),.string t0] rfl rfl (by intro q u hu;rcases q with _|_|q<;>simp at hu<;>subst hu<;>first|(go_simp;done)|exact (cell_of_row _ _ _ _ _ _ (ze (by simp))).trans rfl) (by intro u hu;simp at hu;rcases hu with rfl|rfl<;>rfl) yl (by omega) ye ?_;intro v' w9 hown' hgrow hnil hat)
        have R1:=yq (zbs (l:=K ++ KP) (x:=(⟨(j:Int),t0⟩:DOccurrence)) (vals:=vOcc) hown' rfl)
        rw [List.append_assoc,show KP ++ [(⟨(j:Int),t0⟩:DOccurrence)]=_ from HE.out.symm] at R1
        have R3:=yq ((HIR.out.later (show Below wr.heap.size wr _ from ya)).grow hgrow hat)
        clear hown' hgrow hnil hat;go_wp2;go_roundw
        case rel=>exact ⟨t+1,by omega,by go_num,R1.out,v0,R3.out,HV0.out⟩
        case measure=>simp [intOf];omega
       ·have HE:=yq (HN.out hm)
        have hdm:(t2 == zdq (j:Int))=false:=by simpa using hm
        have HMQ:=yq (zei (j:Int));generalize zdq (j:Int)=md at *;clear HY HN hm;(go_wp2_with fail)
        go_quiet ((go_at_call 87;exact Calls.quiet_of_same ((HMQ.out _).mono fun _ _ h=>⟨h.1,h.2.symm⟩)))
        go_wp2;go_roundw
        case rel=>exact ⟨t+1,by omega,by go_num,by rw [HE.out];exact zb5 HOR.out ya,v0,HIR.out.later ya,HV0.out⟩
        case measure=>simp [intOf];omega
      ·obtain rfl:t=lst.length:=by omega
       have ho:=HOR.out;rw [List.take_length,← HAT.out,← HST.out] at ho;have HOF:=yq ho
       have HBF:=yq (HIR.out.below (fun g hg=>(HV0.out g hg).1) HBL1.out (by omega))
       clear ho;go_wp2;go_roundw
       case rel=>exact ⟨j+1,by omega,by go_num,HOF.out,HBF.out⟩
       case measure=>simp [intOf];omega
  ·obtain rfl:j=x.fj.length+1:=by omega
   have hle : ¬ (((x.fj.length+1:Nat):Int) < (x.fj.length:Int)+1):=by omega
   go_wp2;go_ret;have ho:=HO.out;rw [← HRES.out] at ho;obtain ⟨a,c,h1,h2⟩:=HGO.out _ _ _ ho
   exact ⟨a,c,congrArg Ending.returned h1,h2.sub fun z hz=>⟨by omega,hz.2⟩,HB1.out⟩
end Go.Proofs.YtmbaajangkmjdaaGreat
