/-
  The checks of CheckShape in the program: an equation too many.
-/
import Derived.Test.YtmbaajangkmjdaaGreatZz17
import Derived.Test.YtmbaajangkmjdaaGreatZz16
import Derived.Test.YtmbaajangkmjdaaGreatZShapeI2
set_option maxHeartbeats 12800000
set_option maxRecDepth 100000
namespace Go.Proofs.YtmbaajangkmjdaaGreat
open Go.ChangeShapes Go.WideShapes Go.ChangeAt Go.RowKit Go.Deep
theorem WritesF.cellN {F:Nat→Prop} {w w':World} (h:WritesF F w w') {p:Addr} (hp:p.block < w.heap.size) (hn : ¬ F p.block):w'.cell? p=w.cell? p:=World.cell?_of_block (h.block p.block hp hn)
theorem WritesF.grownN {F:Nat→Prop} {a w w':World} {row:Option Nat} (h:WritesF F a w) (hg:w.grownBy w' row) (hF : ∀ g,row=some g→F g):WritesF F a w' :=
 h.trans ⟨hg.os,hg.tape,hg.output,hg.size,fun b hb hn=>hg.block b hb fun e=>hn (hF b e.symm)⟩
theorem zeu {hi:Nat} {a0 a1:Option Addr} {c0_0 c0_1:Nat} {b2 b4 b5:Option Addr} {c1_0 c1_1 c1_2:Nat} (g:DGrammar) (okg:g.ok) (hszg:g.sz≤1048576) (x:DRule) (okx:x.ok) (hszx:x.sz≤1048576) (w:World) (hhi:hi≤w.heap.size) (hs0:Sf 0 hi w 2 g.fl.length (fun k=>DSymbol.ct (g.fl.getD k default)) a0) (hs1:Sf 0 hi w 6 g.fm.length (fun k=>DRule.ct (g.fm.getD k default)) a1) (hs2:Sf 0 hi w 1 x.fj.length (fun k=>ictS (x.fj.getD k default)) b2) (hs4:Sf 0 hi w 9 x.fg.length (fun k=>DEquation.ct (x.fg.getD k default)) b4) (hs5:Sf 0 hi w 16 x.fo.length (fun k=>DContribution.ct (x.fo.getD k default)) b5) :
  Calls Tryz.prog 30 #[.agg #[.slice a0 g.fl.length c0_0,.slice a1 g.fm.length c0_1],.agg #[.string x.fa,.string x.fp,.slice b2 x.fj.length c1_0,.bool x.fq,.slice b4 x.fg.length c1_1,.slice b5 x.fo.length c1_2]] w fun e w'=>e = .returned (.bool (zha g x))∧Below w.heap.size w w':=by
 have HB:=yq (show Below w.heap.size w ((w.alloc (.cells #[.slice a0 g.fl.length c0_0,.slice a1 g.fm.length c0_1] 32)).alloc (.cells #[.string x.fa,.string x.fp,.slice b2 x.fj.length c1_0,.bool x.fq,.slice b4 x.fg.length c1_1,.slice b5 x.fo.length c1_2] 50)) from ((Below.refl w.heap.size w).alloc (Nat.le_refl _) (.cells #[.slice a0 g.fl.length c0_0,.slice a1 g.fm.length c0_1] 32)).alloc (by simp) (.cells #[.string x.fa,.string x.fp,.slice b2 x.fj.length c1_0,.bool x.fq,.slice b4 x.fg.length c1_1,.slice b5 x.fo.length c1_2] 50))
 have HBG:=yq (show ((w.alloc (.cells #[.slice a0 g.fl.length c0_0,.slice a1 g.fm.length c0_1] 32)).alloc (.cells #[.string x.fa,.string x.fp,.slice b2 x.fj.length c1_0,.bool x.fq,.slice b4 x.fg.length c1_1,.slice b5 x.fo.length c1_2] 50)).heap[w.heap.size]? = some (.cells #[.slice a0 g.fl.length c0_0,.slice a1 g.fm.length c0_1] 32) from zn (by simp) (ze rfl))
 have HBR:=yq (show ((w.alloc (.cells #[.slice a0 g.fl.length c0_0,.slice a1 g.fm.length c0_1] 32)).alloc (.cells #[.string x.fa,.string x.fp,.slice b2 x.fj.length c1_0,.bool x.fq,.slice b4 x.fg.length c1_1,.slice b5 x.fo.length c1_2] 50)).heap[w.heap.size+1]? = some (.cells #[.string x.fa,.string x.fp,.slice b2 x.fj.length c1_0,.bool x.fq,.slice b4 x.fg.length c1_1,.slice b5 x.fo.length c1_2] 50) from ze (by simp))
 have HZ:=yq (show ((w.alloc (.cells #[.slice a0 g.fl.length c0_0,.slice a1 g.fm.length c0_1] 32)).alloc (.cells #[.string x.fa,.string x.fp,.slice b2 x.fj.length c1_0,.bool x.fq,.slice b4 x.fg.length c1_1,.slice b5 x.fo.length c1_2] 50)).heap.size=w.heap.size+2 by simp)
 have HS0:=yq (fun (W:World) (hW:Below w.heap.size w W)=>hs0.later hW hhi)
 have HS1:=yq (fun (W:World) (hW:Below w.heap.size w W)=>hs1.later hW hhi)
 have HS2:=yq (fun (W:World) (hW:Below w.heap.size w W)=>hs2.later hW hhi)
 have HS4:=yq (fun (W:World) (hW:Below w.heap.size w W)=>hs4.later hW hhi)
 have HS5:=yq (fun (W:World) (hW:Below w.heap.size w W)=>hs5.later hW hhi)
 have HHI:=yq hhi
 have HB3:=yq (show Below w.heap.size w (((w.alloc (.cells #[.slice a0 g.fl.length c0_0,.slice a1 g.fm.length c0_1] 32)).alloc (.cells #[.string x.fa,.string x.fp,.slice b2 x.fj.length c1_0,.bool x.fq,.slice b4 x.fg.length c1_1,.slice b5 x.fo.length c1_2] 50)).alloc (.map #[] 0)) from HB.out.alloc (by rw [HZ.out];omega) _)
 have HBG3:=yq (show (((w.alloc (.cells #[.slice a0 g.fl.length c0_0,.slice a1 g.fm.length c0_1] 32)).alloc (.cells #[.string x.fa,.string x.fp,.slice b2 x.fj.length c1_0,.bool x.fq,.slice b4 x.fg.length c1_1,.slice b5 x.fo.length c1_2] 50)).alloc (.map #[] 0)).heap[w.heap.size]? = some (.cells #[.slice a0 g.fl.length c0_0,.slice a1 g.fm.length c0_1] 32) from zn ye HBG.out)
 have HBR3:=yq (show (((w.alloc (.cells #[.slice a0 g.fl.length c0_0,.slice a1 g.fm.length c0_1] 32)).alloc (.cells #[.string x.fa,.string x.fp,.slice b2 x.fj.length c1_0,.bool x.fq,.slice b4 x.fg.length c1_1,.slice b5 x.fo.length c1_2] 50)).alloc (.map #[] 0)).heap[w.heap.size+1]? = some (.cells #[.string x.fa,.string x.fp,.slice b2 x.fj.length c1_0,.bool x.fq,.slice b4 x.fg.length c1_1,.slice b5 x.fo.length c1_2] 50) from zn ye HBR.out)
 have HM0:=yq (show MapF Tryz.prog 87 4 okMC embC litB false (((w.alloc (.cells #[.slice a0 g.fl.length c0_0,.slice a1 g.fm.length c0_1] 32)).alloc (.cells #[.string x.fa,.string x.fp,.slice b2 x.fj.length c1_0,.bool x.fq,.slice b4 x.fg.length c1_1,.slice b5 x.fo.length c1_2] 50)).alloc (.map #[] 0)) (w.heap.size+2) 0 (fun _=>false) from HZ.out ▸ MapF.made ((w.alloc (.cells #[.slice a0 g.fl.length c0_0,.slice a1 g.fm.length c0_1] 32)).alloc (.cells #[.string x.fa,.string x.fp,.slice b2 x.fj.length c1_0,.bool x.fq,.slice b4 x.fg.length c1_1,.slice b5 x.fo.length c1_2] 50)))
 have HZ3:=yq (show (((w.alloc (.cells #[.slice a0 g.fl.length c0_0,.slice a1 g.fm.length c0_1] 32)).alloc (.cells #[.string x.fa,.string x.fp,.slice b2 x.fj.length c1_0,.bool x.fq,.slice b4 x.fg.length c1_1,.slice b5 x.fo.length c1_2] 50)).alloc (.map #[] 0)).heap.size=w.heap.size+3 by simp)
 have HLEN:=yq (zfg hszg hszx)
 have HKO:=yq (fun k (hk:k < (zaw g x).length)=>zxf hszg hszx ((zaw g x).getD k default) (by rw [List.getD_eq_getElem?_getD,List.getElem?_eq_getElem hk,Option.getD_some];exact List.getElem_mem hk))
 have HKA:=yq (fun k (hk:k < x.fg.length)=>zyc okx hszx hk)
 have hne:x.fg.length≤1048576:=by unfold DRule.sz lsz at hszx;omega
 have HRQ:=yq (fun (W:World) (hW:Below w.heap.size w W)=>zb7 (c0_0:=c0_0) (c0_1:=c0_1) (c1_0:=c1_0) (c1_1:=c1_1) (c1_2:=c1_2) g okg hszg x okx hszx W (Nat.le_trans HHI.out hW.size) (HS0.out W hW).sl (HS1.out W hW).sl (HS2.out W hW).sl (HS4.out W hW).sl (HS5.out W hW).sl)
 have HR:=yq (show zha g x=anyP (zf4 g x) x.fg.length from rfl)
 have HE:=yq (fun (k:Nat)=>show zf4 g x k = !zc7 g x k (x.fg.getD k default).fAt from rfl)
 have HO0:=yq (zqt g x)
 have HOS:=yq (fun k (hk:k < x.fg.length)=>zq7 g x hk)
 have HOO:=yq (fun k (hk:k < x.fg.length) y hy=>zqa g x (k:=k) hk (y:=y) hy)
 have hmm:=@run_makeMap Tryz.prog;clear hs0 hs1 hs2 hs4 hs5 hhi okg hszg okx hszx HB HBG HBR HZ
 go_enter Tryz.func30,Tryz.ntmps30
 (go_wp2_with fail);clear hmm;generalize (((w.alloc (.cells #[.slice a0 g.fl.length c0_0,.slice a1 g.fm.length c0_1] 32)).alloc (.cells #[.string x.fa,.string x.fp,.slice b2 x.fj.length c1_0,.bool x.fq,.slice b4 x.fg.length c1_1,.slice b5 x.fo.length c1_2] 50)).alloc (.map #[] 0))=w0 at *;refine (HRQ.out _ HB3.out).mono ?_;rintro e wl ⟨al,cl,rfl,hol,hbl⟩;have HBL:=yq (HB3.out.trans (hbl.mono HB3.out.size))
 have HZL:=yq (show w.heap.size+3≤wl.heap.size from HZ3.out ▸ hbl.size)
 have HSL:=yq (show Sl (w.heap.size+3) wl.heap.size wl 2 (zaw g x).length (fun k=>DOccurrence.ct ((zaw g x).getD k default)) al from Sl.of (hol.lies fun y hy=>⟨HZ3.out ▸ hy.1,hy.2⟩))
 have HRL:=yq ((hbl.block (w.heap.size+1) (by rw [HZ3.out];omega)).trans HBR3.out)
 have HML:=yq (show MapF Tryz.prog 87 4 okMC embC litB false wl (w.heap.size+2) 0 (hasO ((zaw g x).take 0)) from (HM0.out.block (hbl.block (w.heap.size+2) (by rw [HZ3.out];omega))).congr (fun _ _=>rfl))
 clear hol hbl HRQ HB3 HBG3 HBR3 HZ3 HM0;generalize zaw g x=lst at *;have hlst:=HLEN.out;go_wp2
 go_loopw [15] (fun i wr=>∃ k:Nat,k≤lst.length∧i = .int .i64 (k:Int)∧MapF Tryz.prog 87 4 okMC embC litB false wr (w.heap.size+2) k (hasO (lst.take k))∧WritesF (fun y=>y=w.heap.size+2) wl wr) (fun i _=>lst.length - (intOf i).toNat)
 case atStart=>exact ⟨0,Nat.zero_le _,rfl,HML.out,WritesF.refl _ _⟩
 case round =>
  obtain ⟨k,hk,rfl,hm,hw⟩:=hrel;have hzl:=HZL.out;have hzw:=hw.size;have HM:=yq hm;have HW:=yq hw
  have HRW:=yq ((hw.block (w.heap.size+1) (by omega) (by show ¬ w.heap.size+1=w.heap.size+2;omega)).trans HRL.out)
  have HSW:=yq (HSL.out.frame (fun b off h1 h2=>hw.cellN (p:=⟨b,off,none⟩) (by show b < _;omega) (by show ¬ b=w.heap.size+2;omega)))
  clear hm hw
  by_cases hlt:k < lst.length
  ·have hkI:(0:Int)≤(k:Int)∧(k:Int) < (lst.length:Int):=by omega
   obtain ⟨lb,loff,rfl,_,hlb,hc⟩:=HSW.out.at k hlt;obtain ⟨hc0,hc1⟩:=DOccurrence.open hc;have HKY:=yq (HKO.out k hlt)
   have HTK:=yq (fun y=>zlk hlt y)
   clear hc;generalize lst.getD k default=y at *
   have hnx:k < maxLen:=by unfold maxLen;omega
   have HBA:=yq (show Below wr.heap.size wr (wr.alloc (.cells #[.int .i64 y.fb,.string y.fa] 87)) from (Below.refl _ _).alloc (Nat.le_refl _) _)
   have HMI:=yq (HM.out.later HBA.out);have HWI:=yq (HW.out.later HBA.out)
   go_wp2_with (at_mapUpdate;refine zeo _ rfl (.tmp 19) (.tmp 20) (.const (.bool true)) rfl zon HMI.out hnx rfl (y:=y) HKY.out (u:=true) trivial rfl rfl (f':=hasO (lst.take (k+1))) (by rw [HTK.out,decide_eq_true rfl,Bool.or_true]) (fun q _ hq=>by rw [HTK.out,decide_eq_false hq,Bool.or_false]) ?_;intro w9 hm9 hg9)
   have R1:=yq hm9
   have R2:=yq (HWI.out.grownN hg9 (fun g hg=>by injection hg with e;exact e.symm))
   clear hm9 hg9;go_wp2;go_roundw
   case rel=>exact ⟨k+1,by omega,by go_num,R1.out,R2.out⟩
   case measure=>simp [intOf];omega
  ·obtain rfl:k=lst.length:=by omega
   have HMK:=yq (show MapF Tryz.prog 87 4 okMC embC litB false wr (w.heap.size+2) lst.length (zc7 g x 0) from by have h:=HM.out;rw [List.take_length] at h;rw [HO0.out];exact h)
   have HBT:=yq (show Below w.heap.size w wr from HBL.out.trans (HW.out.below (fun y h=>by have h:y=w.heap.size+2:=h;omega) HBL.out.size))
   have r4:wr.cell? ⟨w.heap.size+1,4,none⟩=some (.slice b4 x.fg.length c1_1):=za HRW.out rfl;go_wp2;clear r4;generalize wr=wa at *
   go_loopw [25] (fun i wv=>∃ k:Nat,k≤x.fg.length∧i = .int .i64 (k:Int)∧zbo (zf4 g x) k∧MapF Tryz.prog 87 4 okMC embC litB false wv (w.heap.size+2) (lst.length+k) (zc7 g x k)∧WritesF (fun y=>y=w.heap.size+2) wa wv) (fun i _=>x.fg.length - (intOf i).toNat)
   case atStart=>exact ⟨0,Nat.zero_le _,rfl,zau _,HMK.out,WritesF.refl _ _⟩
   case round =>
    obtain ⟨k,hkn,rfl,hno,hm,hw⟩:=hrel;have HN:=yq hno;have HMV:=yq hm;have HWV:=yq hw;have hzv:=hw.size
    have HBV:=yq (show Below w.heap.size w wr from HBT.out.trans (hw.below (fun y h=>by have h:y=w.heap.size+2:=h;omega) HBT.out.size))
    clear hno hm hw
    by_cases hlk:k < x.fg.length
    ·have hkI:(0:Int)≤(k:Int)∧(k:Int) < (x.fg.length:Int):=by omega
     obtain ⟨rb,ro,rfl,_,hrb,_,hc⟩:=(HS4.out wr HBV.out).at k hlk;obtain ⟨a8,c8,hc0,hc1,hc2,hc3,hc4,hc5,hc6,hc7,hc8,-⟩:=DEquation.openS hc;have HEK:=yq (HE.out k);have HKY:=yq (HKA.out k hlk);have H1:=yq (HOS.out k hlk);have H2:=yq (HOO.out k hlk);clear hc HE;generalize hq:x.fg.getD k default=q at *;clear hq
     have hnx:lst.length+k < maxLen:=by unfold maxLen;omega
     have HBA:=yq (show Below wr.heap.size wr (wr.alloc (.cells #[.int .i64 q.fAt.fb,.string q.fAt.fa,.int .i64 q.fi.fh,.int .i64 q.fi.fN,.int .i64 q.fi.fb,.int .i64 q.fi.fk,.string q.fi.fd,.string q.fi.fa,.slice a8 q.fi.fc.length c8] 95)) from (Below.refl _ _).alloc (Nat.le_refl _) _)
     have HMA:=yq (HMV.out.later HBA.out);have HWA:=yq (HWV.out.later HBA.out);have q0:(wr.alloc (.cells #[.int .i64 q.fAt.fb,.string q.fAt.fa,.int .i64 q.fi.fh,.int .i64 q.fi.fN,.int .i64 q.fi.fb,.int .i64 q.fi.fk,.string q.fi.fd,.string q.fi.fa,.slice a8 q.fi.fc.length c8] 95)).cell? ⟨wr.heap.size,0,none⟩=some (.int .i64 q.fAt.fb):=za (ze rfl) rfl;have q1:(wr.alloc (.cells #[.int .i64 q.fAt.fb,.string q.fAt.fa,.int .i64 q.fi.fh,.int .i64 q.fi.fN,.int .i64 q.fi.fb,.int .i64 q.fi.fk,.string q.fi.fd,.string q.fi.fa,.slice a8 q.fi.fc.length c8] 95)).cell? ⟨wr.heap.size,1,none⟩=some (.string q.fAt.fa):=za (ze rfl) rfl
     have HOK:=yq (show zc7 g x k q.fAt=zc7 g x k q.fAt from rfl)
     generalize hbo:zc7 g x k q.fAt=bo at HEK;have HBO:=yq hbo;clear hbo HOK
     cases bo with
     | false =>
      have FIN:=yq (show zha g x=true from HR.out.trans (zbm hlk HEK.out))
      go_wp2_with (first|(at_lookup;refine zej _ rfl (.tmp 29) (.tmp 31) rfl zon HMA.out rfl (y:=q.fAt) HKY.out rfl ?_;rw [HBO.out];unfold valB)|(refine wpList_store_rowTo rfl 95 (.tmp 9) (.tmp 28) rfl rfl wr.heap.size _ rfl rfl 95 _ (ze rfl) (by kernel_rfl) rfl (by simp [Value.oneCell']) ?_;rw [zbc rfl]))
      go_ret;exact ⟨zh FIN.out.symm,HBV.out.trans (HBA.out.mono HBV.out.size)⟩
     | true =>
      have HN1:=yq (zap HN.out HEK.out)
      go_wp2_with (first|(at_mapUpdate;refine zeo _ rfl (.tmp 34) (.tmp 36) (.const (.bool false)) rfl zon HMA.out hnx rfl (y:=q.fAt) HKY.out (u:=false) trivial rfl rfl (f':=zc7 g x (k+1)) H1.out (fun y _ hy=>H2.out y hy) ?_;intro w9 hm9 hg9)|(at_lookup;refine zej _ rfl (.tmp 29) (.tmp 31) rfl zon HMA.out rfl (y:=q.fAt) HKY.out rfl ?_;rw [HBO.out];unfold valB)|(refine wpList_store_rowTo rfl 95 (.tmp 9) (.tmp 28) rfl rfl wr.heap.size _ rfl rfl 95 _ (ze rfl) (by kernel_rfl) rfl (by simp [Value.oneCell']) ?_;rw [zbc rfl]))
      have R1:=yq hm9
      have R2:=yq (HWA.out.grownN hg9 (fun g hg=>by injection hg with e;exact e.symm))
      clear hm9 hg9;go_wp2;go_roundw
      case rel=>exact ⟨k+1,by omega,by go_num,HN1.out,R1.out,R2.out⟩
      case measure=>simp [intOf];omega
    ·obtain rfl:k=x.fg.length:=by omega
     have FIN:=yq (show zha g x=false from HR.out.trans (zbp HN.out))
     go_wp2;go_ret;exact ⟨zh FIN.out.symm,HBV.out⟩
theorem zqm {hi bg:Nat} {c0_0 c0_1:Nat} {a0 a1:Option Addr} (g:DGrammar) (okg:g.ok) (hszg:g.sz≤1048576) (i:Nat) (hi':i < g.fm.length) (w:World) (hhi:hi≤w.heap.size) (hs0:Sf 0 hi w 2 g.fl.length (fun k=>DSymbol.ct (g.fl.getD k default)) a0) (hs1:Sf 0 hi w 6 g.fm.length (fun k=>DRule.ct (g.fm.getD k default)) a1) (hg:w.heap[bg]? = some (.cells #[.slice a0 g.fl.length c0_0,.slice a1 g.fm.length c0_1] 32)) :
  Calls Tryz.prog 29 #[.int .i64 (i:Int),.pointer (some ⟨bg,0,none⟩)] w fun e w'=>e = .returned (.bool ((zha g (g.fm.getD i default))))∧Below w.heap.size w w':=by
 have hbg:bg < w.heap.size:=(Array.getElem?_eq_some_iff.1 hg).1;have HBGL:=yq hbg
 have hiI:(0:Int)≤(i:Int)∧(i:Int) < (g.fm.length:Int):=by omega
 obtain ⟨rb,ro,rfl,_,hrb,_,hc⟩:=hs1.at i hi';obtain ⟨b2,c1_0,b4,c1_1,b5,c1_2,h0,h1,h2,h3,h4,h5,hs2,hs4,hs5⟩:=DRule.openS hc;have okx:DRule.ok (g.fm.getD i default):=okg.2.at hi'
 have hszx:DRule.sz (g.fm.getD i default)≤1048576:=Nat.le_trans (zab (f:=DRule.sz) g.fm i hi') (by unfold DGrammar.sz at hszg;omega)
 have HRLT:=yq (show rb < w.heap.size by omega)
 have HGW:=yq hg;have HROW:=yq (And.intro h0 (And.intro h1 (And.intro h2 (And.intro h3 (And.intro h4 h5)))));generalize g.fm.getD i default=x at *
 have HC:=yq (fun (W:World) (hW:Below w.heap.size w W)=>zeu (c0_0:=c0_0) (c0_1:=c0_1) (c1_0:=c1_0) (c1_1:=c1_1) (c1_2:=c1_2) g okg hszg x okx hszx W (Nat.le_trans hhi hW.size) (hs0.later hW hhi) (hs1.later hW hhi) (hs2.later hW hhi) (hs4.later hW hhi) (hs5.later hW hhi))
 clear hg hc hs0 hs1 hs2 hs4 hs5 okg hszg okx hszx hhi hi' h0 h1 h2 h3 h4 h5 hbg hrb;generalize (zha g x)=bb at *
 go_enter Tryz.func29,Tryz.ntmps29
 go_wp2
 refine zw [([],.none,[]),([],.none,[]),([1],.none,[]),([],.none,[]),([2,3],.none,[]),([4],.none,[]),([0,5],.none,[]),([6],.none,[])] [0,1,2,3,4,5,6,7] [] (fun _=>False) (fun _=>True) (fun _=>0) (fun jq9 V L H wx=>match jq9 with|0=>V 0 = .agg #[.slice a0 g.fl.length c0_0,.slice (some ⟨rb,ro,none⟩) g.fm.length c0_1]|1=>V 1 = .pointer (some ⟨bg,1,none⟩)|2=>V 2 = .slice (some ⟨rb,ro,none⟩) g.fm.length c0_1|3=>V 3 = .int .i64 (i:Int)|4=>V 4 = .pointer (some ⟨rb,ro+i * 6,none⟩)|5=>V 5 = .agg #[.string x.fa,.string x.fp,.slice b2 x.fj.length c1_0,.bool x.fq,.slice b4 x.fg.length c1_1,.slice b5 x.fo.length c1_2]|6=>V 6 = .bool bb|7=>V 7=V 6|_=>True) (by kernel_rfl) (by kernel_rfl) ?obs (fun _ h=>h.elim) trivial (fun _ _ _ _ _=>trivial) ?loc ?lasts ?walk
 case obs =>
  trivial
 case loc =>
  intro k V V' L H wx h0 h1 hG
  match k with
  | 0 =>
   (try dsimp only at hG ⊢);rw [← h0];exact hG
  | 1 =>
   (try dsimp only at hG ⊢);rw [← h0];exact hG
  | 2 =>
   (try dsimp only at hG ⊢);rw [← h0];exact hG
  | 3 =>
   (try dsimp only at hG ⊢);rw [← h0];exact hG
  | 4 =>
   (try dsimp only at hG ⊢);rw [← h0];exact hG
  | 5 =>
   (try dsimp only at hG ⊢);rw [← h0];exact hG
  | 6 =>
   (try dsimp only at hG ⊢);rw [← h0];exact hG
  | 7 =>
   have e6:=h1 6 (by decide)
   (try dsimp only at hG ⊢);rw [← h0,← e6];exact hG
  | n+8=>trivial
 case lasts =>
  intro i hi V L H wx wy hB hH hk
  match i,hi with
  | 0,_=>exact fun h=>h
  | 1,_=>exact fun h=>h
  | 2,_=>exact fun h=>h
  | 3,_=>exact fun h=>h
  | 4,_=>exact fun h=>h
  | 5,_=>exact fun h=>h
  | 6,_=>exact fun h=>h
  | 7,_=>exact fun h=>h
  | n+8,hn=>exact absurd hn (by simp)
 case walk =>
  simp (maxSteps:=4000000) only [zda,Nat.reduceAdd,Act.put,List.setIfInBounds_toArray,List.set_cons_succ,List.set_cons_zero]
  refine ⟨?_,?_,?_,?_,?_,?_,?_,?_,?_⟩
  ·intro V L H w1 hw hk hj hd
   clear hd;have g0:w1.cell? ⟨bg,0,none⟩=some (.slice a0 g.fl.length c0_0):=((zd hw).cell (p:=⟨bg,0,none⟩) HBGL.out).trans (za HGW.out rfl);have g1:w1.cell? ⟨bg,1,none⟩=some (.slice (some ⟨rb,ro,none⟩) g.fm.length c0_1):=((zd hw).cell (p:=⟨bg,1,none⟩) HBGL.out).trans (za HGW.out rfl);(go_wp2_with fail);exact zc _ rfl ⟨⟨WritesF.refl _ _,hj⟩,zb⟩
  ·intro V L H w1 hw hk hj hd
   clear hd;(go_wp2_with fail);exact zc _ rfl ⟨⟨WritesF.refl _ _,hj⟩,zb⟩
  ·intro V L H w1 hw hk hj hd
   obtain ⟨⟨_,_,_,hv1⟩,-⟩:=hd;rw [hv1];have HV1:=yq hv1;clear hv1;have g1:w1.cell? ⟨bg,1,none⟩=some (.slice (some ⟨rb,ro,none⟩) g.fm.length c0_1):=((zd hw).cell (p:=⟨bg,1,none⟩) HBGL.out).trans (za HGW.out rfl);(go_wp2_with fail);exact zc _ rfl ⟨⟨WritesF.refl _ _,hj⟩,zb⟩
  ·intro V L H w1 hw hk hj hd
   clear hd;(go_wp2_with fail);exact zc _ rfl ⟨⟨WritesF.refl _ _,hj⟩,zb⟩
  ·intro V L H w1 hw hk hj hd
   obtain ⟨⟨_,_,_,hv2⟩,⟨_,_,_,hv3⟩,-⟩:=hd;rw [hv2,hv3];have HV2:=yq hv2;have HV3:=yq hv3;clear hv2 hv3;(go_wp2_with fail);exact zc _ rfl ⟨⟨WritesF.refl _ _,hj⟩,zb⟩
  ·intro V L H w1 hw hk hj hd
   obtain ⟨⟨_,_,_,hv4⟩,-⟩:=hd;rw [hv4];have HV4:=yq hv4;clear hv4;have r0:w1.cell? ⟨rb,ro+i * 6,none⟩=some (.string x.fa):=((zd hw).cell (p:=⟨rb,ro+i * 6,none⟩) HRLT.out).trans HROW.out.1;have r1:w1.cell? ⟨rb,ro+i * 6+1,none⟩=some (.string x.fp):=((zd hw).cell (p:=⟨rb,ro+i * 6+1,none⟩) HRLT.out).trans HROW.out.2.1;have r2:w1.cell? ⟨rb,ro+i * 6+2,none⟩=some (.slice b2 x.fj.length c1_0):=((zd hw).cell (p:=⟨rb,ro+i * 6+2,none⟩) HRLT.out).trans HROW.out.2.2.1;have r3:w1.cell? ⟨rb,ro+i * 6+3,none⟩=some (.bool x.fq):=((zd hw).cell (p:=⟨rb,ro+i * 6+3,none⟩) HRLT.out).trans HROW.out.2.2.2.1;have r4:w1.cell? ⟨rb,ro+i * 6+4,none⟩=some (.slice b4 x.fg.length c1_1):=((zd hw).cell (p:=⟨rb,ro+i * 6+4,none⟩) HRLT.out).trans HROW.out.2.2.2.2.1;have r5:w1.cell? ⟨rb,ro+i * 6+5,none⟩=some (.slice b5 x.fo.length c1_2):=((zd hw).cell (p:=⟨rb,ro+i * 6+5,none⟩) HRLT.out).trans HROW.out.2.2.2.2.2;(go_wp2_with fail);exact zc _ rfl ⟨⟨WritesF.refl _ _,hj⟩,zb⟩
  ·intro V L H w1 hw hk hj hd
   obtain ⟨⟨_,_,_,hv0⟩,⟨_,_,_,hv5⟩,-⟩:=hd;rw [hv0,hv5];have HV0:=yq hv0;have HV5:=yq hv5;clear hv0 hv5;(go_wp2_with fail);refine (HC.out w1 (zd hw)).mono ?_;rintro e w2 ⟨rfl,hb2⟩;(go_wp2_with fail);exact zc _ rfl ⟨⟨(WritesF.refl _ _).later hb2,trivial⟩,zb⟩
  ·intro V L H w1 hw hk hj hd
   obtain ⟨⟨_,_,_,hv6⟩,-⟩:=hd;rw [hv6];have HV6:=yq hv6;clear hv6;(go_wp2_with fail)
   exact zc _ rfl ⟨⟨WritesF.refl _ _,hj⟩,zb.trans (HV6.out.symm.trans (zam (by decide)).symm)⟩
  ·intro V L H w1 hw hj hd hap hdead
   obtain ⟨⟨_,_,_,hv0⟩,⟨_,_,_,hv1⟩,⟨_,_,_,hv2⟩,⟨_,_,_,hv3⟩,⟨_,_,_,hv4⟩,⟨_,_,_,hv5⟩,⟨_,_,_,hv6⟩,⟨_,_,_,hv7⟩,-⟩:=hd;have hv7':=hv7.trans hv6;rw [hv0,hv1,hv2,hv3,hv4,hv5,hv6,hv7'];clear hv0 hv1 hv2 hv3 hv4 hv5 hv6 hv7' hv7;have HBF:=yq (zd hw);clear hw hj hap hdead;go_wp2;go_ret;exact ⟨rfl,HBF.out⟩
end Go.Proofs.YtmbaajangkmjdaaGreat
