/-
  AttributeUses of the model and of the program.
  l11Uses and l11Misuse of the model.
-/
import Derived.Test.YtmbaajangkmjdaaGreatZz17
import Derived.Test.YtmbaajangkmjdaaGreatZSortRow
import Derived.Test.YtmbaajangkmjdaaGreatZCmpS
import Derived.Test.YtmbaajangkmjdaaGreatZShelfSf
import Derived.Test.YtmbaajangkmjdaaGreatZShapeM8
set_option maxHeartbeats 12800000
set_option maxRecDepth 100000
namespace Go.Proofs.YtmbaajangkmjdaaGreat
open Go.ChangeShapes Go.WideShapes Go.ChangeAt Go.RowKit Go.Deep Go.Shelf Go.Sort
theorem zsf (x:DExpr):(occE x).length≤cntX x:=by
 have h : ∀ N:List ENode,(N.flatMap zar).length≤N.length:=by
  intro N
  induction N with
  | nil=>exact Nat.zero_le _
  | cons n N ih =>
   rw [List.flatMap_cons,List.length_append,List.length_cons]
   have:(zar n).length≤1:=by unfold zar;split<;>simp
   omega
 have h1:=h (zu x 0);rw [zcg] at h1;exact h1
theorem ziq {x:DExpr} (h:x.sz≤1048576):(zac x).length≤1048577:=by
 have h1:=zfa (lt:=ltO) (occE x) [];have h2:=zsf x;have h3:=zey x
 unfold zac
 rw [List.length_nil] at h1
 omega
theorem znm (x:DOccurrence) (c:Nat) (h:c < 2):x.ct c = .lit ((zo x).getD c .nilFunc):=match c,h with|0,_=>rfl|1,_=>rfl
theorem swoO:SWO (ltOf cmpO) where
 irrefl x:=by show decide _=_;rw [zdp,ze0.irrefl]
 trans x y z h1 h2:=by
  have e1:ltO x y=true:=(zdp x y).symm.trans h1;have e2:ltO y z=true:=(zdp y z).symm.trans h2;exact (zdp x z).trans (ze0.trans x y z e1 e2)
 ntrans x y z h1 h2:=by
  have e1:ltO x y=false:=(zdp x y).symm.trans h1;have e2:ltO y z=false:=(zdp y z).symm.trans h2;exact (zdp x z).trans (ze0.ge_trans e2 e1)
theorem ztp:ltOf cmpO=ltO:=by funext x y;exact zdp x y
theorem zvx {B:Nat} {a:Option Addr} {cap:Nat} (zs:List DOccurrence) (hz:zs.length≤1099511627776) (w:World) (hown:w.ownsRow B 87 2 (.slice a zs.length cap) zs.length (zs.flatMap zo)) :
  Calls Tryz.prog 89 #[.slice a zs.length cap,.func (.func 90) #[] #[]] w fun x w'=>x = .returned (.tuple #[])∧w'.ownsRow B 87 2 (.slice a zs.length cap) zs.length ((zs.mergeSort fun x y=>!ltO y x).flatMap zo) ∧ ∀ b0,(∀ g,a=some ⟨g,0,none⟩→b0≤g)→b0≤w.heap.size→Below b0 w w':=by
 have h:=zp1 Tryz.sortOcc 2 (fun W=>by kernel_rfl) (fun W=>by kernel_rfl) zo za3 (fun x u hu=>by simp only [zo,List.mem_cons,List.not_mem_nil,or_false] at hu;rcases hu with rfl|rfl<;>rfl) cmpO swoO (fun x y h1 h2=>ze0.total x y ((zdp x y).symm.trans h1) ((zdp y x).symm.trans h2)) 90 #[] (enters_of Tryz.func90 (by kernel_rfl) rfl) (fun blk size W m os dk _ x y=>zs7 x y _) B cap 87 a zs w hz hown
 rw [ztp] at h;exact h
theorem zl9 {lo hi c0_0:Nat} {a6:Option Addr} (x:DExpr) (hsz:x.sz≤1048576) (w:World) (hhi:hi≤w.heap.size) (hs6:Sl lo hi w 7 x.fc.length (ctE x.fc) a6) :
  Calls Tryz.prog 107 #[.agg #[.int .i64 x.fh,.int .i64 x.fN,.int .i64 x.fb,.int .i64 x.fk,.string x.fd,.string x.fa,.slice a6 x.fc.length c0_0]] w fun e w'=>∃ a c,e = .returned (.slice a (zac x).length c)∧Own w' (fun z=>w.heap.size≤z∧z < w'.heap.size) (.sl 2 (zac x).length (fun k=>DOccurrence.ct ((zac x).getD k default))) (.slice a (zac x).length c)∧Below w.heap.size w w':=by
 have hl:=zsf x;have hcl:=zey x
 have HB:=yq (((Below.refl w.heap.size w).alloc (Nat.le_refl _) (.cells #[.int .i64 x.fh,.int .i64 x.fN,.int .i64 x.fb,.int .i64 x.fk,.string x.fd,.string x.fa,.slice a6 x.fc.length c0_0] 90)).alloc (by simp) (.cells #[] 87))
 have HO:((w.alloc (.cells #[.int .i64 x.fh,.int .i64 x.fN,.int .i64 x.fb,.int .i64 x.fk,.string x.fd,.string x.fa,.slice a6 x.fc.length c0_0] 90)).alloc (.cells #[] 87)).ownsRow (w.heap.size+1) 87 2 (.slice (some ⟨w.heap.size+1,0,none⟩) 0 0) ([]:List DOccurrence).length (([]:List DOccurrence).flatMap zo):=by
  have h:=zc3 (w:=w.alloc (.cells #[.int .i64 x.fh,.int .i64 x.fN,.int .i64 x.fb,.int .i64 x.fk,.string x.fd,.string x.fa,.slice a6 x.fc.length c0_0] 90)) (e:=87) (n:=2) (vals:=zo)
  rw [show (w.alloc (.cells #[.int .i64 x.fh,.int .i64 x.fN,.int .i64 x.fb,.int .i64 x.fk,.string x.fd,.string x.fa,.slice a6 x.fc.length c0_0] 90)).heap.size=w.heap.size+1 by simp] at h
  exact h
 have HC:=yq (zq3 x (lo:=lo) (hi:=hi) (B:=w.heap.size+1) (g:=w.heap.size+1) (c6:=c0_0) (c:=0) (a6:=a6) hsz [] (by rw [List.length_nil];omega) ((w.alloc (.cells #[.int .i64 x.fh,.int .i64 x.fN,.int .i64 x.fb,.int .i64 x.fk,.string x.fd,.string x.fa,.slice a6 x.fc.length c0_0] 90)).alloc (.cells #[] 87)) (Nat.le_trans hhi HB.out.size) (hs6.later HB.out hhi) HO)
 have HGO:=yq (fun (w':World) (v:Value) (K:List DOccurrence) (h:w'.ownsRow (w.heap.size+1) 87 2 v (K).length ((K).flatMap zo))=>zd4 (ct:=DOccurrence.ct) (by decide) za3 znm h)
 have HRS:=yq (show zac x=zaq ltO [] (occE x) from rfl)
 clear hsz hhi hs6 HO hl hcl;generalize zac x=R at *;generalize zaq ltO [] (occE x)=R2 at *;obtain rfl:=HRS.out
 go_enter Tryz.func107,Tryz.ntmps107
 (go_wp2_with fail);refine HC.out.mono ?_;rintro e w1 ⟨g',c',rfl,ho,hb⟩;have HO1:=yq ho;have HBN:=yq (HB.out.trans (hb.mono HB.out.size));clear ho hb HC;go_wp2;go_ret;obtain ⟨a,c,h1,h2⟩:=HGO.out _ _ _ HO1.out
 exact ⟨a,c,congrArg Ending.returned h1,h2.sub fun z hz=>⟨by omega,hz.2⟩,HBN.out⟩
theorem zvc:(Tryz.prog.info? 87).map (fun i=>(i.zero,i.size,i.bytes))=some (some (.agg #[.int .i64 0,.string ⟨#[]⟩]),2,24):=by kernel_rfl
theorem zwb {N:List ENode} {k:Nat} (hk:k < N.length) (h:(N.getD k default).fh=3):(N.take (k+1)).flatMap zar=(N.take k).flatMap zar ++ [⟨(N.getD k default).fb,(N.getD k default).fa⟩]:=by
 rw [List.take_succ_eq_append_getElem hk,List.flatMap_append,List.flatMap_singleton];rw [List.getD_eq_getElem?_getD,List.getElem?_eq_getElem hk,Option.getD_some] at *
 unfold zar
 rw [if_pos h]
theorem zw4 {N:List ENode} {k:Nat} (hk:k < N.length) (h:(N.getD k default).fh≠3):(N.take (k+1)).flatMap zar=(N.take k).flatMap zar:=by
 rw [List.take_succ_eq_append_getElem hk,List.flatMap_append,List.flatMap_singleton];rw [List.getD_eq_getElem?_getD,List.getElem?_eq_getElem hk,Option.getD_some] at h
 unfold zar
 rw [if_neg h,List.append_nil]
theorem zsl : ∀ N:List ENode,(N.flatMap zar).length≤N.length
 | []=>Nat.zero_le _
 | n :: N=>by
  have ih:=zsl N;rw [List.flatMap_cons,List.length_append,List.length_cons]
  have:(zar n).length≤1:=by unfold zar;split<;>simp
  omega
theorem zmq {lo hi c0_0:Nat} {a6:Option Addr} (x:DExpr) (hsz:x.sz≤1048576) (w:World) (hhi:hi≤w.heap.size) (hs6:Sf lo hi w 7 x.fc.length (ctE x.fc) a6) :
  Calls Tryz.prog 54 #[.agg #[.int .i64 x.fh,.int .i64 x.fN,.int .i64 x.fb,.int .i64 x.fk,.string x.fd,.string x.fa,.slice a6 x.fc.length c0_0]] w fun e w'=>∃ a c,e = .returned (.slice a (zac x).length c)∧Own w' (fun z=>w.heap.size≤z∧z < w'.heap.size) (.sl 2 (zac x).length (fun k=>DOccurrence.ct ((zac x).getD k default))) (.slice a (zac x).length c)∧Below w.heap.size w w':=by
 have hbox:Below w.heap.size w (w.alloc (.cells #[.int .i64 x.fh,.int .i64 x.fN,.int .i64 x.fb,.int .i64 x.fk,.string x.fd,.string x.fa,.slice a6 x.fc.length c0_0] 90)):=(Below.refl _ _).alloc (Nat.le_refl _) _;have HC:=yq (zew (c6:=c0_0) x hsz (w.alloc (.cells #[.int .i64 x.fh,.int .i64 x.fN,.int .i64 x.fb,.int .i64 x.fk,.string x.fd,.string x.fa,.slice a6 x.fc.length c0_0] 90)) (Nat.le_trans hhi hbox.size) ((hs6.mono (Nat.zero_le _) (Nat.le_refl _)).later hbox hhi));have HB:=yq hbox
 have HSZ0:=yq (show (w.alloc (.cells #[.int .i64 x.fh,.int .i64 x.fN,.int .i64 x.fb,.int .i64 x.fk,.string x.fd,.string x.fa,.slice a6 x.fc.length c0_0] 90)).heap.size=w.heap.size+1 by simp)
 have hl:=zcg x 1;have hcl:=zey x
 have hnl:(zu x 1).length≤1048577:=by omega
 have HE:=yq (show zaa ltO (((zu x 1).flatMap zar).mergeSort fun x y=>!ltO y x)=zac x by rw [zxe,zp6 ze0];rfl)
 have HGO:=yq (fun (w':World) (v:Value) (K:List DOccurrence) (h:w'.ownsRow (w.heap.size+1) 87 2 v (K).length ((K).flatMap zo))=>zd4 (ct:=DOccurrence.ct) (by decide) za3 znm h)
 obtain ⟨i0,hi',hz0,hz1,hz2⟩:=info_parts zvc;clear hbox hs6 hl hcl;generalize zac x=R at *;generalize zu x 1=N at *
 go_enter Tryz.func54,Tryz.ntmps54
 (go_wp2_with fail);refine HC.out.mono ?_;rintro e w1 ⟨v,rfl,hown,hb1⟩;obtain ⟨a,c,rfl⟩:=zdx hown;have R2:=yq (HB.out.trans (hb1.mono HB.out.size))
 have hsz1:w.heap.size+1≤w1.heap.size:=by have:=hb1.size;rw [HSZ0.out] at this;exact this
 have HO:=yq hown;clear hown hb1 HC;go_wp2
 go_loopw [3,9] (fun v i wr=>∃ k:Nat,k≤N.length∧i = .int .i64 (k:Int)∧wr.ownsRow (w.heap.size+1) 87 2 v ((N.take k).flatMap zar).length (((N.take k).flatMap zar).flatMap zo)∧GInv (.slice none 0 0) w1 v wr) (fun _ i _=>N.length - (intOf i).toNat)
 case atStart=>exact ⟨0,Nat.zero_le _,rfl,zg7,GInv.start (Below.refl _ _)⟩
 case round =>
  obtain ⟨k,hk,rfl,hor,hinv⟩:=hrel;have HOR:=yq hor;have HIR:=yq hinv;have hszr:w1.heap.size≤wr.heap.size:=hinv.1.size
  have HBL:=yq (hinv.below (B:=w1.heap.size) (fun g hg=>by cases hg) (Below.refl _ _) (Nat.le_refl _))
  have hlen:((N.take k).flatMap zar).length≤1048577:=by have h1:=zsl (N.take k);rw [List.length_take] at h1;omega
  clear hor hinv
  by_cases hlt:k < N.length
  ·obtain ⟨g,c2,e2,_,_⟩:=zc2 HO.out (by omega)
   simp only [Value.slice.injEq,true_and] at e2
   obtain ⟨rfl,rfl⟩:=e2;obtain ⟨d0,d1,d2,d3,d4,d5,d6,d7⟩:=zkr (zl HO.out HBL.out) hlt
   have HY:=yq (fun h=>zwb hlt h)
   have HN:=yq (fun h=>zw4 hlt h)
   generalize N.getD k default=nd at *;generalize (N.take k).flatMap zar=K at *
   by_cases hk3:nd.fh=3
   ·have HE3:=yq (HY.out hk3)
    rw [hk3] at d0;clear HY HN hk3
    have hgb:w.heap.size+1≤wr.heap.size:=by omega
    go_wp2_with (at_builtin;refine wpList_append_own_at _ rfl (.tmp 17) (.tmp 25) 84 rfl (w.heap.size+1) 87 i0 (.agg #[.int .i64 0,.string ⟨#[]⟩]) 2 24 Tryz.underlying84 hi' hz0 hz1 hz2 rfl (by decide) _ _ _ rfl ((HOR.out.alloc _).alloc _) ⟨wr.heap.size+1,0,none⟩ 1 1 [.int .i64 nd.fb,.string nd.fa] rfl rfl (by intro q u hu;rcases q with _|_|q<;>simp at hu<;>subst hu<;>first|(go_simp;done)|exact (cell_of_row _ _ _ _ _ _ (ze (by simp))).trans rfl) (by intro u hu;simp at hu;rcases hu with rfl|rfl<;>rfl) yl (by omega) ye ?_;intro v' w9 hown' hgrow hnil hat)
    have R1:=yq (zbs (l:=K) (x:=(⟨nd.fb,nd.fa⟩:DOccurrence)) (vals:=zo) hown' rfl);rw [← HE3.out] at R1
    have R3:=yq ((HIR.out.later (show Below wr.heap.size wr _ from ya)).grow hgrow hat)
    clear hown' hgrow hnil hat;go_wp2;go_roundw
    case rel=>exact ⟨k+1,by omega,by go_num,R1.out,R3.out⟩
    case measure=>simp [intOf];omega
   ·have HE3:=yq (HN.out hk3)
    have hd:(nd.fh == 3)=false:=beq_eq_false_iff_ne.2 hk3;clear HY HN hk3;go_wp2;go_roundw
    case rel=>exact ⟨k+1,by omega,by go_num,by rw [HE3.out];exact zl HOR.out ya,HIR.out.later ya⟩
    case measure=>simp [intOf];omega
  ·obtain rfl:k=N.length:=by omega
   rw [List.take_length] at HOR hlen;have hor:=HOR.out;obtain ⟨a8,c8,rfl⟩:=zdx hor
   have hbl : ∀ g,a8=some ⟨g,0,none⟩→w.heap.size≤g:=fun g hg=>by have:=(hor.lt g (by rw [hg];rfl)).1;omega
   have HSO:=yq (zvx (N.flatMap zar) (by omega) wr hor)
   have HBW:=yq (R2.out.trans (HBL.out.mono (by have:=R2.out.size;omega)))
   have HHB:=yq hbl;have hwz:w.heap.size≤wr.heap.size:=HBW.out.size
   have hml:((N.flatMap zar).mergeSort fun x y=>!ltO y x).length=(N.flatMap zar).length:=List.length_mergeSort _
   clear hor hbl HOR
   generalize ((N.flatMap zar).mergeSort fun x y=>!ltO y x)=M at *
   rw [← hml] at HSO hlen ⊢;clear hml;(go_wp2_with fail);refine HSO.out.mono ?_;rintro e w3 ⟨rfl,ho3,hb3⟩;have HB3:=yq (HBW.out.trans ((hb3 w.heap.size HHB.out hwz).mono (Nat.le_refl _)))
   have HCO:=yq (zqy M (by omega) w3 ho3)
   clear ho3 hb3 HSO;(go_wp2_with fail);refine HCO.out.mono ?_;rintro e w4 ⟨rfl,ho4,hb4⟩;have HB4:=yq (HB3.out.trans (hb4 w.heap.size HHB.out));rw [HE.out] at ho4 ⊢;have HO4:=yq ho4;clear ho4 hb4 HCO;go_wp2;go_ret;obtain ⟨a,c,h1,h2⟩:=HGO.out _ _ _ HO4.out
   exact ⟨a,c,congrArg Ending.returned h1,h2.sub fun z hz=>⟨by omega,hz.2⟩,HB4.out⟩
end Go.Proofs.YtmbaajangkmjdaaGreat
namespace Go.Proofs.YtmbaajangkmjdaaGreat
open Go.ChangeShapes Go.WideShapes Go.ChangeAt Go.RowKit Go.Deep
theorem zqb {lo hi c9:Nat} {a9:Option Addr} {a0 a1:Option Addr} {c0_0 c0_1:Nat} {b2 b4 b5:Option Addr} {c1_0 c1_1 c1_2:Nat} (g:DGrammar) (okg:g.ok) (hszg:g.sz≤1048576) (x:DRule) (okx:x.ok) (hszx:x.sz≤1048576) (y:DExpr) (oky:y.ok) (hszy:y.sz≤1048576) (w:World) (hhi:hi≤w.heap.size) (hs0:Sl lo hi w 2 g.fl.length (fun k=>DSymbol.ct (g.fl.getD k default)) a0) (hs1:Sl lo hi w 6 g.fm.length (fun k=>DRule.ct (g.fm.getD k default)) a1) (hs2:Sl lo hi w 1 x.fj.length (fun k=>ictS (x.fj.getD k default)) b2) (hs4:Sl lo hi w 9 x.fg.length (fun k=>DEquation.ct (x.fg.getD k default)) b4) (hs5:Sl lo hi w 16 x.fo.length (fun k=>DContribution.ct (x.fo.getD k default)) b5) (hs9:Sl lo hi w 7 y.fc.length (ctE y.fc) a9) :
  Calls Tryz.prog 71 #[.agg #[.slice a0 g.fl.length c0_0,.slice a1 g.fm.length c0_1],.agg #[.string x.fa,.string x.fp,.slice b2 x.fj.length c1_0,.bool x.fq,.slice b4 x.fg.length c1_1,.slice b5 x.fo.length c1_2],.agg #[.int .i64 y.fh,.int .i64 y.fN,.int .i64 y.fb,.int .i64 y.fk,.string y.fd,.string y.fa,.slice a9 y.fc.length c9]] w fun e w'=>e = .returned (.bool (!zev g x y))∧Below w.heap.size w w':=by
 have HB:=yq (show Below w.heap.size w ((w.alloc (.cells #[.slice a0 g.fl.length c0_0,.slice a1 g.fm.length c0_1] 32)).alloc (.cells #[.string x.fa,.string x.fp,.slice b2 x.fj.length c1_0,.bool x.fq,.slice b4 x.fg.length c1_1,.slice b5 x.fo.length c1_2] 50)) from ((Below.refl w.heap.size w).alloc (Nat.le_refl _) (.cells #[.slice a0 g.fl.length c0_0,.slice a1 g.fm.length c0_1] 32)).alloc (by simp) (.cells #[.string x.fa,.string x.fp,.slice b2 x.fj.length c1_0,.bool x.fq,.slice b4 x.fg.length c1_1,.slice b5 x.fo.length c1_2] 50))
 have HBG:=yq (show ((w.alloc (.cells #[.slice a0 g.fl.length c0_0,.slice a1 g.fm.length c0_1] 32)).alloc (.cells #[.string x.fa,.string x.fp,.slice b2 x.fj.length c1_0,.bool x.fq,.slice b4 x.fg.length c1_1,.slice b5 x.fo.length c1_2] 50)).heap[w.heap.size]? = some (.cells #[.slice a0 g.fl.length c0_0,.slice a1 g.fm.length c0_1] 32) from zn (by simp) (ze rfl))
 have HBR:=yq (show ((w.alloc (.cells #[.slice a0 g.fl.length c0_0,.slice a1 g.fm.length c0_1] 32)).alloc (.cells #[.string x.fa,.string x.fp,.slice b2 x.fj.length c1_0,.bool x.fq,.slice b4 x.fg.length c1_1,.slice b5 x.fo.length c1_2] 50)).heap[w.heap.size+1]? = some (.cells #[.string x.fa,.string x.fp,.slice b2 x.fj.length c1_0,.bool x.fq,.slice b4 x.fg.length c1_1,.slice b5 x.fo.length c1_2] 50) from ze (by simp))
 have HZ:=yq (show ((w.alloc (.cells #[.slice a0 g.fl.length c0_0,.slice a1 g.fm.length c0_1] 32)).alloc (.cells #[.string x.fa,.string x.fp,.slice b2 x.fj.length c1_0,.bool x.fq,.slice b4 x.fg.length c1_1,.slice b5 x.fo.length c1_2] 50)).heap.size=w.heap.size+2 by simp)
 have HS0:=yq (fun (W:World) (hW:Below w.heap.size w W)=>hs0.later hW hhi)
 have HS1:=yq (fun (W:World) (hW:Below w.heap.size w W)=>hs1.later hW hhi)
 have HS2:=yq (fun (W:World) (hW:Below w.heap.size w W)=>hs2.later hW hhi)
 have HS4:=yq (fun (W:World) (hW:Below w.heap.size w W)=>hs4.later hW hhi)
 have HS5:=yq (fun (W:World) (hW:Below w.heap.size w W)=>hs5.later hW hhi)
 have HB3:=yq (show Below w.heap.size w (((w.alloc (.cells #[.slice a0 g.fl.length c0_0,.slice a1 g.fm.length c0_1] 32)).alloc (.cells #[.string x.fa,.string x.fp,.slice b2 x.fj.length c1_0,.bool x.fq,.slice b4 x.fg.length c1_1,.slice b5 x.fo.length c1_2] 50)).alloc (.cells #[.int .i64 y.fh,.int .i64 y.fN,.int .i64 y.fb,.int .i64 y.fk,.string y.fd,.string y.fa,.slice a9 y.fc.length c9] 90)) from HB.out.alloc (by rw [HZ.out];omega) _)
 have HBG3:=yq (show (((w.alloc (.cells #[.slice a0 g.fl.length c0_0,.slice a1 g.fm.length c0_1] 32)).alloc (.cells #[.string x.fa,.string x.fp,.slice b2 x.fj.length c1_0,.bool x.fq,.slice b4 x.fg.length c1_1,.slice b5 x.fo.length c1_2] 50)).alloc (.cells #[.int .i64 y.fh,.int .i64 y.fN,.int .i64 y.fb,.int .i64 y.fk,.string y.fd,.string y.fa,.slice a9 y.fc.length c9] 90)).heap[w.heap.size]? = some (.cells #[.slice a0 g.fl.length c0_0,.slice a1 g.fm.length c0_1] 32) from zn ye HBG.out)
 have HBR3:=yq (show (((w.alloc (.cells #[.slice a0 g.fl.length c0_0,.slice a1 g.fm.length c0_1] 32)).alloc (.cells #[.string x.fa,.string x.fp,.slice b2 x.fj.length c1_0,.bool x.fq,.slice b4 x.fg.length c1_1,.slice b5 x.fo.length c1_2] 50)).alloc (.cells #[.int .i64 y.fh,.int .i64 y.fN,.int .i64 y.fb,.int .i64 y.fk,.string y.fd,.string y.fa,.slice a9 y.fc.length c9] 90)).heap[w.heap.size+1]? = some (.cells #[.string x.fa,.string x.fp,.slice b2 x.fj.length c1_0,.bool x.fq,.slice b4 x.fg.length c1_1,.slice b5 x.fo.length c1_2] 50) from zn ye HBR.out)
 have HZ3:=yq (show (((w.alloc (.cells #[.slice a0 g.fl.length c0_0,.slice a1 g.fm.length c0_1] 32)).alloc (.cells #[.string x.fa,.string x.fp,.slice b2 x.fj.length c1_0,.bool x.fq,.slice b4 x.fg.length c1_1,.slice b5 x.fo.length c1_2] 50)).alloc (.cells #[.int .i64 y.fh,.int .i64 y.fN,.int .i64 y.fb,.int .i64 y.fk,.string y.fd,.string y.fa,.slice a9 y.fc.length c9] 90)).heap.size=w.heap.size+3 by simp)
 have HHI:=yq hhi;have HAU:=yq (zl9 (c0_0:=c9) y hszy (((w.alloc (.cells #[.slice a0 g.fl.length c0_0,.slice a1 g.fm.length c0_1] 32)).alloc (.cells #[.string x.fa,.string x.fp,.slice b2 x.fj.length c1_0,.bool x.fq,.slice b4 x.fg.length c1_1,.slice b5 x.fo.length c1_2] 50)).alloc (.cells #[.int .i64 y.fh,.int .i64 y.fN,.int .i64 y.fb,.int .i64 y.fk,.string y.fd,.string y.fa,.slice a9 y.fc.length c9] 90)) (Nat.le_trans hhi HB3.out.size) (hs9.later HB3.out hhi))
 have HMU:=yq (fun (oc:DOccurrence) (h:okO oc) (W:World) (hW:Below w.heap.size w W)=>zrx (c0_0:=c0_0) (c0_1:=c0_1) (c1_0:=c1_0) (c1_1:=c1_1) (c1_2:=c1_2) g okg hszg x okx hszx oc h.1 h.2 W (Nat.le_trans HHI.out hW.size) (HS0.out W hW) (HS1.out W hW) (HS2.out W hW) (HS4.out W hW) (HS5.out W hW))
 have HUOK:=yq (fun j (hj:j < (zac y).length)=>zve oky hszy hj)
 have HUL:=yq (ziq hszy)
 have HUR:=yq (show zev g x y=anyP (zrc g x y) (zac y).length from rfl)
 have HUE:=yq (fun (j:Nat)=>show zrc g x y j = !zd3 g x ((zac y).getD j default) from rfl)
 clear hs0 hs1 hs2 hs4 hs5 hs9 hhi okg hszg okx hszx oky hszy HB HBG HBR HZ
 go_enter Tryz.func71,Tryz.ntmps71
 (go_wp2_with fail);generalize (((w.alloc (.cells #[.slice a0 g.fl.length c0_0,.slice a1 g.fm.length c0_1] 32)).alloc (.cells #[.string x.fa,.string x.fp,.slice b2 x.fj.length c1_0,.bool x.fq,.slice b4 x.fg.length c1_1,.slice b5 x.fo.length c1_2] 50)).alloc (.cells #[.int .i64 y.fh,.int .i64 y.fN,.int .i64 y.fb,.int .i64 y.fk,.string y.fd,.string y.fa,.slice a9 y.fc.length c9] 90))=w0 at *;refine HAU.out.mono ?_;rintro e wl ⟨al,cl,rfl,hol,hbl⟩;have HBL:=yq (HB3.out.trans (hbl.mono HB3.out.size))
 have HZL:=yq (show w.heap.size+3≤wl.heap.size from HZ3.out ▸ hbl.size)
 have HSL:=yq (show Sl 0 wl.heap.size wl 2 (zac y).length (fun k=>DOccurrence.ct ((zac y).getD k default)) al from Sl.of (hol.lies fun y hy=>⟨Nat.zero_le _,hy.2⟩))
 have HBG:=yq ((hbl.block w.heap.size (by rw [HZ3.out];omega)).trans HBG3.out)
 have HBR:=yq ((hbl.block (w.heap.size+1) (by rw [HZ3.out];omega)).trans HBR3.out)
 clear hol hbl HAU HB3 HBG3 HBR3 HZ3;generalize zac y=lst at *;have hlst:=HUL.out;go_wp2
 go_loopw [8] (fun i wr=>∃ k:Nat,k≤lst.length∧i = .int .i64 (k:Int)∧zbo (zrc g x y) k∧Below wl.heap.size wl wr) (fun i _=>lst.length - (intOf i).toNat)
 case atStart=>exact ⟨0,Nat.zero_le _,rfl,zau _,Below.refl _ _⟩
 case round =>
  obtain ⟨k,hk,rfl,hno,hb⟩:=hrel;have HN:=yq hno;have HBT:=yq (HBL.out.trans (hb.mono HBL.out.size));have HBW:=yq hb
  have HZW:=yq (show w.heap.size+2≤wr.heap.size from Nat.le_trans (Nat.le_succ _) (Nat.le_trans HZL.out hb.size))
  have HGW:=yq ((hb.block w.heap.size (by have:=HZL.out;omega)).trans HBG.out)
  have HRW:=yq ((hb.block (w.heap.size+1) (by have:=HZL.out;omega)).trans HBR.out)
  have HSW:=yq (HSL.out.later hb (Nat.le_refl _));have HLW:=yq hb.size;clear hno hb
  by_cases hlt:k < lst.length
  ·have hkI:(0:Int)≤(k:Int)∧(k:Int) < (lst.length:Int):=by omega
   obtain ⟨lb,loff,rfl,_,hlb,hc⟩:=HSW.out.at k hlt;obtain ⟨hc0,hc1⟩:=DOccurrence.open hc;have HC0:=yq hc0;have HC1:=yq hc1
   have HLB:=yq (show lb < wr.heap.size by have:=HLW.out;omega)
   have HUK:=yq (HUE.out k);have HOU:=yq (HUOK.out k hlt);clear hc HUE hc0 hc1 hlb;generalize lst.getD k default=u at *
   have HCM:=yq (fun (W:World) (hW:Below wr.heap.size wr W)=>HMU.out u HOU.out W (HBT.out.trans (hW.mono HBT.out.size)))
   generalize zd3 g x u=bb at *;go_wp2
   refine zw [([],.none,[]),([],.none,[]),([],.none,[]),([],.none,[]),([2,3],.none,[]),([4],.none,[]),([0,1,5],.none,[]),([6],.none,[])] [0,1,2,3,4,5,6,7] [] (fun _=>False) (fun _=>True) (fun _=>0) (fun jq9 V L H wx=>match jq9 with|0=>V 0 = .agg #[.slice a0 g.fl.length c0_0,.slice a1 g.fm.length c0_1]|1=>V 1 = .agg #[.string x.fa,.string x.fp,.slice b2 x.fj.length c1_0,.bool x.fq,.slice b4 x.fg.length c1_1,.slice b5 x.fo.length c1_2]|2=>V 2 = .slice (some ⟨lb,loff,none⟩) lst.length cl|3=>V 3 = .int .i64 (k:Int)|4=>V 4 = .pointer (some ⟨lb,loff+k * 2,none⟩)|5=>V 5 = .agg #[.int .i64 u.fb,.string u.fa]|6=>V 6 = .bool bb|7=>V 7 = .bool (!bb)|_=>True) (by kernel_rfl) (by kernel_rfl) ?obs (fun _ h=>h.elim) trivial (fun _ _ _ _ _=>trivial) ?loc ?lasts ?walk
   case obs =>
    trivial
   case loc =>
    intro k V V' L H wx h0 h1 hG
    match k with
    | 0 =>
     (try dsimp only at hG ⊢);rw [← h0];exact hG
    | 1 =>
     (try dsimp only at hG ⊢);rw [← h0];exact hG
    | 2 =>
     (try dsimp only at hG ⊢);rw [← h0];exact hG
    | 3 =>
     (try dsimp only at hG ⊢);rw [← h0];exact hG
    | 4 =>
     (try dsimp only at hG ⊢);rw [← h0];exact hG
    | 5 =>
     (try dsimp only at hG ⊢);rw [← h0];exact hG
    | 6 =>
     (try dsimp only at hG ⊢);rw [← h0];exact hG
    | 7 =>
     (try dsimp only at hG ⊢);rw [← h0];exact hG
    | n+8=>trivial
   case lasts =>
    intro i hi V L H wx wy hB hH hk
    match i,hi with
    | 0,_=>exact fun h=>h
    | 1,_=>exact fun h=>h
    | 2,_=>exact fun h=>h
    | 3,_=>exact fun h=>h
    | 4,_=>exact fun h=>h
    | 5,_=>exact fun h=>h
    | 6,_=>exact fun h=>h
    | 7,_=>exact fun h=>h
    | n+8,hn=>exact absurd hn (by simp)
   case walk =>
    simp (maxSteps:=4000000) only [zda,Nat.reduceAdd,Act.put,List.setIfInBounds_toArray,List.set_cons_succ,List.set_cons_zero]
    refine ⟨?_,?_,?_,?_,?_,?_,?_,?_,?_⟩
    ·intro V L H w1 hw hk hj hd
     clear hd
     have g0:w1.cell? ⟨w.heap.size,0,none⟩=some (.slice a0 g.fl.length c0_0):=((zd hw).cell (p:=⟨w.heap.size,0,none⟩) (show w.heap.size < wr.heap.size by have:=HZW.out;omega)).trans (za HGW.out rfl)
     have g1:w1.cell? ⟨w.heap.size,1,none⟩=some (.slice a1 g.fm.length c0_1):=((zd hw).cell (p:=⟨w.heap.size,1,none⟩) (show w.heap.size < wr.heap.size by have:=HZW.out;omega)).trans (za HGW.out rfl)
     (go_wp2_with fail);exact zc _ rfl ⟨⟨WritesF.refl _ _,hj⟩,zb⟩
    ·intro V L H w1 hw hk hj hd
     clear hd
     have r0:w1.cell? ⟨(w.heap.size+1),0,none⟩=some (.string x.fa):=((zd hw).cell (p:=⟨(w.heap.size+1),0,none⟩) (show w.heap.size+1 < wr.heap.size by have:=HZW.out;omega)).trans (za HRW.out rfl)
     have r1:w1.cell? ⟨(w.heap.size+1),1,none⟩=some (.string x.fp):=((zd hw).cell (p:=⟨(w.heap.size+1),1,none⟩) (show w.heap.size+1 < wr.heap.size by have:=HZW.out;omega)).trans (za HRW.out rfl)
     have r2:w1.cell? ⟨(w.heap.size+1),2,none⟩=some (.slice b2 x.fj.length c1_0):=((zd hw).cell (p:=⟨(w.heap.size+1),2,none⟩) (show w.heap.size+1 < wr.heap.size by have:=HZW.out;omega)).trans (za HRW.out rfl)
     have r3:w1.cell? ⟨(w.heap.size+1),3,none⟩=some (.bool x.fq):=((zd hw).cell (p:=⟨(w.heap.size+1),3,none⟩) (show w.heap.size+1 < wr.heap.size by have:=HZW.out;omega)).trans (za HRW.out rfl)
     have r4:w1.cell? ⟨(w.heap.size+1),4,none⟩=some (.slice b4 x.fg.length c1_1):=((zd hw).cell (p:=⟨(w.heap.size+1),4,none⟩) (show w.heap.size+1 < wr.heap.size by have:=HZW.out;omega)).trans (za HRW.out rfl)
     have r5:w1.cell? ⟨(w.heap.size+1),5,none⟩=some (.slice b5 x.fo.length c1_2):=((zd hw).cell (p:=⟨(w.heap.size+1),5,none⟩) (show w.heap.size+1 < wr.heap.size by have:=HZW.out;omega)).trans (za HRW.out rfl)
     (go_wp2_with fail);exact zc _ rfl ⟨⟨WritesF.refl _ _,hj⟩,zb⟩
    ·intro V L H w1 hw hk hj hd
     clear hd;(go_wp2_with fail);exact zc _ rfl ⟨⟨WritesF.refl _ _,hj⟩,zb⟩
    ·intro V L H w1 hw hk hj hd
     clear hd;(go_wp2_with fail);exact zc _ rfl ⟨⟨WritesF.refl _ _,hj⟩,zb⟩
    ·intro V L H w1 hw hk hj hd
     obtain ⟨⟨_,_,_,hv2⟩,⟨_,_,_,hv3⟩,-⟩:=hd;rw [hv2,hv3];have HV2:=yq hv2;have HV3:=yq hv3;clear hv2 hv3;(go_wp2_with fail);exact zc _ rfl ⟨⟨WritesF.refl _ _,hj⟩,zb⟩
    ·intro V L H w1 hw hk hj hd
     obtain ⟨⟨_,_,_,hv4⟩,-⟩:=hd;rw [hv4];have HV4:=yq hv4;clear hv4;have o0:w1.cell? ⟨lb,loff+k * 2,none⟩=some (.int .i64 u.fb):=((zd hw).cell (p:=⟨lb,loff+k * 2,none⟩) HLB.out).trans HC0.out;have o1:w1.cell? ⟨lb,loff+k * 2+1,none⟩=some (.string u.fa):=((zd hw).cell (p:=⟨lb,loff+k * 2+1,none⟩) HLB.out).trans HC1.out;(go_wp2_with fail);exact zc _ rfl ⟨⟨WritesF.refl _ _,hj⟩,zb⟩
    ·intro V L H w1 hw hk hj hd
     obtain ⟨⟨_,_,_,hv0⟩,⟨_,_,_,hv1⟩,⟨_,_,_,hv5⟩,-⟩:=hd;rw [hv0,hv1,hv5];have HV0:=yq hv0;have HV1:=yq hv1;have HV5:=yq hv5;clear hv0 hv1 hv5;(go_wp2_with fail);refine (HCM.out w1 (zd hw)).mono ?_;rintro e w2 ⟨rfl,hb2⟩;(go_wp2_with fail);exact zc _ rfl ⟨⟨(WritesF.refl _ _).later hb2,trivial⟩,zb⟩
    ·intro V L H w1 hw hk hj hd
     obtain ⟨⟨_,_,_,hv6⟩,-⟩:=hd;rw [hv6];have HV6:=yq hv6;clear hv6;(go_wp2_with fail);exact zc _ rfl ⟨⟨WritesF.refl _ _,hj⟩,zb⟩
    ·intro V L H w1 hw hj hd hap hdead
     obtain ⟨⟨_,_,_,hv0⟩,⟨_,_,_,hv1⟩,⟨_,_,_,hv2⟩,⟨_,_,_,hv3⟩,⟨_,_,_,hv4⟩,⟨_,_,_,hv5⟩,⟨_,_,_,hv6⟩,⟨_,_,_,hv7⟩,-⟩:=hd;rw [hv0,hv1,hv2,hv3,hv4,hv5,hv6,hv7];clear hv0 hv1 hv2 hv3 hv4 hv5 hv6 hv7;have HBN:=yq (HBW.out.trans ((zd hw).mono HBW.out.size));have HBF:=yq (HBT.out.trans ((zd hw).mono HBT.out.size));clear hw hj hap hdead
     cases bb with
     | false =>
      have FIN:=yq (show zev g x y=true from HUR.out.trans (zbm hlt HUK.out))
      go_wp2;go_ret
      exact ⟨zh (by rw [FIN.out];rfl),HBF.out⟩
     | true =>
      have HN1:=yq (zap HN.out HUK.out);go_wp2;go_roundw
      case rel=>exact ⟨k+1,by omega,by go_num,HN1.out,HBN.out⟩
      case measure=>simp [intOf];omega
  ·obtain rfl:k=lst.length:=by omega
   have FIN:=yq (show zev g x y=false from HUR.out.trans (zbp HN.out))
   go_wp2;go_ret
   exact ⟨zh (by rw [FIN.out];rfl),HBT.out⟩
theorem zpc {α : Type} [Inhabited α] (f h : α → DExpr) : ∀ (l:List α) (k:Nat),k < l.length→(l.flatMap fun c=>[f c,h c]).getD (2 * k) default=f (l.getD k default)∧(l.flatMap fun c=>[f c,h c]).getD (2 * k+1) default=h (l.getD k default)
 | [],_,hk=>absurd hk (Nat.not_lt_zero _)
 | a :: l,0,_=>⟨rfl,rfl⟩
 | a :: l,k+1,hk=>by
  have ih:=zpc f h l k (by simpa using hk)
  rw [List.flatMap_cons,show 2 * (k+1)=2 * k+1+1 by omega]
  exact ih
theorem zrt (x:DRule):(zao x).length=x.fg.length+2 * x.fo.length:=by
 unfold zao zcc
 rw [List.take_length,List.length_append,List.length_map,zkc]
theorem zto (x:DRule) {k:Nat} (h:k < x.fg.length):(zao x).getD k default=(x.fg.getD k default).fi:=by
 unfold zao zcc
 rw [List.getD_eq_getElem?_getD,List.getElem?_append_left (by rw [List.length_map];exact h),List.getElem?_map,List.getD_eq_getElem?_getD,List.getElem?_eq_getElem h]
 rfl
theorem zu7 (x:DRule) {k:Nat} (h:k < x.fo.length):(zao x).getD (x.fg.length+2 * k) default=(x.fo.getD k default).fe∧(zao x).getD (x.fg.length+2 * k+1) default=(x.fo.getD k default).ff:=by
 have h2:=zpc DContribution.fe DContribution.ff x.fo k h;rw [List.getD_eq_getElem?_getD (i:=2 * k),List.getD_eq_getElem?_getD (i:=2 * k+1)] at h2
 unfold zao zcc
 rw [List.take_length,List.getD_eq_getElem?_getD (i:=x.fg.length+2 * k),List.getD_eq_getElem?_getD (i:=x.fg.length+2 * k+1),List.getElem?_append_right (by rw [List.length_map];omega),List.getElem?_append_right (by rw [List.length_map];omega),List.length_map]
 rw [show x.fg.length+2 * k - x.fg.length=2 * k by omega,show x.fg.length+2 * k+1 - x.fg.length=2 * k+1 by omega]
 exact h2
theorem zmm {lo hi:Nat} {a0 a1:Option Addr} {c0_0 c0_1:Nat} {b2 b4 b5:Option Addr} {c1_0 c1_1 c1_2:Nat} (g:DGrammar) (okg:g.ok) (hszg:g.sz≤1048576) (x:DRule) (okx:x.ok) (hszx:x.sz≤1048576) (w:World) (hhi:hi≤w.heap.size) (hs0:Sl lo hi w 2 g.fl.length (fun k=>DSymbol.ct (g.fl.getD k default)) a0) (hs1:Sl lo hi w 6 g.fm.length (fun k=>DRule.ct (g.fm.getD k default)) a1) (hs2:Sl lo hi w 1 x.fj.length (fun k=>ictS (x.fj.getD k default)) b2) (hs4:Sl lo hi w 9 x.fg.length (fun k=>DEquation.ct (x.fg.getD k default)) b4) (hs5:Sl lo hi w 16 x.fo.length (fun k=>DContribution.ct (x.fo.getD k default)) b5) :
  Calls Tryz.prog 43 #[.agg #[.slice a0 g.fl.length c0_0,.slice a1 g.fm.length c0_1],.agg #[.string x.fa,.string x.fp,.slice b2 x.fj.length c1_0,.bool x.fq,.slice b4 x.fg.length c1_1,.slice b5 x.fo.length c1_2]] w fun e w'=>e = .returned (.bool (zdc g x))∧Below w.heap.size w w':=by
 have HB:=yq (show Below w.heap.size w ((w.alloc (.cells #[.slice a0 g.fl.length c0_0,.slice a1 g.fm.length c0_1] 32)).alloc (.cells #[.string x.fa,.string x.fp,.slice b2 x.fj.length c1_0,.bool x.fq,.slice b4 x.fg.length c1_1,.slice b5 x.fo.length c1_2] 50)) from ((Below.refl w.heap.size w).alloc (Nat.le_refl _) (.cells #[.slice a0 g.fl.length c0_0,.slice a1 g.fm.length c0_1] 32)).alloc (by simp) (.cells #[.string x.fa,.string x.fp,.slice b2 x.fj.length c1_0,.bool x.fq,.slice b4 x.fg.length c1_1,.slice b5 x.fo.length c1_2] 50))
 have HBG:=yq (show ((w.alloc (.cells #[.slice a0 g.fl.length c0_0,.slice a1 g.fm.length c0_1] 32)).alloc (.cells #[.string x.fa,.string x.fp,.slice b2 x.fj.length c1_0,.bool x.fq,.slice b4 x.fg.length c1_1,.slice b5 x.fo.length c1_2] 50)).heap[w.heap.size]? = some (.cells #[.slice a0 g.fl.length c0_0,.slice a1 g.fm.length c0_1] 32) from zn (by simp) (ze rfl))
 have HBR:=yq (show ((w.alloc (.cells #[.slice a0 g.fl.length c0_0,.slice a1 g.fm.length c0_1] 32)).alloc (.cells #[.string x.fa,.string x.fp,.slice b2 x.fj.length c1_0,.bool x.fq,.slice b4 x.fg.length c1_1,.slice b5 x.fo.length c1_2] 50)).heap[w.heap.size+1]? = some (.cells #[.string x.fa,.string x.fp,.slice b2 x.fj.length c1_0,.bool x.fq,.slice b4 x.fg.length c1_1,.slice b5 x.fo.length c1_2] 50) from ze (by simp))
 have HZ:=yq (show ((w.alloc (.cells #[.slice a0 g.fl.length c0_0,.slice a1 g.fm.length c0_1] 32)).alloc (.cells #[.string x.fa,.string x.fp,.slice b2 x.fj.length c1_0,.bool x.fq,.slice b4 x.fg.length c1_1,.slice b5 x.fo.length c1_2] 50)).heap.size=w.heap.size+2 by simp)
 have HS0:=yq (fun (W:World) (hW:Below w.heap.size w W)=>hs0.later hW hhi)
 have HS1:=yq (fun (W:World) (hW:Below w.heap.size w W)=>hs1.later hW hhi)
 have HS2:=yq (fun (W:World) (hW:Below w.heap.size w W)=>hs2.later hW hhi)
 have HS4:=yq (fun (W:World) (hW:Below w.heap.size w W)=>hs4.later hW hhi)
 have HS5:=yq (fun (W:World) (hW:Below w.heap.size w W)=>hs5.later hW hhi)
 have HHI:=yq hhi
 have hne:x.fg.length≤1048576:=by unfold DRule.sz lsz at hszx;omega
 have hnc:x.fo.length≤1048576:=by unfold DRule.sz lsz at hszx;omega
 have HSZ:=yq (fun k (hk:k < (zao x).length)=>zne hszx ((zao x).getD k default) (by rw [List.getD_eq_getElem?_getD,List.getElem?_eq_getElem hk];exact List.getElem_mem hk))
 have HOKE:=yq (fun k (hk:k < (zao x).length)=>zm4 okx ((zao x).getD k default) (by rw [List.getD_eq_getElem?_getD,List.getElem?_eq_getElem hk];exact List.getElem_mem hk))
 have HUS:=yq (fun (y:DExpr) (oky:y.ok) (hszy:y.sz≤1048576) (a9:Option Addr) (c9:Nat) (h9:Sl lo hi w 7 y.fc.length (ctE y.fc) a9) (W:World) (hW:Below w.heap.size w W)=>zqb (c9:=c9) (c0_0:=c0_0) (c0_1:=c0_1) (c1_0:=c1_0) (c1_1:=c1_1) (c1_2:=c1_2) g okg hszg x okx hszx y oky hszy W (Nat.le_trans HHI.out hW.size) (HS0.out W hW) (HS1.out W hW) (HS2.out W hW) (HS4.out W hW) (HS5.out W hW) (h9.later hW HHI.out))
 have HL:=yq (zrt x)
 have HQ:=yq (fun k (hk:k < x.fg.length)=>zto x hk)
 have HC:=yq (fun k (hk:k < x.fo.length)=>zu7 x hk)
 have HR:=yq (show zdc g x=anyP (zmu g x) (zao x).length from rfl)
 have HE:=yq (fun (k:Nat)=>show zmu g x k=zev g x ((zao x).getD k default) from rfl)
 have HX4:=yq hs4;have HX5:=yq hs5;clear hs0 hs1 hs2 hs4 hs5 hhi okg hszg okx hszx;generalize zao x=lst at *
 go_enter Tryz.func43,Tryz.ntmps43
 go_wp2;generalize ((w.alloc (.cells #[.slice a0 g.fl.length c0_0,.slice a1 g.fm.length c0_1] 32)).alloc (.cells #[.string x.fa,.string x.fp,.slice b2 x.fj.length c1_0,.bool x.fq,.slice b4 x.fg.length c1_1,.slice b5 x.fo.length c1_2] 50))=w0 at *
 go_loopw [5] (fun i wr=>∃ k:Nat,k≤x.fg.length∧i = .int .i64 (k:Int)∧zbo (zmu g x) k∧Below w0.heap.size w0 wr) (fun i _=>x.fg.length - (intOf i).toNat)
 case atStart=>exact ⟨0,Nat.zero_le _,rfl,zau _,Below.refl _ _⟩
 case round =>
  obtain ⟨k,hk,rfl,hno,hb⟩:=hrel;have HN:=yq hno;have HBW:=yq hb;have HBT:=yq (HB.out.trans (hb.mono HB.out.size))
  have HGW:=yq ((hb.block w.heap.size (by rw [HZ.out];omega)).trans HBG.out)
  have HRW:=yq ((hb.block (w.heap.size+1) (by rw [HZ.out];omega)).trans HBR.out)
  have HZW:=yq (show w.heap.size+2≤wr.heap.size from HZ.out ▸ hb.size)
  clear hno hb;have r4:wr.cell? ⟨w.heap.size+1,4,none⟩=some (.slice b4 x.fg.length c1_1):=za HRW.out rfl
  by_cases hlt:k < x.fg.length
  ·have hkI:(0:Int)≤(k:Int)∧(k:Int) < (x.fg.length:Int):=by omega
   obtain ⟨rb,ro,rfl,_,hrb,hc⟩:=HX4.out.at k hlt;obtain ⟨a9,c9,hc0,hc1,hc2,hc3,hc4,hc5,hc6,hc7,hc8,hs9⟩:=DEquation.open hc
   have hkl:k < lst.length:=by rw [HL.out];omega
   have HKL:=yq hkl;have HEK:=yq (HE.out k);have hszy:=HSZ.out k hkl;have hoky:=HOKE.out k hkl;rw [HQ.out k hlt] at HEK hszy hoky
   have HRB:=yq (show rb < w.heap.size from Nat.lt_of_lt_of_le hrb HHI.out)
   have HROW:=yq (And.intro hc2 (And.intro hc3 (And.intro hc4 (And.intro hc5 (And.intro hc6 (And.intro hc7 hc8))))))
   have HCU:=yq (fun (W:World) (hW:Below wr.heap.size wr W)=>HUS.out _ hoky hszy a9 c9 hs9 W (HBT.out.trans (hW.mono HBT.out.size)))
   clear hc hkl hszy hoky hs9 hrb hc0 hc1 hc2 hc3 hc4 hc5 hc6 hc7 hc8 HE HUS HSZ HOKE HQ;generalize (x.fg.getD k default).fi=y at *;generalize zev g x y=bu at *;go_wp2;clear r4
   refine zw [([],.none,[]),([],.none,[]),([],.none,[]),([2],.none,[]),([],.none,[]),([3,4],.none,[]),([5],.none,[]),([6],.none,[]),([0,1,7],.none,[]),([8],.none,[])] [0,1,2,3,4,5,6,7,8,9] [] (fun _=>False) (fun _=>True) (fun _=>0) (fun jq9 V L H wx=>match jq9 with|0=>V 0 = .agg #[.slice a0 g.fl.length c0_0,.slice a1 g.fm.length c0_1]|1=>V 1 = .agg #[.string x.fa,.string x.fp,.slice b2 x.fj.length c1_0,.bool x.fq,.slice (some ⟨rb,ro,none⟩) x.fg.length c1_1,.slice b5 x.fo.length c1_2]|2=>V 2 = .pointer (some ⟨w.heap.size+1,4,none⟩)|3=>V 3 = .slice (some ⟨rb,ro,none⟩) x.fg.length c1_1|4=>V 4 = .int .i64 (k:Int)|5=>V 5 = .pointer (some ⟨rb,ro+k * 9,none⟩)|6=>V 6 = .pointer (some ⟨rb,ro+k * 9+2,none⟩)|7=>V 7 = .agg #[.int .i64 y.fh,.int .i64 y.fN,.int .i64 y.fb,.int .i64 y.fk,.string y.fd,.string y.fa,.slice a9 y.fc.length c9]|8=>V 8 = .bool (!bu)|9=>V 9 = .bool (!!bu)|_=>True) (by kernel_rfl) (by kernel_rfl) ?obs (fun _ h=>h.elim) trivial (fun _ _ _ _ _=>trivial) ?loc ?lasts ?walk
   case obs =>
    trivial
   case loc =>
    intro k V V' L H wx h0 h1 hG
    match k with
    | 0 =>
     (try dsimp only at hG ⊢);rw [← h0];exact hG
    | 1 =>
     (try dsimp only at hG ⊢);rw [← h0];exact hG
    | 2 =>
     (try dsimp only at hG ⊢);rw [← h0];exact hG
    | 3 =>
     (try dsimp only at hG ⊢);rw [← h0];exact hG
    | 4 =>
     (try dsimp only at hG ⊢);rw [← h0];exact hG
    | 5 =>
     (try dsimp only at hG ⊢);rw [← h0];exact hG
    | 6 =>
     (try dsimp only at hG ⊢);rw [← h0];exact hG
    | 7 =>
     (try dsimp only at hG ⊢);rw [← h0];exact hG
    | 8 =>
     (try dsimp only at hG ⊢);rw [← h0];exact hG
    | 9 =>
     (try dsimp only at hG ⊢);rw [← h0];exact hG
    | n+10=>trivial
   case lasts =>
    intro i hi V L H wx wy hB hH hk
    match i,hi with
    | 0,_=>exact fun h=>h
    | 1,_=>exact fun h=>h
    | 2,_=>exact fun h=>h
    | 3,_=>exact fun h=>h
    | 4,_=>exact fun h=>h
    | 5,_=>exact fun h=>h
    | 6,_=>exact fun h=>h
    | 7,_=>exact fun h=>h
    | 8,_=>exact fun h=>h
    | 9,_=>exact fun h=>h
    | n+10,hn=>exact absurd hn (by simp)
   case walk =>
    simp (maxSteps:=4000000) only [zda,Nat.reduceAdd,Act.put,List.setIfInBounds_toArray,List.set_cons_succ,List.set_cons_zero]
    refine ⟨?_,?_,?_,?_,?_,?_,?_,?_,?_,?_,?_⟩
    ·intro V L H w1 hw hk hj hd
     clear hd
     have g0:w1.cell? ⟨w.heap.size,0,none⟩=some (.slice a0 g.fl.length c0_0):=((zd hw).cell (p:=⟨w.heap.size,0,none⟩) (show w.heap.size < wr.heap.size by have:=HZW.out;omega)).trans (za HGW.out rfl)
     have g1:w1.cell? ⟨w.heap.size,1,none⟩=some (.slice a1 g.fm.length c0_1):=((zd hw).cell (p:=⟨w.heap.size,1,none⟩) (show w.heap.size < wr.heap.size by have:=HZW.out;omega)).trans (za HGW.out rfl)
     (go_wp2_with fail);exact zc _ rfl ⟨⟨WritesF.refl _ _,hj⟩,zb⟩
    ·intro V L H w1 hw hk hj hd
     clear hd
     have r0:w1.cell? ⟨(w.heap.size+1),0,none⟩=some (.string x.fa):=((zd hw).cell (p:=⟨(w.heap.size+1),0,none⟩) (show w.heap.size+1 < wr.heap.size by have:=HZW.out;omega)).trans (za HRW.out rfl)
     have r1:w1.cell? ⟨(w.heap.size+1),1,none⟩=some (.string x.fp):=((zd hw).cell (p:=⟨(w.heap.size+1),1,none⟩) (show w.heap.size+1 < wr.heap.size by have:=HZW.out;omega)).trans (za HRW.out rfl)
     have r2:w1.cell? ⟨(w.heap.size+1),2,none⟩=some (.slice b2 x.fj.length c1_0):=((zd hw).cell (p:=⟨(w.heap.size+1),2,none⟩) (show w.heap.size+1 < wr.heap.size by have:=HZW.out;omega)).trans (za HRW.out rfl)
     have r3:w1.cell? ⟨(w.heap.size+1),3,none⟩=some (.bool x.fq):=((zd hw).cell (p:=⟨(w.heap.size+1),3,none⟩) (show w.heap.size+1 < wr.heap.size by have:=HZW.out;omega)).trans (za HRW.out rfl)
     have r4:w1.cell? ⟨(w.heap.size+1),4,none⟩=some (.slice (some ⟨rb,ro,none⟩) x.fg.length c1_1):=((zd hw).cell (p:=⟨(w.heap.size+1),4,none⟩) (show w.heap.size+1 < wr.heap.size by have:=HZW.out;omega)).trans (za HRW.out rfl)
     have r5:w1.cell? ⟨(w.heap.size+1),5,none⟩=some (.slice b5 x.fo.length c1_2):=((zd hw).cell (p:=⟨(w.heap.size+1),5,none⟩) (show w.heap.size+1 < wr.heap.size by have:=HZW.out;omega)).trans (za HRW.out rfl)
     (go_wp2_with fail);exact zc _ rfl ⟨⟨WritesF.refl _ _,hj⟩,zb⟩
    ·intro V L H w1 hw hk hj hd
     clear hd;(go_wp2_with fail);exact zc _ rfl ⟨⟨WritesF.refl _ _,hj⟩,zb⟩
    ·intro V L H w1 hw hk hj hd
     obtain ⟨⟨_,_,_,hv2⟩,-⟩:=hd;rw [hv2];have HV2:=yq hv2;clear hv2
     have r4:w1.cell? ⟨(w.heap.size+1),4,none⟩=some (.slice (some ⟨rb,ro,none⟩) x.fg.length c1_1):=((zd hw).cell (p:=⟨(w.heap.size+1),4,none⟩) (show w.heap.size+1 < wr.heap.size by have:=HZW.out;omega)).trans (za HRW.out rfl)
     (go_wp2_with fail);exact zc _ rfl ⟨⟨WritesF.refl _ _,hj⟩,zb⟩
    ·intro V L H w1 hw hk hj hd
     clear hd;(go_wp2_with fail);exact zc _ rfl ⟨⟨WritesF.refl _ _,hj⟩,zb⟩
    ·intro V L H w1 hw hk hj hd
     obtain ⟨⟨_,_,_,hv3⟩,⟨_,_,_,hv4⟩,-⟩:=hd;rw [hv3,hv4];have HV3:=yq hv3;have HV4:=yq hv4;clear hv3 hv4;(go_wp2_with fail);exact zc _ rfl ⟨⟨WritesF.refl _ _,hj⟩,zb⟩
    ·intro V L H w1 hw hk hj hd
     obtain ⟨⟨_,_,_,hv5⟩,-⟩:=hd;rw [hv5];have HV5:=yq hv5;clear hv5;(go_wp2_with fail);exact zc _ rfl ⟨⟨WritesF.refl _ _,hj⟩,zb⟩
    ·intro V L H w1 hw hk hj hd
     obtain ⟨⟨_,_,_,hv6⟩,-⟩:=hd;rw [hv6];have HV6:=yq hv6;clear hv6;have e0:w1.cell? ⟨rb,ro+k * 9+2,none⟩=some (.int .i64 y.fh):=((zd hw).cell (p:=⟨rb,ro+k * 9+2,none⟩) (Nat.lt_of_lt_of_le HRB.out HBT.out.size)).trans ((HBT.out.cell (p:=⟨rb,ro+k * 9+2,none⟩) HRB.out).trans HROW.out.1);have e1:w1.cell? ⟨rb,ro+k * 9+3,none⟩=some (.int .i64 y.fN):=((zd hw).cell (p:=⟨rb,ro+k * 9+3,none⟩) (Nat.lt_of_lt_of_le HRB.out HBT.out.size)).trans ((HBT.out.cell (p:=⟨rb,ro+k * 9+3,none⟩) HRB.out).trans HROW.out.2.1);have e2:w1.cell? ⟨rb,ro+k * 9+4,none⟩=some (.int .i64 y.fb):=((zd hw).cell (p:=⟨rb,ro+k * 9+4,none⟩) (Nat.lt_of_lt_of_le HRB.out HBT.out.size)).trans ((HBT.out.cell (p:=⟨rb,ro+k * 9+4,none⟩) HRB.out).trans HROW.out.2.2.1);have e3:w1.cell? ⟨rb,ro+k * 9+5,none⟩=some (.int .i64 y.fk):=((zd hw).cell (p:=⟨rb,ro+k * 9+5,none⟩) (Nat.lt_of_lt_of_le HRB.out HBT.out.size)).trans ((HBT.out.cell (p:=⟨rb,ro+k * 9+5,none⟩) HRB.out).trans HROW.out.2.2.2.1);have e4:w1.cell? ⟨rb,ro+k * 9+6,none⟩=some (.string y.fd):=((zd hw).cell (p:=⟨rb,ro+k * 9+6,none⟩) (Nat.lt_of_lt_of_le HRB.out HBT.out.size)).trans ((HBT.out.cell (p:=⟨rb,ro+k * 9+6,none⟩) HRB.out).trans HROW.out.2.2.2.2.1);have e5:w1.cell? ⟨rb,ro+k * 9+7,none⟩=some (.string y.fa):=((zd hw).cell (p:=⟨rb,ro+k * 9+7,none⟩) (Nat.lt_of_lt_of_le HRB.out HBT.out.size)).trans ((HBT.out.cell (p:=⟨rb,ro+k * 9+7,none⟩) HRB.out).trans HROW.out.2.2.2.2.2.1);have e6:w1.cell? ⟨rb,ro+k * 9+8,none⟩=some (.slice a9 y.fc.length c9):=((zd hw).cell (p:=⟨rb,ro+k * 9+8,none⟩) (Nat.lt_of_lt_of_le HRB.out HBT.out.size)).trans ((HBT.out.cell (p:=⟨rb,ro+k * 9+8,none⟩) HRB.out).trans HROW.out.2.2.2.2.2.2);(go_wp2_with fail);exact zc _ rfl ⟨⟨WritesF.refl _ _,hj⟩,zb⟩
    ·intro V L H w1 hw hk hj hd
     obtain ⟨⟨_,_,_,hv0⟩,⟨_,_,_,hv1⟩,⟨_,_,_,hv7⟩,-⟩:=hd;rw [hv0,hv1,hv7];have HV0:=yq hv0;have HV1:=yq hv1;have HV7:=yq hv7;clear hv0 hv1 hv7;(go_wp2_with fail);refine (HCU.out w1 (zd hw)).mono ?_;rintro e w2 ⟨rfl,hb2⟩;(go_wp2_with fail);exact zc _ rfl ⟨⟨(WritesF.refl _ _).later hb2,trivial⟩,zb⟩
    ·intro V L H w1 hw hk hj hd
     obtain ⟨⟨_,_,_,hv8⟩,-⟩:=hd;rw [hv8];have HV8:=yq hv8;clear hv8;(go_wp2_with fail);exact zc _ rfl ⟨⟨WritesF.refl _ _,hj⟩,zb⟩
    ·intro V L H w1 hw hj hd hap hdead
     obtain ⟨⟨_,_,_,hv0⟩,⟨_,_,_,hv1⟩,⟨_,_,_,hv2⟩,⟨_,_,_,hv3⟩,⟨_,_,_,hv4⟩,⟨_,_,_,hv5⟩,⟨_,_,_,hv6⟩,⟨_,_,_,hv7⟩,⟨_,_,_,hv8⟩,⟨_,_,_,hv9⟩,-⟩:=hd;rw [hv0,hv1,hv2,hv3,hv4,hv5,hv6,hv7,hv8,hv9];clear hv0 hv1 hv2 hv3 hv4 hv5 hv6 hv7 hv8 hv9;have HBN:=yq (HBW.out.trans ((zd hw).mono HBW.out.size));have HBF:=yq (HBT.out.trans ((zd hw).mono HBT.out.size));clear hw hj hap hdead
     cases bu with
     | true =>
      have FIN:=yq (show zdc g x=true from HR.out.trans (zbm HKL.out HEK.out))
      go_wp2;go_ret;exact ⟨zh FIN.out.symm,HBF.out⟩
     | false =>
      have HN1:=yq (zap HN.out HEK.out);go_wp2;go_roundw
      case rel=>exact ⟨k+1,by omega,by go_num,HN1.out,HBN.out⟩
      case measure=>simp [intOf];omega
  ·obtain rfl:k=x.fg.length:=by omega
   have HN0:=yq (show zbo (zmu g x) (x.fg.length+2 * 0) from HN.out)
   have HB0:=HBT;have HBGa:=HGW;have HBRa:=HRW;have HZa:=HZW;have hza:=HZW.out;clear HN HBW HBT HGW HRW HZW HB HBG HBR HZ;go_wp2;clear r4;generalize wr=wa at *
   go_loopw [6] (fun i wr=>∃ k:Nat,k≤x.fo.length∧i = .int .i64 (k:Int)∧zbo (zmu g x) (x.fg.length+2 * k)∧Below wa.heap.size wa wr) (fun i _=>x.fo.length - (intOf i).toNat)
   case atStart=>exact ⟨0,Nat.zero_le _,rfl,HN0.out,Below.refl _ _⟩
   case round =>
    obtain ⟨k,hk,rfl,hno,hb⟩:=hrel;have HN:=yq hno;have HBW:=yq hb;have HBT:=yq (HB0.out.trans (hb.mono HB0.out.size))
    have HGW:=yq ((hb.block w.heap.size (by omega)).trans HBGa.out)
    have HRW:=yq ((hb.block (w.heap.size+1) (by omega)).trans HBRa.out)
    have HZW:=yq (show w.heap.size+2≤wr.heap.size from Nat.le_trans hza hb.size)
    clear hno hb;have r5:wr.cell? ⟨w.heap.size+1,5,none⟩=some (.slice b5 x.fo.length c1_2):=za HRW.out rfl
    by_cases hlt:k < x.fo.length
    ·have hkI:(0:Int)≤(k:Int)∧(k:Int) < (x.fo.length:Int):=by omega
     obtain ⟨rb,ro,rfl,_,hrb,hc⟩:=HX5.out.at k hlt;obtain ⟨a9,c9,a15,c15,hc0,hc1,hc2,hc3,hc4,hc5,hc6,hc7,hc8,hc9,hc10,hc11,hc12,hc13,hc14,hc15,hs9,hs15⟩:=DContribution.open hc
     have hkl:x.fg.length+2 * k+1 < lst.length:=by rw [HL.out];omega
     have HKL:=yq hkl;have HEK:=yq (HE.out (x.fg.length+2 * k));have HEK2:=yq (HE.out (x.fg.length+2 * k+1))
     have hszy:=HSZ.out (x.fg.length+2 * k) (by omega)
     have hoky:=HOKE.out (x.fg.length+2 * k) (by omega)
     have hszz:=HSZ.out _ hkl;have hokz:=HOKE.out _ hkl;rw [(HC.out k hlt).1] at HEK hszy hoky;rw [(HC.out k hlt).2] at HEK2 hszz hokz
     have HRB:=yq (show rb < w.heap.size from Nat.lt_of_lt_of_le hrb HHI.out)
     have HROW:=yq (And.intro hc2 (And.intro hc3 (And.intro hc4 (And.intro hc5 (And.intro hc6 (And.intro hc7 hc8))))));have HROZ:=yq (And.intro hc9 (And.intro hc10 (And.intro hc11 (And.intro hc12 (And.intro hc13 (And.intro hc14 hc15))))))
     have HCU:=yq (fun (W:World) (hW:Below wr.heap.size wr W)=>HUS.out _ hoky hszy a9 c9 hs9 W (HBT.out.trans (hW.mono HBT.out.size)))
     have HCV:=yq (fun (W:World) (hW:Below wr.heap.size wr W)=>HUS.out _ hokz hszz a15 c15 hs15 W (HBT.out.trans (hW.mono HBT.out.size)))
     clear hc hkl hszy hoky hszz hokz hs9 hs15 hrb hc0 hc1 hc2 hc3 hc4 hc5 hc6 hc7 hc8 hc9 hc10 hc11 hc12 hc13 hc14 hc15 HE HUS HSZ HOKE HQ HC;generalize (x.fo.getD k default).fe=y at *;generalize (x.fo.getD k default).ff=z at *;generalize zev g x y=bu at *;generalize zev g x z=bv at *
     cases bu with
     | true =>
      go_wp2;clear r5
      refine zw [([],.none,[]),([],.none,[]),([],.none,[]),([2],.none,[]),([],.none,[]),([3,4],.none,[]),([5],.none,[]),([6],.none,[]),([0,1,7],.none,[]),([8],.none,[]),([9],.none,[]),([10],.none,[]),([10],.none,[]),([10],.none,[]),([10],.none,[]),([10],.none,[]),([10],.none,[]),([10],.none,[]),([10],.none,[]),([10],.none,[]),([10],.none,[]),([10,20],.none,[])] [0,1,2,3,4,5,6,7,8,9,10,11,12,13,14,15,16,17,18,19,20,21] [] (fun _=>False) (fun _=>True) (fun _=>0) (fun jq9 V L H wx=>match jq9 with|0=>V 0 = .agg #[.slice a0 g.fl.length c0_0,.slice a1 g.fm.length c0_1]|1=>V 1 = .agg #[.string x.fa,.string x.fp,.slice b2 x.fj.length c1_0,.bool x.fq,.slice b4 x.fg.length c1_1,.slice (some ⟨rb,ro,none⟩) x.fo.length c1_2]|2=>V 2 = .pointer (some ⟨w.heap.size+1,5,none⟩)|3=>V 3 = .slice (some ⟨rb,ro,none⟩) x.fo.length c1_2|4=>V 4 = .int .i64 (k:Int)|5=>V 5 = .pointer (some ⟨rb,ro+k * 16,none⟩)|6=>V 6 = .pointer (some ⟨rb,ro+k * 16+2,none⟩)|7=>V 7 = .agg #[.int .i64 y.fh,.int .i64 y.fN,.int .i64 y.fb,.int .i64 y.fk,.string y.fd,.string y.fa,.slice a9 y.fc.length c9]|8=>V 8 = .bool (!true)|9=>V 9 = .bool true|10=>V 10 = .bool true|11=>V 11=undef|12=>V 12=undef|13=>V 13=undef|14=>V 14=undef|15=>V 15=undef|16=>V 16=undef|17=>V 17=undef|18=>V 18=undef|19=>V 19=undef|20=>V 20=undef|21=>V 21 = .bool true|_=>True) (by kernel_rfl) (by kernel_rfl) ?obs (fun _ h=>h.elim) trivial (fun _ _ _ _ _=>trivial) ?loc ?lasts ?walk
      case obs =>
       trivial
      case loc =>
       intro k V V' L H wx h0 h1 hG
       match k with
       | 0 =>
        (try dsimp only at hG ⊢);rw [← h0];exact hG
       | 1 =>
        (try dsimp only at hG ⊢);rw [← h0];exact hG
       | 2 =>
        (try dsimp only at hG ⊢);rw [← h0];exact hG
       | 3 =>
        (try dsimp only at hG ⊢);rw [← h0];exact hG
       | 4 =>
        (try dsimp only at hG ⊢);rw [← h0];exact hG
       | 5 =>
        (try dsimp only at hG ⊢);rw [← h0];exact hG
       | 6 =>
        (try dsimp only at hG ⊢);rw [← h0];exact hG
       | 7 =>
        (try dsimp only at hG ⊢);rw [← h0];exact hG
       | 8 =>
        (try dsimp only at hG ⊢);rw [← h0];exact hG
       | 9 =>
        (try dsimp only at hG ⊢);rw [← h0];exact hG
       | 10 =>
        (try dsimp only at hG ⊢);rw [← h0];exact hG
       | 11 =>
        (try dsimp only at hG ⊢);rw [← h0];exact hG
       | 12 =>
        (try dsimp only at hG ⊢);rw [← h0];exact hG
       | 13 =>
        (try dsimp only at hG ⊢);rw [← h0];exact hG
       | 14 =>
        (try dsimp only at hG ⊢);rw [← h0];exact hG
       | 15 =>
        (try dsimp only at hG ⊢);rw [← h0];exact hG
       | 16 =>
        (try dsimp only at hG ⊢);rw [← h0];exact hG
       | 17 =>
        (try dsimp only at hG ⊢);rw [← h0];exact hG
       | 18 =>
        (try dsimp only at hG ⊢);rw [← h0];exact hG
       | 19 =>
        (try dsimp only at hG ⊢);rw [← h0];exact hG
       | 20 =>
        (try dsimp only at hG ⊢);rw [← h0];exact hG
       | 21 =>
        (try dsimp only at hG ⊢);rw [← h0];exact hG
       | n+22=>trivial
      case lasts =>
       intro i hi V L H wx wy hB hH hk
       match i,hi with
       | 0,_=>exact fun h=>h
       | 1,_=>exact fun h=>h
       | 2,_=>exact fun h=>h
       | 3,_=>exact fun h=>h
       | 4,_=>exact fun h=>h
       | 5,_=>exact fun h=>h
       | 6,_=>exact fun h=>h
       | 7,_=>exact fun h=>h
       | 8,_=>exact fun h=>h
       | 9,_=>exact fun h=>h
       | 10,_=>exact fun h=>h
       | 11,_=>exact fun h=>h
       | 12,_=>exact fun h=>h
       | 13,_=>exact fun h=>h
       | 14,_=>exact fun h=>h
       | 15,_=>exact fun h=>h
       | 16,_=>exact fun h=>h
       | 17,_=>exact fun h=>h
       | 18,_=>exact fun h=>h
       | 19,_=>exact fun h=>h
       | 20,_=>exact fun h=>h
       | 21,_=>exact fun h=>h
       | n+22,hn=>exact absurd hn (by simp)
      case walk =>
       simp (maxSteps:=4000000) only [zda,Nat.reduceAdd,Act.put,List.setIfInBounds_toArray,List.set_cons_succ,List.set_cons_zero]
       refine ⟨?_,?_,?_,?_,?_,?_,?_,?_,?_,?_,?_,?_,?_,?_,?_,?_,?_,?_,?_,?_,?_,?_,?_⟩
       ·intro V L H w1 hw hk hj hd
        clear hd
        have g0:w1.cell? ⟨w.heap.size,0,none⟩=some (.slice a0 g.fl.length c0_0):=((zd hw).cell (p:=⟨w.heap.size,0,none⟩) (show w.heap.size < wr.heap.size by have:=HZW.out;omega)).trans (za HGW.out rfl)
        have g1:w1.cell? ⟨w.heap.size,1,none⟩=some (.slice a1 g.fm.length c0_1):=((zd hw).cell (p:=⟨w.heap.size,1,none⟩) (show w.heap.size < wr.heap.size by have:=HZW.out;omega)).trans (za HGW.out rfl)
        (go_wp2_with fail);exact zc _ rfl ⟨⟨WritesF.refl _ _,hj⟩,zb⟩
       ·intro V L H w1 hw hk hj hd
        clear hd
        have r0:w1.cell? ⟨(w.heap.size+1),0,none⟩=some (.string x.fa):=((zd hw).cell (p:=⟨(w.heap.size+1),0,none⟩) (show w.heap.size+1 < wr.heap.size by have:=HZW.out;omega)).trans (za HRW.out rfl)
        have r1:w1.cell? ⟨(w.heap.size+1),1,none⟩=some (.string x.fp):=((zd hw).cell (p:=⟨(w.heap.size+1),1,none⟩) (show w.heap.size+1 < wr.heap.size by have:=HZW.out;omega)).trans (za HRW.out rfl)
        have r2:w1.cell? ⟨(w.heap.size+1),2,none⟩=some (.slice b2 x.fj.length c1_0):=((zd hw).cell (p:=⟨(w.heap.size+1),2,none⟩) (show w.heap.size+1 < wr.heap.size by have:=HZW.out;omega)).trans (za HRW.out rfl)
        have r3:w1.cell? ⟨(w.heap.size+1),3,none⟩=some (.bool x.fq):=((zd hw).cell (p:=⟨(w.heap.size+1),3,none⟩) (show w.heap.size+1 < wr.heap.size by have:=HZW.out;omega)).trans (za HRW.out rfl)
        have r4:w1.cell? ⟨(w.heap.size+1),4,none⟩=some (.slice b4 x.fg.length c1_1):=((zd hw).cell (p:=⟨(w.heap.size+1),4,none⟩) (show w.heap.size+1 < wr.heap.size by have:=HZW.out;omega)).trans (za HRW.out rfl)
        have r5:w1.cell? ⟨(w.heap.size+1),5,none⟩=some (.slice (some ⟨rb,ro,none⟩) x.fo.length c1_2):=((zd hw).cell (p:=⟨(w.heap.size+1),5,none⟩) (show w.heap.size+1 < wr.heap.size by have:=HZW.out;omega)).trans (za HRW.out rfl)
        (go_wp2_with fail);exact zc _ rfl ⟨⟨WritesF.refl _ _,hj⟩,zb⟩
       ·intro V L H w1 hw hk hj hd
        clear hd;(go_wp2_with fail);exact zc _ rfl ⟨⟨WritesF.refl _ _,hj⟩,zb⟩
       ·intro V L H w1 hw hk hj hd
        obtain ⟨⟨_,_,_,hv2⟩,-⟩:=hd;rw [hv2];have HV2:=yq hv2;clear hv2
        have r5:w1.cell? ⟨(w.heap.size+1),5,none⟩=some (.slice (some ⟨rb,ro,none⟩) x.fo.length c1_2):=((zd hw).cell (p:=⟨(w.heap.size+1),5,none⟩) (show w.heap.size+1 < wr.heap.size by have:=HZW.out;omega)).trans (za HRW.out rfl)
        (go_wp2_with fail);exact zc _ rfl ⟨⟨WritesF.refl _ _,hj⟩,zb⟩
       ·intro V L H w1 hw hk hj hd
        clear hd;(go_wp2_with fail);exact zc _ rfl ⟨⟨WritesF.refl _ _,hj⟩,zb⟩
       ·intro V L H w1 hw hk hj hd
        obtain ⟨⟨_,_,_,hv3⟩,⟨_,_,_,hv4⟩,-⟩:=hd;rw [hv3,hv4];have HV3:=yq hv3;have HV4:=yq hv4;clear hv3 hv4;(go_wp2_with fail);exact zc _ rfl ⟨⟨WritesF.refl _ _,hj⟩,zb⟩
       ·intro V L H w1 hw hk hj hd
        obtain ⟨⟨_,_,_,hv5⟩,-⟩:=hd;rw [hv5];have HV5:=yq hv5;clear hv5;(go_wp2_with fail);exact zc _ rfl ⟨⟨WritesF.refl _ _,hj⟩,zb⟩
       ·intro V L H w1 hw hk hj hd
        obtain ⟨⟨_,_,_,hv6⟩,-⟩:=hd;rw [hv6];have HV6:=yq hv6;clear hv6;have e0:w1.cell? ⟨rb,ro+k * 16+2,none⟩=some (.int .i64 y.fh):=((zd hw).cell (p:=⟨rb,ro+k * 16+2,none⟩) (Nat.lt_of_lt_of_le HRB.out HBT.out.size)).trans ((HBT.out.cell (p:=⟨rb,ro+k * 16+2,none⟩) HRB.out).trans HROW.out.1);have e1:w1.cell? ⟨rb,ro+k * 16+3,none⟩=some (.int .i64 y.fN):=((zd hw).cell (p:=⟨rb,ro+k * 16+3,none⟩) (Nat.lt_of_lt_of_le HRB.out HBT.out.size)).trans ((HBT.out.cell (p:=⟨rb,ro+k * 16+3,none⟩) HRB.out).trans HROW.out.2.1);have e2:w1.cell? ⟨rb,ro+k * 16+4,none⟩=some (.int .i64 y.fb):=((zd hw).cell (p:=⟨rb,ro+k * 16+4,none⟩) (Nat.lt_of_lt_of_le HRB.out HBT.out.size)).trans ((HBT.out.cell (p:=⟨rb,ro+k * 16+4,none⟩) HRB.out).trans HROW.out.2.2.1);have e3:w1.cell? ⟨rb,ro+k * 16+5,none⟩=some (.int .i64 y.fk):=((zd hw).cell (p:=⟨rb,ro+k * 16+5,none⟩) (Nat.lt_of_lt_of_le HRB.out HBT.out.size)).trans ((HBT.out.cell (p:=⟨rb,ro+k * 16+5,none⟩) HRB.out).trans HROW.out.2.2.2.1);have e4:w1.cell? ⟨rb,ro+k * 16+6,none⟩=some (.string y.fd):=((zd hw).cell (p:=⟨rb,ro+k * 16+6,none⟩) (Nat.lt_of_lt_of_le HRB.out HBT.out.size)).trans ((HBT.out.cell (p:=⟨rb,ro+k * 16+6,none⟩) HRB.out).trans HROW.out.2.2.2.2.1);have e5:w1.cell? ⟨rb,ro+k * 16+7,none⟩=some (.string y.fa):=((zd hw).cell (p:=⟨rb,ro+k * 16+7,none⟩) (Nat.lt_of_lt_of_le HRB.out HBT.out.size)).trans ((HBT.out.cell (p:=⟨rb,ro+k * 16+7,none⟩) HRB.out).trans HROW.out.2.2.2.2.2.1);have e6:w1.cell? ⟨rb,ro+k * 16+8,none⟩=some (.slice a9 y.fc.length c9):=((zd hw).cell (p:=⟨rb,ro+k * 16+8,none⟩) (Nat.lt_of_lt_of_le HRB.out HBT.out.size)).trans ((HBT.out.cell (p:=⟨rb,ro+k * 16+8,none⟩) HRB.out).trans HROW.out.2.2.2.2.2.2);(go_wp2_with fail);exact zc _ rfl ⟨⟨WritesF.refl _ _,hj⟩,zb⟩
       ·intro V L H w1 hw hk hj hd
        obtain ⟨⟨_,_,_,hv0⟩,⟨_,_,_,hv1⟩,⟨_,_,_,hv7⟩,-⟩:=hd;rw [hv0,hv1,hv7];have HV0:=yq hv0;have HV1:=yq hv1;have HV7:=yq hv7;clear hv0 hv1 hv7;(go_wp2_with fail);refine (HCU.out w1 (zd hw)).mono ?_;rintro e w2 ⟨rfl,hb2⟩;(go_wp2_with fail);exact zc _ rfl ⟨⟨(WritesF.refl _ _).later hb2,trivial⟩,zb⟩
       ·intro V L H w1 hw hk hj hd
        obtain ⟨⟨_,_,_,hv8⟩,-⟩:=hd;rw [hv8];have HV8:=yq hv8;clear hv8;(go_wp2_with fail);exact zc _ rfl ⟨⟨WritesF.refl _ _,hj⟩,zb⟩
       ·intro V L H w1 hw hk hj hd
        obtain ⟨⟨_,_,_,hv9⟩,-⟩:=hd;rw [hv9];have HV9:=yq hv9;clear hv9;(go_wp2_with fail);exact zc _ rfl ⟨⟨WritesF.refl _ _,hj⟩,zb⟩
       ·intro V L H w1 hw hk hj hd
        obtain ⟨⟨_,_,_,hv10⟩,-⟩:=hd;rw [hv10];have HV10:=yq hv10;clear hv10;(go_wp2_with fail);exact zc _ rfl ⟨⟨WritesF.refl _ _,hj⟩,zb⟩
       ·intro V L H w1 hw hk hj hd
        obtain ⟨⟨_,_,_,hv10⟩,-⟩:=hd;rw [hv10];have HV10:=yq hv10;clear hv10;(go_wp2_with fail);exact zc _ rfl ⟨⟨WritesF.refl _ _,hj⟩,zb⟩
       ·intro V L H w1 hw hk hj hd
        obtain ⟨⟨_,_,_,hv10⟩,-⟩:=hd;rw [hv10];have HV10:=yq hv10;clear hv10;(go_wp2_with fail);exact zc _ rfl ⟨⟨WritesF.refl _ _,hj⟩,zb⟩
       ·intro V L H w1 hw hk hj hd
        obtain ⟨⟨_,_,_,hv10⟩,-⟩:=hd;rw [hv10];have HV10:=yq hv10;clear hv10;(go_wp2_with fail);exact zc _ rfl ⟨⟨WritesF.refl _ _,hj⟩,zb⟩
       ·intro V L H w1 hw hk hj hd
        obtain ⟨⟨_,_,_,hv10⟩,-⟩:=hd;rw [hv10];have HV10:=yq hv10;clear hv10;(go_wp2_with fail);exact zc _ rfl ⟨⟨WritesF.refl _ _,hj⟩,zb⟩
       ·intro V L H w1 hw hk hj hd
        obtain ⟨⟨_,_,_,hv10⟩,-⟩:=hd;rw [hv10];have HV10:=yq hv10;clear hv10;(go_wp2_with fail);exact zc _ rfl ⟨⟨WritesF.refl _ _,hj⟩,zb⟩
       ·intro V L H w1 hw hk hj hd
        obtain ⟨⟨_,_,_,hv10⟩,-⟩:=hd;rw [hv10];have HV10:=yq hv10;clear hv10;(go_wp2_with fail);exact zc _ rfl ⟨⟨WritesF.refl _ _,hj⟩,zb⟩
       ·intro V L H w1 hw hk hj hd
        obtain ⟨⟨_,_,_,hv10⟩,-⟩:=hd;rw [hv10];have HV10:=yq hv10;clear hv10;(go_wp2_with fail);exact zc _ rfl ⟨⟨WritesF.refl _ _,hj⟩,zb⟩
       ·intro V L H w1 hw hk hj hd
        obtain ⟨⟨_,_,_,hv10⟩,-⟩:=hd;rw [hv10];have HV10:=yq hv10;clear hv10;(go_wp2_with fail);exact zc _ rfl ⟨⟨WritesF.refl _ _,hj⟩,zb⟩
       ·intro V L H w1 hw hk hj hd
        obtain ⟨⟨_,_,_,hv10⟩,-⟩:=hd;rw [hv10];have HV10:=yq hv10;clear hv10;(go_wp2_with fail);exact zc _ rfl ⟨⟨WritesF.refl _ _,hj⟩,zb⟩
       ·intro V L H w1 hw hk hj hd
        obtain ⟨⟨_,_,_,hv10⟩,⟨_,_,_,hv20⟩,-⟩:=hd;rw [hv10,hv20];have HV10:=yq hv10;have HV20:=yq hv20;clear hv10 hv20;(go_wp2_with fail);exact zc _ rfl ⟨⟨WritesF.refl _ _,hj⟩,zb⟩
       ·intro V L H w1 hw hj hd hap hdead
        obtain ⟨⟨_,_,_,hv0⟩,⟨_,_,_,hv1⟩,⟨_,_,_,hv2⟩,⟨_,_,_,hv3⟩,⟨_,_,_,hv4⟩,⟨_,_,_,hv5⟩,⟨_,_,_,hv6⟩,⟨_,_,_,hv7⟩,⟨_,_,_,hv8⟩,⟨_,_,_,hv9⟩,⟨_,_,_,hv10⟩,⟨_,_,_,hv11⟩,⟨_,_,_,hv12⟩,⟨_,_,_,hv13⟩,⟨_,_,_,hv14⟩,⟨_,_,_,hv15⟩,⟨_,_,_,hv16⟩,⟨_,_,_,hv17⟩,⟨_,_,_,hv18⟩,⟨_,_,_,hv19⟩,⟨_,_,_,hv20⟩,⟨_,_,_,hv21⟩,-⟩:=hd;rw [hv0,hv1,hv2,hv3,hv4,hv5,hv6,hv7,hv8,hv9,hv10,hv11,hv12,hv13,hv14,hv15,hv16,hv17,hv18,hv19,hv20,hv21];clear hv0 hv1 hv2 hv3 hv4 hv5 hv6 hv7 hv8 hv9 hv10 hv11 hv12 hv13 hv14 hv15 hv16 hv17 hv18 hv19 hv20 hv21;have HBN:=yq (HBW.out.trans ((zd hw).mono HBW.out.size));have HBF:=yq (HBT.out.trans ((zd hw).mono HBT.out.size));clear hw hj hap hdead
        have FIN:=yq (show zdc g x=true from HR.out.trans (zbm (by have:=HKL.out;omega) HEK.out))
        go_wp2;go_ret;exact ⟨zh FIN.out.symm,HBF.out⟩
     | false =>
      go_wp2;clear r5
      refine zw [([],.none,[]),([],.none,[]),([],.none,[]),([2],.none,[]),([],.none,[]),([3,4],.none,[]),([5],.none,[]),([6],.none,[]),([0,1,7],.none,[]),([8],.none,[]),([9],.none,[]),([10],.none,[]),([10],.none,[]),([10],.none,[]),([10,13],.none,[]),([10],.none,[]),([10,14,15],.none,[]),([10,16],.none,[]),([10,17],.none,[]),([10,11,12,18],.none,[]),([10,19],.none,[]),([10,20],.none,[])] [0,1,2,3,4,5,6,7,8,9,10,11,12,13,14,15,16,17,18,19,20,21] [] (fun _=>False) (fun _=>True) (fun _=>0) (fun jq9 V L H wx=>match jq9 with|0=>V 0 = .agg #[.slice a0 g.fl.length c0_0,.slice a1 g.fm.length c0_1]|1=>V 1 = .agg #[.string x.fa,.string x.fp,.slice b2 x.fj.length c1_0,.bool x.fq,.slice b4 x.fg.length c1_1,.slice (some ⟨rb,ro,none⟩) x.fo.length c1_2]|2=>V 2 = .pointer (some ⟨w.heap.size+1,5,none⟩)|3=>V 3 = .slice (some ⟨rb,ro,none⟩) x.fo.length c1_2|4=>V 4 = .int .i64 (k:Int)|5=>V 5 = .pointer (some ⟨rb,ro+k * 16,none⟩)|6=>V 6 = .pointer (some ⟨rb,ro+k * 16+2,none⟩)|7=>V 7 = .agg #[.int .i64 y.fh,.int .i64 y.fN,.int .i64 y.fb,.int .i64 y.fk,.string y.fd,.string y.fa,.slice a9 y.fc.length c9]|8=>V 8 = .bool (!false)|9=>V 9 = .bool false|10=>V 10 = .bool false|11=>V 11 = .agg #[.slice a0 g.fl.length c0_0,.slice a1 g.fm.length c0_1]|12=>V 12 = .agg #[.string x.fa,.string x.fp,.slice b2 x.fj.length c1_0,.bool x.fq,.slice b4 x.fg.length c1_1,.slice (some ⟨rb,ro,none⟩) x.fo.length c1_2]|13=>V 13 = .pointer (some ⟨w.heap.size+1,5,none⟩)|14=>V 14 = .slice (some ⟨rb,ro,none⟩) x.fo.length c1_2|15=>V 15 = .int .i64 (k:Int)|16=>V 16 = .pointer (some ⟨rb,ro+k * 16,none⟩)|17=>V 17 = .pointer (some ⟨rb,ro+k * 16+9,none⟩)|18=>V 18 = .agg #[.int .i64 z.fh,.int .i64 z.fN,.int .i64 z.fb,.int .i64 z.fk,.string z.fd,.string z.fa,.slice a15 z.fc.length c15]|19=>V 19 = .bool (!bv)|20=>V 20 = .bool (!!bv)|21=>V 21 = .bool (!!bv)|_=>True) (by kernel_rfl) (by kernel_rfl) ?obs (fun _ h=>h.elim) trivial (fun _ _ _ _ _=>trivial) ?loc ?lasts ?walk
      case obs =>
       trivial
      case loc =>
       intro k V V' L H wx h0 h1 hG
       match k with
       | 0 =>
        (try dsimp only at hG ⊢);rw [← h0];exact hG
       | 1 =>
        (try dsimp only at hG ⊢);rw [← h0];exact hG
       | 2 =>
        (try dsimp only at hG ⊢);rw [← h0];exact hG
       | 3 =>
        (try dsimp only at hG ⊢);rw [← h0];exact hG
       | 4 =>
        (try dsimp only at hG ⊢);rw [← h0];exact hG
       | 5 =>
        (try dsimp only at hG ⊢);rw [← h0];exact hG
       | 6 =>
        (try dsimp only at hG ⊢);rw [← h0];exact hG
       | 7 =>
        (try dsimp only at hG ⊢);rw [← h0];exact hG
       | 8 =>
        (try dsimp only at hG ⊢);rw [← h0];exact hG
       | 9 =>
        (try dsimp only at hG ⊢);rw [← h0];exact hG
       | 10 =>
        (try dsimp only at hG ⊢);rw [← h0];exact hG
       | 11 =>
        (try dsimp only at hG ⊢);rw [← h0];exact hG
       | 12 =>
        (try dsimp only at hG ⊢);rw [← h0];exact hG
       | 13 =>
        (try dsimp only at hG ⊢);rw [← h0];exact hG
       | 14 =>
        (try dsimp only at hG ⊢);rw [← h0];exact hG
       | 15 =>
        (try dsimp only at hG ⊢);rw [← h0];exact hG
       | 16 =>
        (try dsimp only at hG ⊢);rw [← h0];exact hG
       | 17 =>
        (try dsimp only at hG ⊢);rw [← h0];exact hG
       | 18 =>
        (try dsimp only at hG ⊢);rw [← h0];exact hG
       | 19 =>
        (try dsimp only at hG ⊢);rw [← h0];exact hG
       | 20 =>
        (try dsimp only at hG ⊢);rw [← h0];exact hG
       | 21 =>
        (try dsimp only at hG ⊢);rw [← h0];exact hG
       | n+22=>trivial
      case lasts =>
       intro i hi V L H wx wy hB hH hk
       match i,hi with
       | 0,_=>exact fun h=>h
       | 1,_=>exact fun h=>h
       | 2,_=>exact fun h=>h
       | 3,_=>exact fun h=>h
       | 4,_=>exact fun h=>h
       | 5,_=>exact fun h=>h
       | 6,_=>exact fun h=>h
       | 7,_=>exact fun h=>h
       | 8,_=>exact fun h=>h
       | 9,_=>exact fun h=>h
       | 10,_=>exact fun h=>h
       | 11,_=>exact fun h=>h
       | 12,_=>exact fun h=>h
       | 13,_=>exact fun h=>h
       | 14,_=>exact fun h=>h
       | 15,_=>exact fun h=>h
       | 16,_=>exact fun h=>h
       | 17,_=>exact fun h=>h
       | 18,_=>exact fun h=>h
       | 19,_=>exact fun h=>h
       | 20,_=>exact fun h=>h
       | 21,_=>exact fun h=>h
       | n+22,hn=>exact absurd hn (by simp)
      case walk =>
       simp (maxSteps:=4000000) only [zda,Nat.reduceAdd,Act.put,List.setIfInBounds_toArray,List.set_cons_succ,List.set_cons_zero]
       refine ⟨?_,?_,?_,?_,?_,?_,?_,?_,?_,?_,?_,?_,?_,?_,?_,?_,?_,?_,?_,?_,?_,?_,?_⟩
       ·intro V L H w1 hw hk hj hd
        clear hd
        have g0:w1.cell? ⟨w.heap.size,0,none⟩=some (.slice a0 g.fl.length c0_0):=((zd hw).cell (p:=⟨w.heap.size,0,none⟩) (show w.heap.size < wr.heap.size by have:=HZW.out;omega)).trans (za HGW.out rfl)
        have g1:w1.cell? ⟨w.heap.size,1,none⟩=some (.slice a1 g.fm.length c0_1):=((zd hw).cell (p:=⟨w.heap.size,1,none⟩) (show w.heap.size < wr.heap.size by have:=HZW.out;omega)).trans (za HGW.out rfl)
        (go_wp2_with fail);exact zc _ rfl ⟨⟨WritesF.refl _ _,hj⟩,zb⟩
       ·intro V L H w1 hw hk hj hd
        clear hd
        have r0:w1.cell? ⟨(w.heap.size+1),0,none⟩=some (.string x.fa):=((zd hw).cell (p:=⟨(w.heap.size+1),0,none⟩) (show w.heap.size+1 < wr.heap.size by have:=HZW.out;omega)).trans (za HRW.out rfl)
        have r1:w1.cell? ⟨(w.heap.size+1),1,none⟩=some (.string x.fp):=((zd hw).cell (p:=⟨(w.heap.size+1),1,none⟩) (show w.heap.size+1 < wr.heap.size by have:=HZW.out;omega)).trans (za HRW.out rfl)
        have r2:w1.cell? ⟨(w.heap.size+1),2,none⟩=some (.slice b2 x.fj.length c1_0):=((zd hw).cell (p:=⟨(w.heap.size+1),2,none⟩) (show w.heap.size+1 < wr.heap.size by have:=HZW.out;omega)).trans (za HRW.out rfl)
        have r3:w1.cell? ⟨(w.heap.size+1),3,none⟩=some (.bool x.fq):=((zd hw).cell (p:=⟨(w.heap.size+1),3,none⟩) (show w.heap.size+1 < wr.heap.size by have:=HZW.out;omega)).trans (za HRW.out rfl)
        have r4:w1.cell? ⟨(w.heap.size+1),4,none⟩=some (.slice b4 x.fg.length c1_1):=((zd hw).cell (p:=⟨(w.heap.size+1),4,none⟩) (show w.heap.size+1 < wr.heap.size by have:=HZW.out;omega)).trans (za HRW.out rfl)
        have r5:w1.cell? ⟨(w.heap.size+1),5,none⟩=some (.slice (some ⟨rb,ro,none⟩) x.fo.length c1_2):=((zd hw).cell (p:=⟨(w.heap.size+1),5,none⟩) (show w.heap.size+1 < wr.heap.size by have:=HZW.out;omega)).trans (za HRW.out rfl)
        (go_wp2_with fail);exact zc _ rfl ⟨⟨WritesF.refl _ _,hj⟩,zb⟩
       ·intro V L H w1 hw hk hj hd
        clear hd;(go_wp2_with fail);exact zc _ rfl ⟨⟨WritesF.refl _ _,hj⟩,zb⟩
       ·intro V L H w1 hw hk hj hd
        obtain ⟨⟨_,_,_,hv2⟩,-⟩:=hd;rw [hv2];have HV2:=yq hv2;clear hv2
        have r5:w1.cell? ⟨(w.heap.size+1),5,none⟩=some (.slice (some ⟨rb,ro,none⟩) x.fo.length c1_2):=((zd hw).cell (p:=⟨(w.heap.size+1),5,none⟩) (show w.heap.size+1 < wr.heap.size by have:=HZW.out;omega)).trans (za HRW.out rfl)
        (go_wp2_with fail);exact zc _ rfl ⟨⟨WritesF.refl _ _,hj⟩,zb⟩
       ·intro V L H w1 hw hk hj hd
        clear hd;(go_wp2_with fail);exact zc _ rfl ⟨⟨WritesF.refl _ _,hj⟩,zb⟩
       ·intro V L H w1 hw hk hj hd
        obtain ⟨⟨_,_,_,hv3⟩,⟨_,_,_,hv4⟩,-⟩:=hd;rw [hv3,hv4];have HV3:=yq hv3;have HV4:=yq hv4;clear hv3 hv4;(go_wp2_with fail);exact zc _ rfl ⟨⟨WritesF.refl _ _,hj⟩,zb⟩
       ·intro V L H w1 hw hk hj hd
        obtain ⟨⟨_,_,_,hv5⟩,-⟩:=hd;rw [hv5];have HV5:=yq hv5;clear hv5;(go_wp2_with fail);exact zc _ rfl ⟨⟨WritesF.refl _ _,hj⟩,zb⟩
       ·intro V L H w1 hw hk hj hd
        obtain ⟨⟨_,_,_,hv6⟩,-⟩:=hd;rw [hv6];have HV6:=yq hv6;clear hv6;have e0:w1.cell? ⟨rb,ro+k * 16+2,none⟩=some (.int .i64 y.fh):=((zd hw).cell (p:=⟨rb,ro+k * 16+2,none⟩) (Nat.lt_of_lt_of_le HRB.out HBT.out.size)).trans ((HBT.out.cell (p:=⟨rb,ro+k * 16+2,none⟩) HRB.out).trans HROW.out.1);have e1:w1.cell? ⟨rb,ro+k * 16+3,none⟩=some (.int .i64 y.fN):=((zd hw).cell (p:=⟨rb,ro+k * 16+3,none⟩) (Nat.lt_of_lt_of_le HRB.out HBT.out.size)).trans ((HBT.out.cell (p:=⟨rb,ro+k * 16+3,none⟩) HRB.out).trans HROW.out.2.1);have e2:w1.cell? ⟨rb,ro+k * 16+4,none⟩=some (.int .i64 y.fb):=((zd hw).cell (p:=⟨rb,ro+k * 16+4,none⟩) (Nat.lt_of_lt_of_le HRB.out HBT.out.size)).trans ((HBT.out.cell (p:=⟨rb,ro+k * 16+4,none⟩) HRB.out).trans HROW.out.2.2.1);have e3:w1.cell? ⟨rb,ro+k * 16+5,none⟩=some (.int .i64 y.fk):=((zd hw).cell (p:=⟨rb,ro+k * 16+5,none⟩) (Nat.lt_of_lt_of_le HRB.out HBT.out.size)).trans ((HBT.out.cell (p:=⟨rb,ro+k * 16+5,none⟩) HRB.out).trans HROW.out.2.2.2.1);have e4:w1.cell? ⟨rb,ro+k * 16+6,none⟩=some (.string y.fd):=((zd hw).cell (p:=⟨rb,ro+k * 16+6,none⟩) (Nat.lt_of_lt_of_le HRB.out HBT.out.size)).trans ((HBT.out.cell (p:=⟨rb,ro+k * 16+6,none⟩) HRB.out).trans HROW.out.2.2.2.2.1);have e5:w1.cell? ⟨rb,ro+k * 16+7,none⟩=some (.string y.fa):=((zd hw).cell (p:=⟨rb,ro+k * 16+7,none⟩) (Nat.lt_of_lt_of_le HRB.out HBT.out.size)).trans ((HBT.out.cell (p:=⟨rb,ro+k * 16+7,none⟩) HRB.out).trans HROW.out.2.2.2.2.2.1);have e6:w1.cell? ⟨rb,ro+k * 16+8,none⟩=some (.slice a9 y.fc.length c9):=((zd hw).cell (p:=⟨rb,ro+k * 16+8,none⟩) (Nat.lt_of_lt_of_le HRB.out HBT.out.size)).trans ((HBT.out.cell (p:=⟨rb,ro+k * 16+8,none⟩) HRB.out).trans HROW.out.2.2.2.2.2.2);(go_wp2_with fail);exact zc _ rfl ⟨⟨WritesF.refl _ _,hj⟩,zb⟩
       ·intro V L H w1 hw hk hj hd
        obtain ⟨⟨_,_,_,hv0⟩,⟨_,_,_,hv1⟩,⟨_,_,_,hv7⟩,-⟩:=hd;rw [hv0,hv1,hv7];have HV0:=yq hv0;have HV1:=yq hv1;have HV7:=yq hv7;clear hv0 hv1 hv7;(go_wp2_with fail);refine (HCU.out w1 (zd hw)).mono ?_;rintro e w2 ⟨rfl,hb2⟩;(go_wp2_with fail);exact zc _ rfl ⟨⟨(WritesF.refl _ _).later hb2,trivial⟩,zb⟩
       ·intro V L H w1 hw hk hj hd
        obtain ⟨⟨_,_,_,hv8⟩,-⟩:=hd;rw [hv8];have HV8:=yq hv8;clear hv8;(go_wp2_with fail);exact zc _ rfl ⟨⟨WritesF.refl _ _,hj⟩,zb⟩
       ·intro V L H w1 hw hk hj hd
        obtain ⟨⟨_,_,_,hv9⟩,-⟩:=hd;rw [hv9];have HV9:=yq hv9;clear hv9;(go_wp2_with fail);exact zc _ rfl ⟨⟨WritesF.refl _ _,hj⟩,zb⟩
       ·intro V L H w1 hw hk hj hd
        obtain ⟨⟨_,_,_,hv10⟩,-⟩:=hd;rw [hv10];have HV10:=yq hv10;clear hv10
        have g0:w1.cell? ⟨w.heap.size,0,none⟩=some (.slice a0 g.fl.length c0_0):=((zd hw).cell (p:=⟨w.heap.size,0,none⟩) (show w.heap.size < wr.heap.size by have:=HZW.out;omega)).trans (za HGW.out rfl)
        have g1:w1.cell? ⟨w.heap.size,1,none⟩=some (.slice a1 g.fm.length c0_1):=((zd hw).cell (p:=⟨w.heap.size,1,none⟩) (show w.heap.size < wr.heap.size by have:=HZW.out;omega)).trans (za HGW.out rfl)
        (go_wp2_with fail);exact zc _ rfl ⟨⟨WritesF.refl _ _,hj⟩,zb⟩
       ·intro V L H w1 hw hk hj hd
        obtain ⟨⟨_,_,_,hv10⟩,-⟩:=hd;rw [hv10];have HV10:=yq hv10;clear hv10
        have r0:w1.cell? ⟨(w.heap.size+1),0,none⟩=some (.string x.fa):=((zd hw).cell (p:=⟨(w.heap.size+1),0,none⟩) (show w.heap.size+1 < wr.heap.size by have:=HZW.out;omega)).trans (za HRW.out rfl)
        have r1:w1.cell? ⟨(w.heap.size+1),1,none⟩=some (.string x.fp):=((zd hw).cell (p:=⟨(w.heap.size+1),1,none⟩) (show w.heap.size+1 < wr.heap.size by have:=HZW.out;omega)).trans (za HRW.out rfl)
        have r2:w1.cell? ⟨(w.heap.size+1),2,none⟩=some (.slice b2 x.fj.length c1_0):=((zd hw).cell (p:=⟨(w.heap.size+1),2,none⟩) (show w.heap.size+1 < wr.heap.size by have:=HZW.out;omega)).trans (za HRW.out rfl)
        have r3:w1.cell? ⟨(w.heap.size+1),3,none⟩=some (.bool x.fq):=((zd hw).cell (p:=⟨(w.heap.size+1),3,none⟩) (show w.heap.size+1 < wr.heap.size by have:=HZW.out;omega)).trans (za HRW.out rfl)
        have r4:w1.cell? ⟨(w.heap.size+1),4,none⟩=some (.slice b4 x.fg.length c1_1):=((zd hw).cell (p:=⟨(w.heap.size+1),4,none⟩) (show w.heap.size+1 < wr.heap.size by have:=HZW.out;omega)).trans (za HRW.out rfl)
        have r5:w1.cell? ⟨(w.heap.size+1),5,none⟩=some (.slice (some ⟨rb,ro,none⟩) x.fo.length c1_2):=((zd hw).cell (p:=⟨(w.heap.size+1),5,none⟩) (show w.heap.size+1 < wr.heap.size by have:=HZW.out;omega)).trans (za HRW.out rfl)
        (go_wp2_with fail);exact zc _ rfl ⟨⟨WritesF.refl _ _,hj⟩,zb⟩
       ·intro V L H w1 hw hk hj hd
        obtain ⟨⟨_,_,_,hv10⟩,-⟩:=hd;rw [hv10];have HV10:=yq hv10;clear hv10;(go_wp2_with fail);exact zc _ rfl ⟨⟨WritesF.refl _ _,hj⟩,zb⟩
       ·intro V L H w1 hw hk hj hd
        obtain ⟨⟨_,_,_,hv10⟩,⟨_,_,_,hv13⟩,-⟩:=hd;rw [hv10,hv13];have HV10:=yq hv10;have HV13:=yq hv13;clear hv10 hv13
        have r5:w1.cell? ⟨(w.heap.size+1),5,none⟩=some (.slice (some ⟨rb,ro,none⟩) x.fo.length c1_2):=((zd hw).cell (p:=⟨(w.heap.size+1),5,none⟩) (show w.heap.size+1 < wr.heap.size by have:=HZW.out;omega)).trans (za HRW.out rfl)
        (go_wp2_with fail);exact zc _ rfl ⟨⟨WritesF.refl _ _,hj⟩,zb⟩
       ·intro V L H w1 hw hk hj hd
        obtain ⟨⟨_,_,_,hv10⟩,-⟩:=hd;rw [hv10];have HV10:=yq hv10;clear hv10;(go_wp2_with fail);exact zc _ rfl ⟨⟨WritesF.refl _ _,hj⟩,zb⟩
       ·intro V L H w1 hw hk hj hd
        obtain ⟨⟨_,_,_,hv10⟩,⟨_,_,_,hv14⟩,⟨_,_,_,hv15⟩,-⟩:=hd;rw [hv10,hv14,hv15];have HV10:=yq hv10;have HV14:=yq hv14;have HV15:=yq hv15;clear hv10 hv14 hv15;(go_wp2_with fail);exact zc _ rfl ⟨⟨WritesF.refl _ _,hj⟩,zb⟩
       ·intro V L H w1 hw hk hj hd
        obtain ⟨⟨_,_,_,hv10⟩,⟨_,_,_,hv16⟩,-⟩:=hd;rw [hv10,hv16];have HV10:=yq hv10;have HV16:=yq hv16;clear hv10 hv16;(go_wp2_with fail);exact zc _ rfl ⟨⟨WritesF.refl _ _,hj⟩,zb⟩
       ·intro V L H w1 hw hk hj hd
        obtain ⟨⟨_,_,_,hv10⟩,⟨_,_,_,hv17⟩,-⟩:=hd;rw [hv10,hv17];have HV10:=yq hv10;have HV17:=yq hv17;clear hv10 hv17;have e0:w1.cell? ⟨rb,ro+k * 16+9,none⟩=some (.int .i64 z.fh):=((zd hw).cell (p:=⟨rb,ro+k * 16+9,none⟩) (Nat.lt_of_lt_of_le HRB.out HBT.out.size)).trans ((HBT.out.cell (p:=⟨rb,ro+k * 16+9,none⟩) HRB.out).trans HROZ.out.1);have e1:w1.cell? ⟨rb,ro+k * 16+10,none⟩=some (.int .i64 z.fN):=((zd hw).cell (p:=⟨rb,ro+k * 16+10,none⟩) (Nat.lt_of_lt_of_le HRB.out HBT.out.size)).trans ((HBT.out.cell (p:=⟨rb,ro+k * 16+10,none⟩) HRB.out).trans HROZ.out.2.1);have e2:w1.cell? ⟨rb,ro+k * 16+11,none⟩=some (.int .i64 z.fb):=((zd hw).cell (p:=⟨rb,ro+k * 16+11,none⟩) (Nat.lt_of_lt_of_le HRB.out HBT.out.size)).trans ((HBT.out.cell (p:=⟨rb,ro+k * 16+11,none⟩) HRB.out).trans HROZ.out.2.2.1);have e3:w1.cell? ⟨rb,ro+k * 16+12,none⟩=some (.int .i64 z.fk):=((zd hw).cell (p:=⟨rb,ro+k * 16+12,none⟩) (Nat.lt_of_lt_of_le HRB.out HBT.out.size)).trans ((HBT.out.cell (p:=⟨rb,ro+k * 16+12,none⟩) HRB.out).trans HROZ.out.2.2.2.1);have e4:w1.cell? ⟨rb,ro+k * 16+13,none⟩=some (.string z.fd):=((zd hw).cell (p:=⟨rb,ro+k * 16+13,none⟩) (Nat.lt_of_lt_of_le HRB.out HBT.out.size)).trans ((HBT.out.cell (p:=⟨rb,ro+k * 16+13,none⟩) HRB.out).trans HROZ.out.2.2.2.2.1);have e5:w1.cell? ⟨rb,ro+k * 16+14,none⟩=some (.string z.fa):=((zd hw).cell (p:=⟨rb,ro+k * 16+14,none⟩) (Nat.lt_of_lt_of_le HRB.out HBT.out.size)).trans ((HBT.out.cell (p:=⟨rb,ro+k * 16+14,none⟩) HRB.out).trans HROZ.out.2.2.2.2.2.1);have e6:w1.cell? ⟨rb,ro+k * 16+15,none⟩=some (.slice a15 z.fc.length c15):=((zd hw).cell (p:=⟨rb,ro+k * 16+15,none⟩) (Nat.lt_of_lt_of_le HRB.out HBT.out.size)).trans ((HBT.out.cell (p:=⟨rb,ro+k * 16+15,none⟩) HRB.out).trans HROZ.out.2.2.2.2.2.2);(go_wp2_with fail);exact zc _ rfl ⟨⟨WritesF.refl _ _,hj⟩,zb⟩
       ·intro V L H w1 hw hk hj hd
        obtain ⟨⟨_,_,_,hv10⟩,⟨_,_,_,hv11⟩,⟨_,_,_,hv12⟩,⟨_,_,_,hv18⟩,-⟩:=hd;rw [hv10,hv11,hv12,hv18];have HV10:=yq hv10;have HV11:=yq hv11;have HV12:=yq hv12;have HV18:=yq hv18;clear hv10 hv11 hv12 hv18;(go_wp2_with fail);refine (HCV.out w1 (zd hw)).mono ?_;rintro e w2 ⟨rfl,hb2⟩;(go_wp2_with fail);exact zc _ rfl ⟨⟨(WritesF.refl _ _).later hb2,trivial⟩,zb⟩
       ·intro V L H w1 hw hk hj hd
        obtain ⟨⟨_,_,_,hv10⟩,⟨_,_,_,hv19⟩,-⟩:=hd;rw [hv10,hv19];have HV10:=yq hv10;have HV19:=yq hv19;clear hv10 hv19;(go_wp2_with fail);exact zc _ rfl ⟨⟨WritesF.refl _ _,hj⟩,zb⟩
       ·intro V L H w1 hw hk hj hd
        obtain ⟨⟨_,_,_,hv10⟩,⟨_,_,_,hv20⟩,-⟩:=hd;rw [hv10,hv20];have HV10:=yq hv10;have HV20:=yq hv20;clear hv10 hv20;(go_wp2_with fail);exact zc _ rfl ⟨⟨WritesF.refl _ _,hj⟩,zb⟩
       ·intro V L H w1 hw hj hd hap hdead
        obtain ⟨⟨_,_,_,hv0⟩,⟨_,_,_,hv1⟩,⟨_,_,_,hv2⟩,⟨_,_,_,hv3⟩,⟨_,_,_,hv4⟩,⟨_,_,_,hv5⟩,⟨_,_,_,hv6⟩,⟨_,_,_,hv7⟩,⟨_,_,_,hv8⟩,⟨_,_,_,hv9⟩,⟨_,_,_,hv10⟩,⟨_,_,_,hv11⟩,⟨_,_,_,hv12⟩,⟨_,_,_,hv13⟩,⟨_,_,_,hv14⟩,⟨_,_,_,hv15⟩,⟨_,_,_,hv16⟩,⟨_,_,_,hv17⟩,⟨_,_,_,hv18⟩,⟨_,_,_,hv19⟩,⟨_,_,_,hv20⟩,⟨_,_,_,hv21⟩,-⟩:=hd;rw [hv0,hv1,hv2,hv3,hv4,hv5,hv6,hv7,hv8,hv9,hv10,hv11,hv12,hv13,hv14,hv15,hv16,hv17,hv18,hv19,hv20,hv21];clear hv0 hv1 hv2 hv3 hv4 hv5 hv6 hv7 hv8 hv9 hv10 hv11 hv12 hv13 hv14 hv15 hv16 hv17 hv18 hv19 hv20 hv21;have HBN:=yq (HBW.out.trans ((zd hw).mono HBW.out.size));have HBF:=yq (HBT.out.trans ((zd hw).mono HBT.out.size));clear hw hj hap hdead;have HN1:=yq (zap HN.out HEK.out)
        cases bv with
        | true =>
         have FIN:=yq (show zdc g x=true from HR.out.trans (zbm HKL.out HEK2.out))
         go_wp2;go_ret;exact ⟨zh FIN.out.symm,HBF.out⟩
        | false =>
         have HN2:=yq (show zbo (zmu g x) (x.fg.length+2 * (k+1)) from zap HN1.out HEK2.out)
         go_wp2;go_roundw
         case rel=>exact ⟨k+1,by omega,by go_num,HN2.out,HBN.out⟩
         case measure=>simp [intOf];omega
    ·obtain rfl:k=x.fo.length:=by omega
     have FIN:=yq (show zdc g x=false from HR.out.trans (zbp (by rw [HL.out];exact HN.out)))
     go_wp2;go_ret;exact ⟨zh FIN.out.symm,HBT.out⟩
end Go.Proofs.YtmbaajangkmjdaaGreat
