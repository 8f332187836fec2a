/-
  The symbol of a name: symbolNamed of the program, FindSymbol of the model.
  The model's copy of a symbol.
  FindSymbol, in the model and in the program, the answer in memory of its own.
  PlainAttributes of the model and of the program.
  MayUse of the model and of the program.
-/
import Derived.Test.YtmbaajangkmjdaaGreatZCloneAttribute
import Derived.Test.YtmbaajangkmjdaaGreatZSpread2
import Derived.Test.YtmbaajangkmjdaaGreatZz8
set_option maxHeartbeats 6400000
set_option maxRecDepth 100000
namespace Go.Proofs.YtmbaajangkmjdaaGreat
open Go.ChangeShapes Go.WideShapes Go.ChangeAt Go.RowKit Go.Deep
theorem zk9 {x y:ByteArray} (h:x.toList=y.toList):x=y:=by
 rw [Lib.toList_data,Lib.toList_data] at h
 cases x;cases y
 simp only at h
 rw [ByteArray.mk.injEq];exact Array.toList_inj.1 h
def PSym (nm:ByteArray) (y:DSymbol):Bool:=y.fa.toList == nm.toList
theorem znr {nm:ByteArray} {y:DSymbol} (h:y.fa=nm):PSym nm y=true:=by unfold PSym;rw [h];simp
theorem zoq {nm:ByteArray} {y:DSymbol} (h:y.fa≠nm):PSym nm y=false:=beq_eq_false_iff_ne.2 (fun e=>h (zk9 e))
def ztv:DSymbol:=⟨⟨#[]⟩,[]⟩
def symS (l:List DSymbol) (nm:ByteArray):DSymbol:=if 0≤idxI (PSym nm) l then l.getD (idxI (PSym nm) l).toNat default else ztv
def symB (l:List DSymbol) (nm:ByteArray):Bool:=decide (0≤idxI (PSym nm) l)
theorem zh8 {l:List DSymbol} {nm:ByteArray} {k:Nat} (h:idxI (PSym nm) l=k):symS l nm=l.getD k default:=by unfold symS;rw [h,if_pos (by omega),Int.toNat_natCast]
theorem zt1 {l:List DSymbol} {nm:ByteArray} {k:Nat} (h:idxI (PSym nm) l=k):symB l nm=true:=by unfold symB;rw [h];exact decide_eq_true (by omega)
theorem zpj {l:List DSymbol} {nm:ByteArray} (h:idxI (PSym nm) l = -1):symS l nm=ztv:=by unfold symS;rw [h,if_neg (by omega)]
theorem zpa {l:List DSymbol} {nm:ByteArray} (h:idxI (PSym nm) l = -1):symB l nm=false:=by unfold symB;rw [h];exact decide_eq_false (by omega)
theorem zpy {l:List DSymbol} (h:lsz DSymbol.sz l≤1048576) {k:Nat} (hk:k < l.length):(l.getD k default).fu.length≤1048576:=by
 have h1:=zab (f:=DSymbol.sz) l k hk
 have h2:(l.getD k default).fu.length≤DSymbol.sz (l.getD k default):=by
  unfold DSymbol.sz lsz
  omega
 omega
theorem zny {l:List DSymbol} (h:lsz DSymbol.sz l≤1048576) (nm:ByteArray):(symS l nm).fu.length≤1048576:=by
 by_cases h0:0≤idxI (PSym nm) l
 ·obtain ⟨k,hk⟩ : ∃ k:Nat,idxI (PSym nm) l=k:=⟨(idxI (PSym nm) l).toNat,by omega⟩
  rw [zh8 hk]
  by_cases hl:k < l.length
  ·exact zpy h hl
  ·rw [List.getD_eq_getElem?_getD,List.getElem?_eq_none (by omega)]
   exact Nat.zero_le _
 ·unfold symS
  rw [if_neg h0];exact Nat.zero_le _
def zp4 (B:Nat) (s:DSymbol) (b:Bool) (w':World) (e:Ending):Prop :=
 ∃ a c,e = .returned (.tuple #[.agg #[.string s.fa,.slice a s.fu.length c],.bool b])∧Own w' (fun y=>B≤y∧y < w'.heap.size) (.sl 4 s.fu.length (fun k=>DAttribute.ct (s.fu.getD k default))) (.slice a s.fu.length c)
def zpp (lo hi:Nat) (s:DSymbol) (b:Bool) (w':World) (e:Ending):Prop :=
 ∃ a c,e = .returned (.tuple #[.agg #[.string s.fa,.slice a s.fu.length c],.bool b])∧Sl lo hi w' 4 s.fu.length (fun k=>DAttribute.ct (s.fu.getD k default)) a
theorem zbw {lo hi n1 c0 c1:Nat} {a0 a1:Option Addr} (l:List DSymbol) (hz:lsz DSymbol.sz l≤1048576) (nm:ByteArray) (w:World) (hhi:hi≤w.heap.size) (hs:Sl lo hi w 2 l.length (fun k=>DSymbol.ct (l.getD k default)) a0) :
  Calls Tryz.prog 46 #[.agg #[.slice a0 l.length c0,.slice a1 n1 c1],.string nm] w fun e w'=>zpp lo hi (symS l nm) (symB l nm) w' e∧Below w.heap.size w w':=by
 have hn:l.length≤1048576:=by unfold lsz at hz;omega
 have HB:=yq (((Below.refl w.heap.size w).alloc (Nat.le_refl _) (.cells #[.slice a0 l.length c0,.slice a1 n1 c1] 32)).alloc ye (.cells #[.string ⟨#[]⟩,.slice none 0 0] 42))
 have HSZ:=yq (show ((w.alloc (.cells #[.slice a0 l.length c0,.slice a1 n1 c1] 32)).alloc (.cells #[.string ⟨#[]⟩,.slice none 0 0] 42)).heap.size=w.heap.size+2 by simp)
 have HE:=yq (show Below (w.heap.size+2) ((w.alloc (.cells #[.slice a0 l.length c0,.slice a1 n1 c1] 32)).alloc (.cells #[.string ⟨#[]⟩,.slice none 0 0] 42)) ((w.alloc (.cells #[.slice a0 l.length c0,.slice a1 n1 c1] 32)).alloc (.cells #[.string ⟨#[]⟩,.slice none 0 0] 42)) from Below.refl _ _)
 have HX:=yq (show ((w.alloc (.cells #[.slice a0 l.length c0,.slice a1 n1 c1] 32)).alloc (.cells #[.string ⟨#[]⟩,.slice none 0 0] 42)).cell? ⟨w.heap.size,0,none⟩=some (.slice a0 l.length c0) by go_simp)
 have HG:=yq (show ((w.alloc (.cells #[.slice a0 l.length c0,.slice a1 n1 c1] 32)).alloc (.cells #[.string ⟨#[]⟩,.slice none 0 0] 42)).heap[w.heap.size+1]? = some (.cells #[.string ⟨#[]⟩,.slice none 0 0] 42) from ze (by simp))
 have HS:=yq (hs.later HB.out hhi);have HHI:=yq hhi;have HZ:=yq hz;clear hs hhi hz
 go_enter Tryz.func46,Tryz.ntmps46
 go_wp2
 go_loopw [11] (fun i wr=>∃ k:Nat,k≤l.length∧i = .int .i64 (k:Int)∧zah (PSym nm) l k∧Below (w.heap.size+2) ((w.alloc (.cells #[.slice a0 l.length c0,.slice a1 n1 c1] 32)).alloc (.cells #[.string ⟨#[]⟩,.slice none 0 0] 42)) wr) (fun i _=>l.length - (intOf i).toNat)
 case atStart=>exact ⟨0,Nat.zero_le _,rfl,zx _ _,HE.out⟩
 case round =>
  obtain ⟨k,hk,rfl,hno,hbl⟩:=hrel;have HN:=yq hno;have HBL:=yq hbl
  have hsz1:w.heap.size+2≤wr.heap.size:=by have:=hbl.size;rw [HSZ.out] at this;exact this
  have hw1:w.heap.size+1 < wr.heap.size:=by omega
  have HGR:=yq ((hbl.block (w.heap.size+1) (by omega)).trans HG.out)
  have y0:wr.cell? ⟨w.heap.size+1,0,none⟩=some (.string ⟨#[]⟩):=(cell_of_row _ _ _ _ _ _ HGR.out).trans rfl;have y1:wr.cell? ⟨w.heap.size+1,1,none⟩=some (.slice none 0 0):=(cell_of_row _ _ _ _ _ _ HGR.out).trans rfl;have f0:wr.frozen? ⟨w.heap.size+1,0,none⟩=false:=frozen_of_row _ _ _ _ _ HGR.out;have f1:wr.frozen? ⟨w.heap.size+1,1,none⟩=false:=frozen_of_row _ _ _ _ _ HGR.out;clear hno hbl
  by_cases hlt:k < l.length
  ·obtain ⟨b,off,rfl,_,hbh,hc⟩:=(HS.out.later (HBL.out.mono (Nat.le_trans HHI.out (by omega))) (Nat.le_refl _)).at k hlt
   obtain ⟨a1s,c1s,hc0,hc1,hs1⟩:=DSymbol.open hc
   have hbw:b < wr.heap.size:=Nat.lt_of_lt_of_le hbh (Nat.le_trans HHI.out (by omega))
   clear hc
   by_cases he:(l.getD k default).fa=nm
   ·have hix:=zdh (p:=PSym nm) hlt (znr he) HN.out
    have fin:=yq (show ∀ w' e,zpp lo hi (symS l nm) (symB l nm) w' e=zpp lo hi (l.getD k default) true w' e from fun w' e=>by rw [zh8 hix,zt1 hix])
    have hnm:=yq he;rw [he] at hc0;have HS1:=yq hs1;clear he hix hs1;generalize hx:l.getD k default=x at *;clear hx;go_wp2
    refine bodyPost_ret (v:=.tuple #[.agg #[.string nm,.slice a1s x.fu.length c1s],.bool true]) (zy Tryz.results46 _ _ (w.heap.size+1) 42 #[.string nm,.slice a1s x.fu.length c1s] (0,0) _ rfl (by refine zn (by simp [World.setCell]<;>omega) ?_;refine Eq.trans (zm (cs:=#[.string nm,.slice none 0 0]) (t:=42) (fr:=(0,0)) ?_) rfl;refine Eq.trans (zm (cs:=#[.string ⟨#[]⟩,.slice none 0 0]) (t:=42) (fr:=(0,0)) ?_) rfl;exact HGR.out) Tryz.underlying42 rfl (by kernel_rfl)) rfl ⟨?_,?_⟩
    ·rw [fin.out]
     refine ⟨a1s,c1s,by rw [hnm.out],HS1.out.frame fun b o h1 h2=>World.cell?_of_block (a:=⟨b,o,none⟩) ?_⟩
     have:=HHI.out
     refine zn (by simp [World.setCell]<;>omega) ?_
     refine zaj ye (zaj ye rfl)
    ·have HBW:=yq (HB.out.trans (HBL.out.mono (show w.heap.size≤w.heap.size+2 by omega)))
     repeat (first|(with_reducible exact HBW.out)|(with_reducible apply Below.drew)|(with_reducible refine below_drewN ?_ _)|(with_reducible refine Below.alloc ?_ ?_ _)|(with_reducible refine Below.setCell ?_ ?_ _))
     all_goals (first|omega|(simp<;>omega))
   ·have HN2:=yq (zt HN.out (k:=k) (zoq he))
    have e2:((l.getD k default).fa.toList == nm.toList)=false:=zoq he;clear he hs1;generalize (l.getD k default).fa=q at *;generalize (l.getD k default).fu.length=m at *;go_wp2;go_roundw
    case rel =>
     refine ⟨k+1,by omega,by go_num,HN2.out,?_⟩
     repeat (first|(with_reducible exact HBL.out)|(with_reducible apply Below.drew)|(with_reducible refine below_drewN ?_ _)|(with_reducible refine Below.alloc ?_ ?_ _)|(with_reducible refine Below.setCell ?_ ?_ _))
     all_goals (first|omega|(simp<;>omega))
    case measure=>simp [intOf];omega
  ·obtain rfl:k=l.length:=by omega
   have hix:=zbh (p:=PSym nm) HN.out
   have fin:=yq (show ∀ w' e,zpp lo hi (symS l nm) (symB l nm) w' e=zpp lo hi ztv false w' e from fun w' e=>by rw [zpj hix,zpa hix])
   clear hix;go_wp2
   refine bodyPost_ret (v:=.tuple #[.agg #[.string ⟨#[]⟩,.slice none 0 0],.bool false]) (zy Tryz.results46 _ _ (w.heap.size+1) 42 #[.string ⟨#[]⟩,.slice none 0 0] (0,0) _ rfl (by refine Eq.trans (zm (cs:=#[.string ⟨#[]⟩,.slice none 0 0]) (t:=42) (fr:=(0,0)) ?_) rfl;refine Eq.trans (zm (cs:=#[.string ⟨#[]⟩,.slice none 0 0]) (t:=42) (fr:=(0,0)) ?_) rfl;exact HGR.out) Tryz.underlying42 rfl (by kernel_rfl)) rfl ⟨?_,?_⟩
   ·rw [fin.out]
    exact ⟨none,0,rfl,Sl.nil⟩
   ·have HBW:=yq (HB.out.trans (HBL.out.mono (show w.heap.size≤w.heap.size+2 by omega)))
    repeat (first|(with_reducible exact HBW.out)|(with_reducible apply Below.drew)|(with_reducible refine below_drewN ?_ _)|(with_reducible refine Below.alloc ?_ ?_ _)|(with_reducible refine Below.setCell ?_ ?_ _))
    all_goals (first|omega|(simp<;>omega))
theorem zl8 {lo hi c:Nat} {A:Option Addr} (s:DSymbol) (hl:s.fu.length≤1048576) (w:World) (hhi:hi≤w.heap.size) (hs:Sl lo hi w 4 s.fu.length (fun k=>DAttribute.ct (s.fu.getD k default)) A) :
  Calls Tryz.prog 105 #[.agg #[.string s.fa,.slice A s.fu.length c]] w fun e w'=>∃ a c',e = .returned (.agg #[.string s.fa,.slice a s.fu.length c'])∧Own w' (fun y=>w.heap.size≤y∧y < w'.heap.size) (.sl 4 s.fu.length (fun k=>DAttribute.ct (s.fu.getD k default))) (.slice a s.fu.length c')∧Below w.heap.size w w':=by
 obtain ⟨i0,hi',hz0,hz1,hz2⟩:=info_parts zfz
 have HB:=yq (((Below.refl w.heap.size w).alloc (Nat.le_refl _) (.cells #[.string s.fa,.slice A s.fu.length c] 42)).alloc (by simp) (.cells #[.string ⟨#[]⟩,.slice none 0 0] 42))
 have HG:=yq (show ((w.alloc (.cells #[.string s.fa,.slice A s.fu.length c] 42)).alloc (.cells #[.string ⟨#[]⟩,.slice none 0 0] 42)).heap[w.heap.size+1]? = some (.cells #[.string ⟨#[]⟩,.slice none 0 0] 42) from ze (by simp))
 have HC0:=yq (show ((w.alloc (.cells #[.string s.fa,.slice A s.fu.length c] 42)).alloc (.cells #[.string ⟨#[]⟩,.slice none 0 0] 42)).cell? ⟨w.heap.size,0,none⟩=some (.string s.fa) by go_simp)
 have HC3:=yq (show ((w.alloc (.cells #[.string s.fa,.slice A s.fu.length c] 42)).alloc (.cells #[.string ⟨#[]⟩,.slice none 0 0] 42)).cell? ⟨w.heap.size,1,none⟩=some (.slice A s.fu.length c) by go_simp)
 have HC1:=yq (show ((w.alloc (.cells #[.string s.fa,.slice A s.fu.length c] 42)).alloc (.cells #[.string ⟨#[]⟩,.slice none 0 0] 42)).cell? ⟨w.heap.size+1,0,none⟩=some (.string ⟨#[]⟩) by go_simp)
 have HC2:=yq (show ((w.alloc (.cells #[.string s.fa,.slice A s.fu.length c] 42)).alloc (.cells #[.string ⟨#[]⟩,.slice none 0 0] 42)).cell? ⟨w.heap.size+1,1,none⟩=some (.slice none 0 0) by go_simp)
 have HF1:=yq (show ((w.alloc (.cells #[.string s.fa,.slice A s.fu.length c] 42)).alloc (.cells #[.string ⟨#[]⟩,.slice none 0 0] 42)).frozen? ⟨w.heap.size+1,0,none⟩=false by go_simp)
 have HF2:=yq (show ((w.alloc (.cells #[.string s.fa,.slice A s.fu.length c] 42)).alloc (.cells #[.string ⟨#[]⟩,.slice none 0 0] 42)).frozen? ⟨w.heap.size+1,1,none⟩=false by go_simp)
 have HOL:=yq (show (((w.alloc (.cells #[.string s.fa,.slice A s.fu.length c] 42)).alloc (.cells #[.string ⟨#[]⟩,.slice none 0 0] 42)).alloc (.cells #[] 44)).ownsRow (w.heap.size+2) 44 4 (.slice (some ⟨w.heap.size+1+1,0,none⟩) 0 0) 0 [] from by have h:=World.ownsRow_made (base:=w.heap.size+2) (e:=44) (size:=4) ((w.alloc (.cells #[.string s.fa,.slice A s.fu.length c] 42)).alloc (.cells #[.string ⟨#[]⟩,.slice none 0 0] 42)) #[] 0 (by simp) (Nat.zero_le _) rfl;simpa using h)
 have HS:=yq (fun (W:World) (hW:Below w.heap.size w W)=>hs.later hW hhi)
 clear hs;generalize s.fu=m at *
 go_enter Tryz.func105,Tryz.ntmps105
 (go_wp2_with fail)
 go_region_law ((refine zmx (lo:=lo) (hi2:=hi) (vals:=zdv) (ct:=DAttribute.ct) _ rfl (.tmp 5) (.tmp 7) 40 rfl (w.heap.size+2) 44 i0 (.agg #[.string ⟨#[]⟩,.int .i64 0,.int .i64 0,.bool false]) 4 40 Tryz.underlying40 hi' hz0 hz1 hz2 rfl ?a1 (.slice (some ⟨w.heap.size+1+1,0,none⟩) 0 0) 0 [] ?a2 ?a3 m A c ?a4 zfv zg3 zl5 ?a5 ?a6 ?a7 ?a8 ?_;(case a1=>decide);(case a2=>rfl);(case a3=>exact HOL.out);(case a4=>rfl);(case a5=>(refine HS.out _ ?_;repeat (first|(with_reducible exact HB.out)|(with_reducible apply Below.drew)|(with_reducible refine below_drewN ?_ _)|(refine Below.alloc ?_ ye _))));(case a6=>(unfold maxLen;omega));(case a7=>omega);(case a8=>simp);intro v1 w1 hown1 hgrow1;rw [Nat.zero_add,List.nil_append] at hown1;have hst:Below (w.heap.size+2) ((w.alloc (.cells #[.string s.fa,.slice A m.length c] 42)).alloc (.cells #[.string ⟨#[]⟩,.slice none 0 0] 42)) w1:=Below.trans (by repeat (first|(with_reducible exact Below.refl _ _)|(with_reducible apply Below.drew)|(with_reducible refine below_drewN ?_ _)|(refine Below.alloc ?_ ye _))) (zrf hgrow1 (by simp) (fun k hk=>by simp [Value.ownBlock] at hk;omega));have x0:=(hst.cell (p:=⟨w.heap.size,0,none⟩) (by show w.heap.size < w.heap.size+2;omega)).trans HC0.out;have x3:=(hst.cell (p:=⟨w.heap.size,1,none⟩) (by show w.heap.size < w.heap.size+2;omega)).trans HC3.out;have x1:=(hst.cell (p:=⟨w.heap.size+1,0,none⟩) (by show w.heap.size+1 < w.heap.size+2;omega)).trans HC1.out;have x2:=(hst.cell (p:=⟨w.heap.size+1,1,none⟩) (by show w.heap.size+1 < w.heap.size+2;omega)).trans HC2.out;have z1:=(hst.frozen (p:=⟨w.heap.size+1,0,none⟩) (by show w.heap.size+1 < w.heap.size+2;omega)).trans HF1.out;have z2:=(hst.frozen (p:=⟨w.heap.size+1,1,none⟩) (by show w.heap.size+1 < w.heap.size+2;omega)).trans HF2.out;have HG1:=yq ((hst.block (w.heap.size+1) (by omega)).trans HG.out);have HB1:=yq (HB.out.trans (hst.mono (by omega)));obtain ⟨a1,c1,rfl,ho1⟩:=zd4 (by decide) zfv zg3 hown1;have HO:=yq ho1;clear hown1 hgrow1 hst ho1))
 all_goals
  go_wp2
  refine bodyPost_ret (v:=.agg #[.string s.fa,.slice a1 m.length c1]) (results_cell_row Tryz.results105 _ _ (w.heap.size+1) 42 #[.string s.fa,.slice a1 m.length c1] (0,0) _ rfl (by refine Eq.trans (zm (cs:=#[.string s.fa,.slice none 0 0]) (t:=42) (fr:=(0,0)) ?_) rfl;refine Eq.trans (zm (cs:=#[.string ⟨#[]⟩,.slice none 0 0]) (t:=42) (fr:=(0,0)) ?_) rfl;exact HG1.out) Tryz.underlying42 rfl rfl) rfl ⟨a1,c1,rfl,?_,?_⟩
  ·refine Own.sub (F:=fun y=>w.heap.size+2≤y∧y < w1.heap.size) (HO.out.kept ?_) (fun y hy=>⟨Nat.le_trans (by omega) hy.1,Nat.lt_of_lt_of_le hy.2 (by simp)⟩)
   repeat (first|(with_reducible exact Kept.refl)|(with_reducible apply Kept.drew)|(refine Kept.put ?_ (by intro h;have h1:=h.1;dsimp only at h1;omega)))
  ·repeat (first|(with_reducible exact HB1.out)|(with_reducible apply Below.drew)|(with_reducible refine below_drewN ?_ _)|(refine Below.setCell ?_ ye _))
theorem zcx {lo hi n1 c0 c1:Nat} {a0 a1:Option Addr} (l:List DSymbol) (hz:lsz DSymbol.sz l≤1048576) (nm:ByteArray) (w:World) (hhi:hi≤w.heap.size) (hs:Sl lo hi w 2 l.length (fun k=>DSymbol.ct (l.getD k default)) a0) :
  Calls Tryz.prog 66 #[.agg #[.slice a0 l.length c0,.slice a1 n1 c1],.string nm] w fun e w'=>zp4 w.heap.size (symS l nm) (symB l nm) w' e∧Below w.heap.size w w':=by
 have hn:l.length≤1048576:=by unfold lsz at hz;omega
 have HB:=yq (((Below.refl w.heap.size w).alloc (Nat.le_refl _) (.cells #[.slice a0 l.length c0,.slice a1 n1 c1] 32)).alloc ye (.cells #[.string ⟨#[]⟩,.slice none 0 0] 42))
 have HSZ:=yq (show ((w.alloc (.cells #[.slice a0 l.length c0,.slice a1 n1 c1] 32)).alloc (.cells #[.string ⟨#[]⟩,.slice none 0 0] 42)).heap.size=w.heap.size+2 by simp)
 have HE:=yq (show Below (w.heap.size+2) ((w.alloc (.cells #[.slice a0 l.length c0,.slice a1 n1 c1] 32)).alloc (.cells #[.string ⟨#[]⟩,.slice none 0 0] 42)) ((w.alloc (.cells #[.slice a0 l.length c0,.slice a1 n1 c1] 32)).alloc (.cells #[.string ⟨#[]⟩,.slice none 0 0] 42)) from Below.refl _ _)
 have HX:=yq (show ((w.alloc (.cells #[.slice a0 l.length c0,.slice a1 n1 c1] 32)).alloc (.cells #[.string ⟨#[]⟩,.slice none 0 0] 42)).cell? ⟨w.heap.size,0,none⟩=some (.slice a0 l.length c0) by go_simp)
 have HG:=yq (show ((w.alloc (.cells #[.slice a0 l.length c0,.slice a1 n1 c1] 32)).alloc (.cells #[.string ⟨#[]⟩,.slice none 0 0] 42)).heap[w.heap.size+1]? = some (.cells #[.string ⟨#[]⟩,.slice none 0 0] 42) from ze (by simp))
 have HS:=yq (hs.later HB.out hhi);have HHI:=yq hhi;have HZ:=yq hz;clear hs hhi hz
 go_enter Tryz.func66,Tryz.ntmps66
 go_wp2
 go_loopw [6] (fun i wr=>∃ k:Nat,k≤l.length∧i = .int .i64 (k:Int)∧zah (PSym nm) l k∧Below (w.heap.size+2) ((w.alloc (.cells #[.slice a0 l.length c0,.slice a1 n1 c1] 32)).alloc (.cells #[.string ⟨#[]⟩,.slice none 0 0] 42)) wr) (fun i _=>l.length - (intOf i).toNat)
 case atStart=>exact ⟨0,Nat.zero_le _,rfl,zx _ _,HE.out⟩
 case round =>
  obtain ⟨k,hk,rfl,hno,hbl⟩:=hrel
  have hx0:wr.cell? ⟨w.heap.size,0,none⟩=some (.slice a0 l.length c0):=(hbl.cell (p:=⟨w.heap.size,0,none⟩) (show w.heap.size < w.heap.size+2 by omega)).trans HX.out
  have HN:=yq hno;have HBL:=yq hbl
  have hsz1:w.heap.size+2≤wr.heap.size:=by have:=hbl.size;rw [HSZ.out] at this;exact this
  have hw1:w.heap.size+1 < wr.heap.size:=by omega
  have HGR:=yq ((hbl.block (w.heap.size+1) (by omega)).trans HG.out)
  have y0:wr.cell? ⟨w.heap.size+1,0,none⟩=some (.string ⟨#[]⟩):=(cell_of_row _ _ _ _ _ _ HGR.out).trans rfl;have y1:wr.cell? ⟨w.heap.size+1,1,none⟩=some (.slice none 0 0):=(cell_of_row _ _ _ _ _ _ HGR.out).trans rfl;have f0:wr.frozen? ⟨w.heap.size+1,0,none⟩=false:=frozen_of_row _ _ _ _ _ HGR.out;have f1:wr.frozen? ⟨w.heap.size+1,1,none⟩=false:=frozen_of_row _ _ _ _ _ HGR.out;clear hno hbl
  by_cases hlt:k < l.length
  ·obtain ⟨b,off,rfl,_,hbh,hc⟩:=(HS.out.later (HBL.out.mono (Nat.le_trans HHI.out (by omega))) (Nat.le_refl _)).at k hlt
   obtain ⟨a1s,c1s,hc0,hc1,hs1⟩:=DSymbol.open hc
   have hbw:b < wr.heap.size:=Nat.lt_of_lt_of_le hbh (Nat.le_trans HHI.out (by omega))
   clear hc
   by_cases he:(l.getD k default).fa=nm
   ·have hix:=zdh (p:=PSym nm) hlt (znr he) HN.out
    have fin:=yq (show ∀ (w':World) e,zp4 w.heap.size (symS l nm) (symB l nm) w' e=zp4 w.heap.size (l.getD k default) true w' e from fun w' e=>by rw [zh8 hix,zt1 hix])
    have hnm:=yq he;have hal:=zpy HZ.out hlt
    have HC:=yq (fun (W:World) (hW:Below wr.heap.size wr W)=>zl8 (c:=c1s) (l.getD k default) hal W (Nat.le_trans (Nat.le_trans HHI.out (by omega)) hW.size) (hs1.later hW (Nat.le_trans HHI.out (by omega))))
    rw [he] at hc0 HC;clear he hix hs1 hal;generalize hx:l.getD k default=x at *;clear hx;(go_wp2_with fail);refine (HC.out _ (Below.refl _ _)).mono ?_;rintro e w1 ⟨a9,c9,rfl,ho9,hb9⟩;have HGR1:=yq ((hb9.block (w.heap.size+1) hw1).trans HGR.out);have v0:w1.cell? ⟨w.heap.size+1,0,none⟩=some (.string ⟨#[]⟩):=(cell_of_row _ _ _ _ _ _ HGR1.out).trans rfl;have v1:w1.cell? ⟨w.heap.size+1,1,none⟩=some (.slice none 0 0):=(cell_of_row _ _ _ _ _ _ HGR1.out).trans rfl;have g0:w1.frozen? ⟨w.heap.size+1,0,none⟩=false:=frozen_of_row _ _ _ _ _ HGR1.out;have g1:w1.frozen? ⟨w.heap.size+1,1,none⟩=false:=frozen_of_row _ _ _ _ _ HGR1.out;have HO9:=yq ho9
    have HBW:=yq (HB.out.trans ((HBL.out.trans (hb9.mono hsz1)).mono (show w.heap.size≤w.heap.size+2 by omega)))
    clear hb9 ho9 y0 y1 f0 f1 hx0;go_wp2
    refine bodyPost_ret (v:=.tuple #[.agg #[.string nm,.slice a9 x.fu.length c9],.bool true]) (zy Tryz.results66 _ _ (w.heap.size+1) 42 #[.string nm,.slice a9 x.fu.length c9] (0,0) _ rfl (by refine Eq.trans (zm (cs:=#[.string nm,.slice none 0 0]) (t:=42) (fr:=(0,0)) ?_) rfl;refine Eq.trans (zm (cs:=#[.string ⟨#[]⟩,.slice none 0 0]) (t:=42) (fr:=(0,0)) ?_) rfl;exact HGR1.out) Tryz.underlying42 rfl (by kernel_rfl)) rfl ⟨?_,?_⟩
    ·rw [fin.out]
     refine ⟨a9,c9,by rw [hnm.out],?_⟩
     refine Own.sub (F:=fun y=>wr.heap.size≤y∧y < w1.heap.size) (HO9.out.kept ?_) (fun y hy=>⟨Nat.le_trans (by omega) hy.1,Nat.lt_of_lt_of_le hy.2 (by simp [World.setCell])⟩)
     refine Kept.put (Kept.put Kept.refl ?_) ?_
     ·intro h;have h1:=h.1;dsimp only at h1;omega
     ·intro h;have h1:=h.1;dsimp only at h1;omega
    ·skip
     repeat (first|(with_reducible exact HBW.out)|(with_reducible apply Below.drew)|(with_reducible refine below_drewN ?_ _)|(with_reducible refine Below.alloc ?_ ?_ _)|(with_reducible refine Below.setCell ?_ ?_ _))
     all_goals (first|omega|(simp<;>omega))
   ·have HN2:=yq (zt HN.out (k:=k) (zoq he))
    have e2:((l.getD k default).fa.toList == nm.toList)=false:=zoq he;clear he hs1 hc1;generalize (l.getD k default).fa=q at *;go_wp2;go_roundw
    case rel=>exact ⟨k+1,by omega,by go_num,HN2.out,HBL.out⟩
    case measure=>simp [intOf];omega
  ·obtain rfl:k=l.length:=by omega
   have hix:=zbh (p:=PSym nm) HN.out
   have fin:=yq (show ∀ (w':World) e,zp4 w.heap.size (symS l nm) (symB l nm) w' e=zp4 w.heap.size ztv false w' e from fun w' e=>by rw [zpj hix,zpa hix])
   clear hix;go_wp2
   refine bodyPost_ret (v:=.tuple #[.agg #[.string ⟨#[]⟩,.slice none 0 0],.bool false]) (zy Tryz.results66 _ _ (w.heap.size+1) 42 #[.string ⟨#[]⟩,.slice none 0 0] (0,0) _ rfl (by refine Eq.trans (zm (cs:=#[.string ⟨#[]⟩,.slice none 0 0]) (t:=42) (fr:=(0,0)) ?_) rfl;refine Eq.trans (zm (cs:=#[.string ⟨#[]⟩,.slice none 0 0]) (t:=42) (fr:=(0,0)) ?_) rfl;exact HGR.out) Tryz.underlying42 rfl (by kernel_rfl)) rfl ⟨?_,?_⟩
   ·rw [fin.out]
    exact ⟨none,0,rfl,.nil _ _ _ _ _⟩
   ·have HBW:=yq (HB.out.trans (HBL.out.mono (show w.heap.size≤w.heap.size+2 by omega)))
    repeat (first|(with_reducible exact HBW.out)|(with_reducible apply Below.drew)|(with_reducible refine below_drewN ?_ _)|(with_reducible refine Below.alloc ?_ ?_ _)|(with_reducible refine Below.setCell ?_ ?_ _))
    all_goals (first|omega|(simp<;>omega))
theorem zyh {g:DGrammar} (h:g.sz≤1048576) (nm:ByteArray):DSymbol.sz (symS g.fl nm)≤1048576:=by
 have hz:lsz DSymbol.sz g.fl≤1048576:=by unfold DGrammar.sz at h;omega
 by_cases h0:0≤idxI (PSym nm) g.fl
 ·obtain ⟨k,hk⟩ : ∃ k:Nat,idxI (PSym nm) g.fl=k:=⟨(idxI (PSym nm) g.fl).toNat,by omega⟩
  rw [zh8 hk]
  by_cases hl:k < g.fl.length
  ·have:=zab (f:=DSymbol.sz) g.fl k hl
   omega
  ·rw [List.getD_eq_getElem?_getD,List.getElem?_eq_none (by omega)]
   exact Nat.zero_le _
 ·unfold symS
  rw [if_neg h0];exact Nat.zero_le _
theorem zsi {g:DGrammar} (h:g.sz≤1048576) (nm:ByteArray):(symS g.fl nm).fu.length≤1048576:=zny (by unfold DGrammar.sz at h;omega) nm
theorem zb5 {w w':World} {base:Nat} {e:TypeId} {size:Nat} {v:Value} {n:Nat} {xs:List Value} (h:w.ownsRow base e size v n xs) (hb:Below w.heap.size w w'):w'.ownsRow base e size v n xs :=
 h.kept (row:=none) ⟨hb.os,hb.tape,hb.output,hb.size,fun k hk _=>hb.block k hk⟩ (by cases v.ownBlock<;>simp)
def zi1 (g:DGrammar) (x:DRule) (oc:DOccurrence):DAttribute × Bool:=if inR oc.fb 0 x.fj.length=true then zax (symS g.fl (zg x oc.fb)) oc.fa else (zjz,false)
def zii (p:Int):Int:=if p=0 then 1 else 2
def zd3 (g:DGrammar) (x:DRule) (oc:DOccurrence):Bool:=(zi1 g x oc).2 && decide ((zi1 g x oc).1.fv=zii oc.fb)
theorem zpo {g:DGrammar} {x:DRule} {oc:DOccurrence} (h:inR oc.fb 0 x.fj.length=true):zi1 g x oc=zax (symS g.fl (zg x oc.fb)) oc.fa:=if_pos h
theorem zsh {g:DGrammar} {x:DRule} {oc:DOccurrence} (h:inR oc.fb 0 x.fj.length=false):zi1 g x oc=(zjz,false):=if_neg (by rw [h];decide)
theorem zu0 {g:DGrammar} {x:DRule} {oc:DOccurrence} (h:inR oc.fb 0 x.fj.length=false):zd3 g x oc=false:=by unfold zd3;rw [zsh h];rfl
theorem zrx {lo hi:Nat} {a0 a1 b2 b4 b5:Option Addr} {c0_0 c0_1 c1_0 c1_1 c1_2:Nat} (g:DGrammar) (okg:g.ok) (hszg:g.sz≤1048576) (x:DRule) (okx:x.ok) (hszx:x.sz≤1048576) (oc:DOccurrence) (oko:oc.ok) (hszo:oc.sz≤1048576) (w:World) (hhi:hi≤w.heap.size) (hs0:Sl lo hi w 2 g.fl.length (fun k=>DSymbol.ct (g.fl.getD k default)) a0) (hs1:Sl lo hi w 6 g.fm.length (fun k=>DRule.ct (g.fm.getD k default)) a1) (hs2:Sl lo hi w 1 x.fj.length (fun k=>ictS (x.fj.getD k default)) b2) (hs4:Sl lo hi w 9 x.fg.length (fun k=>DEquation.ct (x.fg.getD k default)) b4) (hs5:Sl lo hi w 16 x.fo.length (fun k=>DContribution.ct (x.fo.getD k default)) b5) :
  Calls Tryz.prog 108 #[.agg #[.slice a0 g.fl.length c0_0,.slice a1 g.fm.length c0_1],.agg #[.string x.fa,.string x.fp,.slice b2 x.fj.length c1_0,.bool x.fq,.slice b4 x.fg.length c1_1,.slice b5 x.fo.length c1_2],.agg #[.int .i64 oc.fb,.string oc.fa]] w fun e w'=>e = .returned (.bool (zd3 g x oc))∧Below w.heap.size w w':=by
 have hnx:x.fj.length≤1048576:=by unfold DRule.sz lsz at hszx;omega
 have hzs:lsz DSymbol.sz g.fl≤1048576:=by unfold DGrammar.sz at hszg;omega
 have okp : -9223372036854775808≤oc.fb∧oc.fb≤9223372036854775807:=oko.1
 have OKP:=yq (show okI oc.fb from oko.1)
 have HNS:=yq (zny hzs (zg x oc.fb));have HB:=yq ((((((Below.refl w.heap.size w).alloc (Nat.le_refl _) (.cells #[.slice a0 g.fl.length c0_0,.slice a1 g.fm.length c0_1] 32))).alloc ye (.cells #[.string x.fa,.string x.fp,.slice b2 x.fj.length c1_0,.bool x.fq,.slice b4 x.fg.length c1_1,.slice b5 x.fo.length c1_2] 50))).alloc ye (.cells #[.int .i64 oc.fb,.string oc.fa] 87));have HSY:=yq (hs0.later HB.out hhi);have HR1:=yq (hs1.later HB.out hhi);have HR2:=yq (hs2.later HB.out hhi);have HR4:=yq (hs4.later HB.out hhi);have HR5:=yq (hs5.later HB.out hhi);have HHI:=yq (Nat.le_trans hhi HB.out.size);have HZS:=yq hzs;have HSX:=yq hszx;have OKX:=yq okx;have HZG:=yq hszg;have OKO:=yq oko;have OKG:=yq okg;have HZO:=yq hszo;clear hs0 hs1 hs2 hs4 hs5 hhi hzs hszx okx hszg oko okg hszo
 by_cases hp:inR oc.fb 0 x.fj.length=true
 ·have HP:=yq (zpo (g:=g) hp)
  have HI:=yq (fun (W:World)=>by have h:=zaf oc.fb 0 (x.fj.length:Int) W;rw [hp] at h;exact h)
  clear hp
  go_enter Tryz.func108,Tryz.ntmps108
  (go_wp2_with fail);refine (HI.out _).mono ?_;rintro e w9 ⟨rfl,rfl⟩;(go_wp2_with fail)
  refine zcn [([],none),([],none),([],none),([2],none),([1,3],none),([0,4],none),([5],none),([6],none),([6],none),([],none),([9,7],some 9),([8],none)] [0,1,2,3,4,5,6,7,8,10,11] (fun j V L H wx=>match j with|0=>V 0 = .agg #[.slice a0 g.fl.length c0_0,.slice a1 g.fm.length c0_1]|1=>V 1 = .agg #[.string x.fa,.string x.fp,.slice b2 x.fj.length c1_0,.bool x.fq,.slice b4 x.fg.length c1_1,.slice b5 x.fo.length c1_2]|2=>V 2 = .pointer (some ⟨w.heap.size+2,0,none⟩)|3=>V 3 = .int .i64 oc.fb|4=>V 4 = .string (zg x oc.fb)|5=>∃ a9 c9,V 5 = .tuple #[.agg #[.string (symS g.fl (zg x oc.fb)).fa,.slice a9 (symS g.fl (zg x oc.fb)).fu.length c9],.bool (symB g.fl (zg x oc.fb))]∧Own wx (fun y=>L≤y∧y < H) (.sl 4 (symS g.fl (zg x oc.fb)).fu.length (fun k=>DAttribute.ct ((symS g.fl (zg x oc.fb)).fu.getD k default))) (.slice a9 (symS g.fl (zg x oc.fb)).fu.length c9)|6=>V 6=V 5 ∧ ∃ a9_6 c9_6,V 6 = .tuple #[.agg #[.string (symS g.fl (zg x oc.fb)).fa,.slice a9_6 (symS g.fl (zg x oc.fb)).fu.length c9_6],.bool (symB g.fl (zg x oc.fb))]|7=>(∀ x0 x1,V 6 = .tuple #[x0,x1]→V 7=x0) ∧ ∃ a9_7 c9_7,V 7 = .agg #[.string (symS g.fl (zg x oc.fb)).fa,.slice a9_7 (symS g.fl (zg x oc.fb)).fu.length c9_7]|8=>(∀ x0 x1,V 6 = .tuple #[x0,x1]→V 8=x1)|9=>V 9 = .pointer (some ⟨L,0,none⟩)∧L < H∧wx.cell? ⟨L,0,none⟩=some (.string ⟨#[]⟩)∧wx.frozen? ⟨L,0,none⟩=false∧wx.cell? ⟨L,1,none⟩=some (.slice none 0 0)∧wx.frozen? ⟨L,1,none⟩=false|10=>∀ x0 x1,V 7 = .agg #[x0,x1]→L < H∧wx.cell? ⟨L,0,none⟩=some x0∧wx.frozen? ⟨L,0,none⟩=false∧wx.cell? ⟨L,1,none⟩=some x1∧wx.frozen? ⟨L,1,none⟩=false|11=>V 11=V 8|_=>True) (by kernel_rfl) (by kernel_rfl) ?loc ?lasts ?walk
  case loc =>
   intro k V V' L H wx h0 h1 hG
   match k with
   | 0 =>
    (try dsimp only at hG ⊢);rw [← h0];exact hG
   | 1 =>
    (try dsimp only at hG ⊢);rw [← h0];exact hG
   | 2 =>
    (try dsimp only at hG ⊢);rw [← h0];exact hG
   | 3 =>
    (try dsimp only at hG ⊢);rw [← h0];exact hG
   | 4 =>
    (try dsimp only at hG ⊢);rw [← h0];exact hG
   | 5 =>
    (try dsimp only at hG ⊢);rw [← h0];exact hG
   | 6 =>
    have e5:=h1 5 (by decide)
    (try dsimp only at hG ⊢);rw [← h0,← e5];exact hG
   | 7 =>
    have e6:=h1 6 (by decide)
    (try dsimp only at hG ⊢);rw [← h0,← e6];exact hG
   | 8 =>
    have e6:=h1 6 (by decide)
    (try dsimp only at hG ⊢);rw [← h0,← e6];exact hG
   | 9 =>
    (try dsimp only at hG ⊢);rw [← h0];exact hG
   | 10 =>
    have e7:=h1 7 (by decide)
    (try dsimp only at hG ⊢);rw [← e7];exact hG
   | 11 =>
    have e8:=h1 8 (by decide)
    (try dsimp only at hG ⊢);rw [← h0,← e8];exact hG
   | n+12=>trivial
  case lasts =>
   intro i hi V L H wx wy hB hH hk
   match i,hi with
   | 0,_=>exact fun h=>h
   | 1,_=>exact fun h=>h
   | 2,_=>exact fun h=>h
   | 3,_=>exact fun h=>h
   | 4,_=>exact fun h=>h
   | 5,_=>exact fun ⟨a9,c9,hv,ho0⟩=>⟨a9,c9,hv,ho0.kept (hk.sub fun x hx=>.inr hx)⟩
   | 6,_=>exact fun h=>h
   | 7,_=>exact fun h=>h
   | 8,_=>exact fun h=>h
   | 9,_=>exact fun ⟨hv,hl,hc0,hf0,hc1,hf1⟩=>⟨hv,hl,(hk.cell (p:=⟨L,0,none⟩) (.inr ⟨Nat.le_refl _,hl⟩) (Nat.lt_of_lt_of_le hl hH)).trans hc0,(hk.frozen (p:=⟨L,0,none⟩) (.inr ⟨Nat.le_refl _,hl⟩) (Nat.lt_of_lt_of_le hl hH)).trans hf0,(hk.cell (p:=⟨L,1,none⟩) (.inr ⟨Nat.le_refl _,hl⟩) (Nat.lt_of_lt_of_le hl hH)).trans hc1,(hk.frozen (p:=⟨L,1,none⟩) (.inr ⟨Nat.le_refl _,hl⟩) (Nat.lt_of_lt_of_le hl hH)).trans hf1⟩
   | 10,_ =>
    intro h x0 x1 hv;obtain ⟨hl,hc0,hf0,hc1,hf1⟩:=h x0 x1 hv;exact ⟨hl,(hk.cell (p:=⟨L,0,none⟩) (.inr ⟨Nat.le_refl _,hl⟩) (Nat.lt_of_lt_of_le hl hH)).trans hc0,(hk.frozen (p:=⟨L,0,none⟩) (.inr ⟨Nat.le_refl _,hl⟩) (Nat.lt_of_lt_of_le hl hH)).trans hf0,(hk.cell (p:=⟨L,1,none⟩) (.inr ⟨Nat.le_refl _,hl⟩) (Nat.lt_of_lt_of_le hl hH)).trans hc1,(hk.frozen (p:=⟨L,1,none⟩) (.inr ⟨Nat.le_refl _,hl⟩) (Nat.lt_of_lt_of_le hl hH)).trans hf1⟩
   | 11,_=>exact fun h=>h
   | n+12,hn=>exact absurd hn (by simp)
  case walk =>
   simp only [free,Nat.reduceAdd,Act.put,List.setIfInBounds_toArray,List.set_cons_succ,List.set_cons_zero]
   refine ⟨?_,?_,?_,?_,?_,?_,?_,?_,?_,?_,?_,?_,?_⟩
   ·intro V L H w1 hb1 hd
    clear hd
    have g0:w1.cell? ⟨w.heap.size,0,none⟩=some (.slice a0 g.fl.length c0_0):=(hb1.cell (p:=⟨w.heap.size,0,none⟩) yg).trans (by go_simp)
    have g1:w1.cell? ⟨w.heap.size,1,none⟩=some (.slice a1 g.fm.length c0_1):=(hb1.cell (p:=⟨w.heap.size,1,none⟩) yg).trans (by go_simp)
    (go_wp2_with fail);exact zc _ rfl ⟨Below.refl _ _,zb⟩
   ·intro V L H w1 hb1 hd
    clear hd
    have r0:w1.cell? ⟨w.heap.size+1,0,none⟩=some (.string x.fa):=(hb1.cell (p:=⟨w.heap.size+1,0,none⟩) yg).trans (by go_simp)
    have r1:w1.cell? ⟨w.heap.size+1,1,none⟩=some (.string x.fp):=(hb1.cell (p:=⟨w.heap.size+1,1,none⟩) yg).trans (by go_simp)
    have r2:w1.cell? ⟨w.heap.size+1,2,none⟩=some (.slice b2 x.fj.length c1_0):=(hb1.cell (p:=⟨w.heap.size+1,2,none⟩) yg).trans (by go_simp)
    have r3:w1.cell? ⟨w.heap.size+1,3,none⟩=some (.bool x.fq):=(hb1.cell (p:=⟨w.heap.size+1,3,none⟩) yg).trans (by go_simp)
    have r4:w1.cell? ⟨w.heap.size+1,4,none⟩=some (.slice b4 x.fg.length c1_1):=(hb1.cell (p:=⟨w.heap.size+1,4,none⟩) yg).trans (by go_simp)
    have r5:w1.cell? ⟨w.heap.size+1,5,none⟩=some (.slice b5 x.fo.length c1_2):=(hb1.cell (p:=⟨w.heap.size+1,5,none⟩) yg).trans (by go_simp)
    (go_wp2_with fail);exact zc _ rfl ⟨Below.refl _ _,zb⟩
   ·intro V L H w1 hb1 hd
    clear hd;(go_wp2_with fail);exact zc _ rfl ⟨Below.refl _ _,zb⟩
   ·intro V L H w1 hb1 hd
    obtain ⟨⟨_,_,_,hv2⟩,-⟩:=hd;rw [hv2];have HV2:=yq hv2;clear hv2
    have o0:w1.cell? ⟨w.heap.size+2,0,none⟩=some (.int .i64 oc.fb):=(hb1.cell (p:=⟨w.heap.size+2,0,none⟩) yg).trans (by go_simp)
    have o1:w1.cell? ⟨w.heap.size+2,1,none⟩=some (.string oc.fa):=(hb1.cell (p:=⟨w.heap.size+2,1,none⟩) yg).trans (by go_simp)
    (go_wp2_with fail);exact zc _ rfl ⟨Below.refl _ _,zb⟩
   ·intro V L H w1 hb1 hd
    obtain ⟨⟨_,_,_,hv1⟩,⟨_,_,_,hv3⟩,-⟩:=hd;rw [hv1,hv3];have HV1:=yq hv1;have HV3:=yq hv3;clear hv1 hv3;(go_wp2_with fail);refine (zd8 (c0_0:=c1_0) (c0_1:=c1_1) (c0_2:=c1_2) x OKX.out HSX.out oc.fb OKP.out _ (Nat.le_trans HHI.out hb1.size) (HR2.out.later hb1 HHI.out) (HR4.out.later hb1 HHI.out) (HR5.out.later hb1 HHI.out)).mono ?_;rintro e w2 ⟨rfl,hb2⟩;(go_wp2_with fail);exact zc _ rfl ⟨hb2,zb⟩
   ·intro V L H w1 hb1 hd
    obtain ⟨⟨_,_,_,hv0⟩,⟨_,_,_,hv4⟩,-⟩:=hd;rw [hv0,hv4];have HV0:=yq hv0;have HV4:=yq hv4;clear hv0 hv4;(go_wp2_with fail);refine (zcx (c0:=c0_0) (c1:=c0_1) (a1:=a1) (n1:=g.fm.length) g.fl HZS.out (zg x oc.fb) _ (Nat.le_trans HHI.out hb1.size) (HSY.out.later hb1 HHI.out)).mono ?_;rintro e w2 ⟨⟨a9,c9,rfl,ho⟩,hb2⟩;(go_wp2_with fail);exact zc _ rfl ⟨hb2,Exists.intro a9 (Exists.intro c9 (And.intro (zb) (ho)))⟩
   ·intro V L H w1 hb1 hd
    obtain ⟨⟨_,_,_,a9,c9,hv5,ho5_0⟩,-⟩:=hd;rw [hv5];have HV5:=yq hv5;clear hv5;(go_wp2_with fail)
    exact zc _ rfl ⟨Below.refl _ _,And.intro (zb.trans (HV5.out.symm.trans (zam (by decide)).symm)) ⟨_,_,zb⟩⟩
   ·intro V L H w1 hb1 hd
    obtain ⟨⟨_,_,_,hv6,a9_6,c9_6,hz6⟩,-⟩:=hd;clear hv6;rw [hz6];have HV6:=yq hz6;clear hz6;(go_wp2_with fail)
    exact zc _ rfl ⟨Below.refl _ _,And.intro (fun x0 x1 h=>by cases (HV6.out.symm.trans ((zam (by decide)).symm.trans h));exact zb) ⟨_,_,zb⟩⟩
   ·intro V L H w1 hb1 hd
    obtain ⟨⟨_,_,_,hv6,a9_6,c9_6,hz6⟩,-⟩:=hd;clear hv6;rw [hz6];have HV6:=yq hz6;clear hz6;(go_wp2_with fail)
    exact zc _ rfl ⟨Below.refl _ _,fun x0 x1 h=>by cases (HV6.out.symm.trans ((zam (by decide)).symm.trans h));exact zb⟩
   ·intro V L H w1 hb1 hd
    clear hd;(go_wp2_with fail);refine zc _ rfl ⟨Below.alloc (Below.refl _ _) (Nat.le_refl _) _,zb,?_,?_,?_,?_,?_⟩
    ·simp
    all_goals go_simp
   ·intro V L H w1 hb1 hd
    obtain ⟨⟨_,_,_,hv9,hlt9,hc9_0,hf9_0,hc9_1,hf9_1⟩,⟨_,_,_,hv7,a9_7,c9_7,hz7⟩,-⟩:=hd;clear hv7;rw [hv9,hz7];have HV9:=yq hv9;have HV7:=yq hz7;clear hv9 hz7;(go_wp2_with fail)
    refine zc undef rfl ⟨(Touches.put (L:=L 9) (H:=H 9) (Touches.put (L:=L 9) (H:=H 9) Touches.refl (p:=⟨L 9,0,none⟩) ⟨Nat.le_refl _,hlt9⟩ _) (p:=⟨L 9,1,none⟩) ⟨Nat.le_refl _,hlt9⟩ _),fun x0 x1 h=>?_⟩
    cases (HV7.out.symm.trans ((zam (by decide)).symm.trans h))
    refine ⟨hlt9,?_,?_,?_,?_⟩
    all_goals go_simp
   ·intro V L H w1 hb1 hd
    obtain ⟨⟨_,_,_,hv8⟩,-⟩:=hd;clear hv8;(go_wp2_with fail)
    exact zc _ rfl ⟨Below.refl _ _,zb.trans (zam (by decide)).symm⟩
   ·intro V L H w1 hb1 hd hap hdead
    obtain ⟨⟨_,_,_,hv0⟩,⟨_,_,_,hv1⟩,⟨_,_,_,hv2⟩,⟨_,_,_,hv3⟩,⟨_,_,_,hv4⟩,⟨_,_,_,a9,c9,hv5,ho5_0⟩,⟨_,_,_,hv6,a9_6,c9_6,hz6⟩,⟨_,_,_,hv7,a9_7,c9_7,hz7⟩,⟨_,_,_,hv8⟩,⟨_,_,_,hst10_⟩,⟨_,_,_,hv11⟩,-⟩:=hd;have hv6':=hv6.trans hv5;have hv7':=hv7 _ _ hv6';have hv8':=hv8 _ _ hv6';have hv11':=hv11.trans hv8';obtain ⟨hlt,hc0,hf0,hc1,hf1⟩:=hst10_ _ _ hv7'
    obtain ⟨hLe,hHe,wo,hva,-⟩:=hdead 10 9 (by decide) rfl
    rw [← hLe] at hva;rw [hv0,hv1,hv2,hv3,hv4,hv5,hv6',hv7',hv8',hva,hv11'];clear hv0 hv1 hv2 hv3 hv4 hv5 hv6' hv7' hv8' hva hv11' hv6 hv7 hv8 hv11;clear hLe hHe
    have o0:w1.cell? ⟨w.heap.size+2,0,none⟩=some (.int .i64 oc.fb):=(hb1.cell (p:=⟨w.heap.size+2,0,none⟩) yg).trans (by go_simp)
    have o1:w1.cell? ⟨w.heap.size+2,1,none⟩=some (.string oc.fa):=(hb1.cell (p:=⟨w.heap.size+2,1,none⟩) yg).trans (by go_simp)
    have HSA:Hid (Sl 0 w1.heap.size w1 4 (symS g.fl (zg x oc.fb)).fu.length (fun k=>DAttribute.ct ((symS g.fl (zg x oc.fb)).fu.getD k default)) a9):=Sl.of (ho5_0.lies fun y hy=>⟨Nat.zero_le _,by have:=hy.2;omega⟩)
    have HB1:=yq (HB.out.trans (hb1.mono HB.out.size))
    have hsz1:w.heap.size+3≤w1.heap.size:=by have:=hb1.size;simp at this;omega
    clear ho5_0 hap hdead;(go_wp2_with fail);refine (zf6 (c0_0:=c9) (symS g.fl (zg x oc.fb)) HNS.out oc.fa _ (Nat.le_refl _) HSA.out).mono ?_;rintro e w2 ⟨rfl,hb2⟩;have HB2:=yq (HB1.out.trans (hb2.mono HB1.out.size));have p0:w2.cell? ⟨w.heap.size+2,0,none⟩=some (.int .i64 oc.fb):=(hb2.cell (p:=⟨w.heap.size+2,0,none⟩) yg).trans o0;have hsz2:=hb2.size
    have hlt2:w.heap.size+2 < w2.heap.size:=by omega
    clear hb2 hb1 o0 o1;have HP2:=HP.out
    have FIN:=yq (show ∀ b:Bool,((zax (symS g.fl (zg x oc.fb)) oc.fa).2 && decide ((zax (symS g.fl (zg x oc.fb)) oc.fa).1.fv=zii oc.fb))=b→Ending.returned (Value.bool b) = .returned (.bool (zd3 g x oc)) from fun b hb=>by unfold zd3;rw [HP2,hb])
    clear HP2 HP;generalize zax (symS g.fl (zg x oc.fb)) oc.fa=f at *;obtain ⟨⟨f1,f2,f3,f4⟩,f5⟩:=f
    dsimp only at FIN ⊢
    by_cases h0:oc.fb=0
    ·have FN:=yq (fun b (hb:(f5 && decide (f3=1))=b)=>FIN.out b (by unfold zii;rw [if_pos h0];exact hb))
     rw [h0] at p0;have hd:((0:Int) == 0)=true:=rfl;clear FIN h0 hd okp
     cases f5
     ·go_wp2
      go_ret
      exact ⟨FN.out _ rfl,(by repeat (first|(with_reducible exact HB2.out)|(refine Below.setCell ?_ yh _)|(refine Below.alloc ?_ yh _)))⟩
     ·by_cases h3:f3=1
      ·have hd:(f3 == 1)=true:=by rw [h3];rfl
       have FM:=yq (FN.out true (by simp [h3]))
       clear FN h3;go_wp2;go_ret
       exact ⟨FM.out,(by repeat (first|(with_reducible exact HB2.out)|(refine Below.setCell ?_ yh _)|(refine Below.alloc ?_ yh _)))⟩
      ·have hd:(f3 == 1)=false:=by simpa using h3
       have FM:=yq (FN.out false (by simp [h3]))
       clear FN h3;go_wp2;go_ret
       exact ⟨FM.out,(by repeat (first|(with_reducible exact HB2.out)|(refine Below.setCell ?_ yh _)|(refine Below.alloc ?_ yh _)))⟩
    ·have FN:=yq (fun b (hb:(f5 && decide (f3=2))=b)=>FIN.out b (by unfold zii;rw [if_neg h0];exact hb))
     have hd0:(oc.fb == 0)=false:=by simpa using h0
     clear FIN h0
     cases f5
     ·go_wp2
      go_ret
      exact ⟨FN.out _ rfl,(by repeat (first|(with_reducible exact HB2.out)|(refine Below.setCell ?_ yh _)|(refine Below.alloc ?_ yh _)))⟩
     ·by_cases h3:f3=2
      ·have hd:(f3 == 2)=true:=by rw [h3];rfl
       have FM:=yq (FN.out true (by simp [h3]))
       clear FN h3;go_wp2;go_ret
       exact ⟨FM.out,(by repeat (first|(with_reducible exact HB2.out)|(refine Below.setCell ?_ yh _)|(refine Below.alloc ?_ yh _)))⟩
      ·have hd:(f3 == 2)=false:=by simpa using h3
       have FM:=yq (FN.out false (by simp [h3]))
       clear FN h3;go_wp2;go_ret
       exact ⟨FM.out,(by repeat (first|(with_reducible exact HB2.out)|(refine Below.setCell ?_ yh _)|(refine Below.alloc ?_ yh _)))⟩
 ·have hp':inR oc.fb 0 x.fj.length=false:=by simpa using hp
  have FIN:=yq (zu0 (g:=g) hp')
  have HI:=yq (fun (W:World)=>by have h:=zaf oc.fb 0 (x.fj.length:Int) W;rw [hp'] at h;exact h)
  clear hp hp'
  go_enter Tryz.func108,Tryz.ntmps108
  (go_wp2_with fail);refine (HI.out _).mono ?_;rintro e w9 ⟨rfl,rfl⟩;go_wp2;go_ret
  exact ⟨zh (by rw [FIN.out]),HB.out⟩
theorem zeb (p:Int) (w:World) :
  Calls Tryz.prog 93 #[.int .i64 p] w fun e w'=>e = .returned (.int .i64 (zii p))∧w=w':=by
 by_cases h:p=0
 ·have FIN:=yq (show zii p=1 from if_pos h)
  subst h
  go_enter Tryz.func93,Tryz.ntmps93
  go_wp2;go_ret
  exact ⟨zan (by rw [FIN.out]),rfl⟩
 ·have FIN:=yq (show zii p=2 from if_neg h)
  have hd:(p == 0)=false:=by simpa using h
  clear h
  go_enter Tryz.func93,Tryz.ntmps93
  go_wp2;go_ret
  exact ⟨zan (by rw [FIN.out]),rfl⟩
theorem ztz {v:Value} {f x:DAttribute × Bool} (h:x=f) (hv:v = .tuple #[.agg #[.string f.1.fa,.int .i64 f.1.fk,.int .i64 f.1.fv,.bool f.1.fx],.bool f.2]):Ending.returned v = .returned (.tuple #[.agg #[.string x.1.fa,.int .i64 x.1.fk,.int .i64 x.1.fv,.bool x.1.fx],.bool x.2]):=by rw [hv,h]
theorem zjj {lo hi:Nat} {a0 a1 b2 b4 b5:Option Addr} {c0_0 c0_1 c1_0 c1_1 c1_2:Nat} (g:DGrammar) (okg:g.ok) (hszg:g.sz≤1048576) (x:DRule) (okx:x.ok) (hszx:x.sz≤1048576) (oc:DOccurrence) (oko:oc.ok) (hszo:oc.sz≤1048576) (w:World) (hhi:hi≤w.heap.size) (hs0:Sl lo hi w 2 g.fl.length (fun k=>DSymbol.ct (g.fl.getD k default)) a0) (hs1:Sl lo hi w 6 g.fm.length (fun k=>DRule.ct (g.fm.getD k default)) a1) (hs2:Sl lo hi w 1 x.fj.length (fun k=>ictS (x.fj.getD k default)) b2) (hs4:Sl lo hi w 9 x.fg.length (fun k=>DEquation.ct (x.fg.getD k default)) b4) (hs5:Sl lo hi w 16 x.fo.length (fun k=>DContribution.ct (x.fo.getD k default)) b5) :
  Calls Tryz.prog 92 #[.agg #[.slice a0 g.fl.length c0_0,.slice a1 g.fm.length c0_1],.agg #[.string x.fa,.string x.fp,.slice b2 x.fj.length c1_0,.bool x.fq,.slice b4 x.fg.length c1_1,.slice b5 x.fo.length c1_2],.agg #[.int .i64 oc.fb,.string oc.fa]] w fun e w'=>e = .returned (.tuple #[.agg #[.string (zi1 g x oc).1.fa,.int .i64 (zi1 g x oc).1.fk,.int .i64 (zi1 g x oc).1.fv,.bool (zi1 g x oc).1.fx],.bool (zi1 g x oc).2])∧Below w.heap.size w w':=by
 have hnx:x.fj.length≤1048576:=by unfold DRule.sz lsz at hszx;omega
 have hzs:lsz DSymbol.sz g.fl≤1048576:=by unfold DGrammar.sz at hszg;omega
 have okp : -9223372036854775808≤oc.fb∧oc.fb≤9223372036854775807:=oko.1
 have OKP:=yq (show okI oc.fb from oko.1)
 have HNS:=yq (zny hzs (zg x oc.fb));have HB:=yq ((((((((Below.refl w.heap.size w).alloc (Nat.le_refl _) (.cells #[.slice a0 g.fl.length c0_0,.slice a1 g.fm.length c0_1] 32))).alloc ye (.cells #[.string x.fa,.string x.fp,.slice b2 x.fj.length c1_0,.bool x.fq,.slice b4 x.fg.length c1_1,.slice b5 x.fo.length c1_2] 50))).alloc ye (.cells #[.int .i64 oc.fb,.string oc.fa] 87))).alloc ye (.cells #[.string ⟨#[]⟩,.int .i64 0,.int .i64 0,.bool false] 44));have HSY:=yq (hs0.later HB.out hhi);have HR1:=yq (hs1.later HB.out hhi);have HR2:=yq (hs2.later HB.out hhi);have HR4:=yq (hs4.later HB.out hhi);have HR5:=yq (hs5.later HB.out hhi);have HHI:=yq (Nat.le_trans hhi HB.out.size);have HZS:=yq hzs;have HSX:=yq hszx;have OKX:=yq okx;have HZG:=yq hszg;have OKO:=yq oko;have OKG:=yq okg;have HZO:=yq hszo;clear hs0 hs1 hs2 hs4 hs5 hhi hzs hszx okx hszg oko okg hszo
 by_cases hp:inR oc.fb 0 x.fj.length=true
 ·have HP:=yq (zpo (g:=g) hp)
  have HI:=yq (fun (W:World)=>by have h:=zbe (a2:=b2) (a4:=b4) (a5:=b5) (c0_0:=c1_0) (c0_1:=c1_1) (c0_2:=c1_2) x hnx oc.fb W;rw [hp] at h;exact h)
  clear hp
  go_enter Tryz.func92,Tryz.ntmps92
  (go_wp2_with fail);refine (HI.out _).mono ?_;rintro e w9 ⟨rfl,hb9⟩
  have g0:w9.cell? ⟨w.heap.size,0,none⟩=some (.slice a0 g.fl.length c0_0):=(hb9.cell (p:=⟨w.heap.size,0,none⟩) yg).trans (by go_simp)
  have g1:w9.cell? ⟨w.heap.size,1,none⟩=some (.slice a1 g.fm.length c0_1):=(hb9.cell (p:=⟨w.heap.size,1,none⟩) yg).trans (by go_simp)
  have r0:w9.cell? ⟨w.heap.size+1,0,none⟩=some (.string x.fa):=(hb9.cell (p:=⟨w.heap.size+1,0,none⟩) yg).trans (by go_simp)
  have r1:w9.cell? ⟨w.heap.size+1,1,none⟩=some (.string x.fp):=(hb9.cell (p:=⟨w.heap.size+1,1,none⟩) yg).trans (by go_simp)
  have r2:w9.cell? ⟨w.heap.size+1,2,none⟩=some (.slice b2 x.fj.length c1_0):=(hb9.cell (p:=⟨w.heap.size+1,2,none⟩) yg).trans (by go_simp)
  have r3:w9.cell? ⟨w.heap.size+1,3,none⟩=some (.bool x.fq):=(hb9.cell (p:=⟨w.heap.size+1,3,none⟩) yg).trans (by go_simp)
  have r4:w9.cell? ⟨w.heap.size+1,4,none⟩=some (.slice b4 x.fg.length c1_1):=(hb9.cell (p:=⟨w.heap.size+1,4,none⟩) yg).trans (by go_simp)
  have r5:w9.cell? ⟨w.heap.size+1,5,none⟩=some (.slice b5 x.fo.length c1_2):=(hb9.cell (p:=⟨w.heap.size+1,5,none⟩) yg).trans (by go_simp)
  have o0:w9.cell? ⟨w.heap.size+2,0,none⟩=some (.int .i64 oc.fb):=(hb9.cell (p:=⟨w.heap.size+2,0,none⟩) yg).trans (by go_simp)
  have o1:w9.cell? ⟨w.heap.size+2,1,none⟩=some (.string oc.fa):=(hb9.cell (p:=⟨w.heap.size+2,1,none⟩) yg).trans (by go_simp)
  have y0:w9.cell? ⟨w.heap.size+3,0,none⟩=some (.string ⟨#[]⟩):=(hb9.cell (p:=⟨w.heap.size+3,0,none⟩) yg).trans (by go_simp)
  have y1:w9.cell? ⟨w.heap.size+3,1,none⟩=some (.int .i64 0):=(hb9.cell (p:=⟨w.heap.size+3,1,none⟩) yg).trans (by go_simp)
  have y2:w9.cell? ⟨w.heap.size+3,2,none⟩=some (.int .i64 0):=(hb9.cell (p:=⟨w.heap.size+3,2,none⟩) yg).trans (by go_simp)
  have y3:w9.cell? ⟨w.heap.size+3,3,none⟩=some (.bool false):=(hb9.cell (p:=⟨w.heap.size+3,3,none⟩) yg).trans (by go_simp)
  have f0:w9.frozen? ⟨w.heap.size+3,0,none⟩=false:=(hb9.frozen (p:=⟨w.heap.size+3,0,none⟩) yg).trans (by go_simp)
  have f1:w9.frozen? ⟨w.heap.size+3,1,none⟩=false:=(hb9.frozen (p:=⟨w.heap.size+3,1,none⟩) yg).trans (by go_simp)
  have f2:w9.frozen? ⟨w.heap.size+3,2,none⟩=false:=(hb9.frozen (p:=⟨w.heap.size+3,2,none⟩) yg).trans (by go_simp)
  have f3:w9.frozen? ⟨w.heap.size+3,3,none⟩=false:=(hb9.frozen (p:=⟨w.heap.size+3,3,none⟩) yg).trans (by go_simp)
  have HGR:=yq ((hb9.block (w.heap.size+3) yg).trans (show ((((w.alloc (.cells #[.slice a0 g.fl.length c0_0,.slice a1 g.fm.length c0_1] 32)).alloc (.cells #[.string x.fa,.string x.fp,.slice b2 x.fj.length c1_0,.bool x.fq,.slice b4 x.fg.length c1_1,.slice b5 x.fo.length c1_2] 50)).alloc (.cells #[.int .i64 oc.fb,.string oc.fa] 87)).alloc (.cells #[.string ⟨#[]⟩,.int .i64 0,.int .i64 0,.bool false] 44)).heap[w.heap.size+3]? = some (.cells #[.string ⟨#[]⟩,.int .i64 0,.int .i64 0,.bool false] 44) from ze (by simp)))
  have hsz9:w.heap.size+4≤w9.heap.size:=by have:=hb9.size;simp at this;omega
  have hk0:w.heap.size+0 < w9.heap.size:=by omega
  have hk1:w.heap.size+1 < w9.heap.size:=by omega
  have hk2:w.heap.size+2 < w9.heap.size:=by omega
  have hk3:w.heap.size+3 < w9.heap.size:=by omega
  have HSY:=yq (HSY.out.later hb9 HHI.out);have HR1:=yq (HR1.out.later hb9 HHI.out);have HR2:=yq (HR2.out.later hb9 HHI.out);have HR4:=yq (HR4.out.later hb9 HHI.out);have HR5:=yq (HR5.out.later hb9 HHI.out);have HHI:=yq (Nat.le_trans HHI.out hb9.size);have HB:=yq (HB.out.trans (hb9.mono HB.out.size));clear hb9;(go_wp2_with fail)
  refine zcn [([],none),([],none),([],none),([2],none),([1,3],none),([0,4],none),([5],none),([6],none),([6],none),([],none),([9,7],some 9),([8],none)] [0,1,2,3,4,5,6,7,8,10,11] (fun j V L H wx=>match j with|0=>V 0 = .agg #[.slice a0 g.fl.length c0_0,.slice a1 g.fm.length c0_1]|1=>V 1 = .agg #[.string x.fa,.string x.fp,.slice b2 x.fj.length c1_0,.bool x.fq,.slice b4 x.fg.length c1_1,.slice b5 x.fo.length c1_2]|2=>V 2 = .pointer (some ⟨w.heap.size+2,0,none⟩)|3=>V 3 = .int .i64 oc.fb|4=>V 4 = .string (zg x oc.fb)|5=>∃ a9 c9,V 5 = .tuple #[.agg #[.string (symS g.fl (zg x oc.fb)).fa,.slice a9 (symS g.fl (zg x oc.fb)).fu.length c9],.bool (symB g.fl (zg x oc.fb))]∧Sl lo hi wx 4 (symS g.fl (zg x oc.fb)).fu.length (fun k=>DAttribute.ct ((symS g.fl (zg x oc.fb)).fu.getD k default)) a9|6=>V 6=V 5 ∧ ∃ a9_6 c9_6,V 6 = .tuple #[.agg #[.string (symS g.fl (zg x oc.fb)).fa,.slice a9_6 (symS g.fl (zg x oc.fb)).fu.length c9_6],.bool (symB g.fl (zg x oc.fb))]|7=>(∀ x0 x1,V 6 = .tuple #[x0,x1]→V 7=x0) ∧ ∃ a9_7 c9_7,V 7 = .agg #[.string (symS g.fl (zg x oc.fb)).fa,.slice a9_7 (symS g.fl (zg x oc.fb)).fu.length c9_7]|8=>(∀ x0 x1,V 6 = .tuple #[x0,x1]→V 8=x1)|9=>V 9 = .pointer (some ⟨L,0,none⟩)∧L < H∧wx.cell? ⟨L,0,none⟩=some (.string ⟨#[]⟩)∧wx.frozen? ⟨L,0,none⟩=false∧wx.cell? ⟨L,1,none⟩=some (.slice none 0 0)∧wx.frozen? ⟨L,1,none⟩=false|10=>∀ x0 x1,V 7 = .agg #[x0,x1]→L < H∧wx.cell? ⟨L,0,none⟩=some x0∧wx.frozen? ⟨L,0,none⟩=false∧wx.cell? ⟨L,1,none⟩=some x1∧wx.frozen? ⟨L,1,none⟩=false|11=>V 11=V 8|_=>True) (by kernel_rfl) (by kernel_rfl) ?loc ?lasts ?walk
  case loc =>
   intro k V V' L H wx h0 h1 hG
   match k with
   | 0 =>
    (try dsimp only at hG ⊢);rw [← h0];exact hG
   | 1 =>
    (try dsimp only at hG ⊢);rw [← h0];exact hG
   | 2 =>
    (try dsimp only at hG ⊢);rw [← h0];exact hG
   | 3 =>
    (try dsimp only at hG ⊢);rw [← h0];exact hG
   | 4 =>
    (try dsimp only at hG ⊢);rw [← h0];exact hG
   | 5 =>
    (try dsimp only at hG ⊢);rw [← h0];exact hG
   | 6 =>
    have e5:=h1 5 (by decide)
    (try dsimp only at hG ⊢);rw [← h0,← e5];exact hG
   | 7 =>
    have e6:=h1 6 (by decide)
    (try dsimp only at hG ⊢);rw [← h0,← e6];exact hG
   | 8 =>
    have e6:=h1 6 (by decide)
    (try dsimp only at hG ⊢);rw [← h0,← e6];exact hG
   | 9 =>
    (try dsimp only at hG ⊢);rw [← h0];exact hG
   | 10 =>
    have e7:=h1 7 (by decide)
    (try dsimp only at hG ⊢);rw [← e7];exact hG
   | 11 =>
    have e8:=h1 8 (by decide)
    (try dsimp only at hG ⊢);rw [← h0,← e8];exact hG
   | n+12=>trivial
  case lasts =>
   intro i hi V L H wx wy hB hH hk
   match i,hi with
   | 0,_=>exact fun h=>h
   | 1,_=>exact fun h=>h
   | 2,_=>exact fun h=>h
   | 3,_=>exact fun h=>h
   | 4,_=>exact fun h=>h
   | 5,_=>exact fun ⟨a9,c9,hv,ho0⟩=>⟨a9,c9,hv,zuj ho0 hk (fun b h1 h2=>.inl (Nat.lt_of_lt_of_le h2 HHI.out)) (Nat.le_trans HHI.out hB)⟩
   | 6,_=>exact fun h=>h
   | 7,_=>exact fun h=>h
   | 8,_=>exact fun h=>h
   | 9,_=>exact fun ⟨hv,hl,hc0,hf0,hc1,hf1⟩=>⟨hv,hl,(hk.cell (p:=⟨L,0,none⟩) (.inr ⟨Nat.le_refl _,hl⟩) (Nat.lt_of_lt_of_le hl hH)).trans hc0,(hk.frozen (p:=⟨L,0,none⟩) (.inr ⟨Nat.le_refl _,hl⟩) (Nat.lt_of_lt_of_le hl hH)).trans hf0,(hk.cell (p:=⟨L,1,none⟩) (.inr ⟨Nat.le_refl _,hl⟩) (Nat.lt_of_lt_of_le hl hH)).trans hc1,(hk.frozen (p:=⟨L,1,none⟩) (.inr ⟨Nat.le_refl _,hl⟩) (Nat.lt_of_lt_of_le hl hH)).trans hf1⟩
   | 10,_ =>
    intro h x0 x1 hv;obtain ⟨hl,hc0,hf0,hc1,hf1⟩:=h x0 x1 hv;exact ⟨hl,(hk.cell (p:=⟨L,0,none⟩) (.inr ⟨Nat.le_refl _,hl⟩) (Nat.lt_of_lt_of_le hl hH)).trans hc0,(hk.frozen (p:=⟨L,0,none⟩) (.inr ⟨Nat.le_refl _,hl⟩) (Nat.lt_of_lt_of_le hl hH)).trans hf0,(hk.cell (p:=⟨L,1,none⟩) (.inr ⟨Nat.le_refl _,hl⟩) (Nat.lt_of_lt_of_le hl hH)).trans hc1,(hk.frozen (p:=⟨L,1,none⟩) (.inr ⟨Nat.le_refl _,hl⟩) (Nat.lt_of_lt_of_le hl hH)).trans hf1⟩
   | 11,_=>exact fun h=>h
   | n+12,hn=>exact absurd hn (by simp)
  case walk =>
   simp only [free,Nat.reduceAdd,Act.put,List.setIfInBounds_toArray,List.set_cons_succ,List.set_cons_zero]
   refine ⟨?_,?_,?_,?_,?_,?_,?_,?_,?_,?_,?_,?_,?_⟩
   ·intro V L H w1 hb1 hd
    clear hd
    have g0:w1.cell? ⟨w.heap.size,0,none⟩=some (.slice a0 g.fl.length c0_0):=(hb1.cell (p:=⟨w.heap.size,0,none⟩) (by first|omega|(simp;done))).trans g0
    have g1:w1.cell? ⟨w.heap.size,1,none⟩=some (.slice a1 g.fm.length c0_1):=(hb1.cell (p:=⟨w.heap.size,1,none⟩) (by first|omega|(simp;done))).trans g1
    (go_wp2_with fail);exact zc _ rfl ⟨Below.refl _ _,zb⟩
   ·intro V L H w1 hb1 hd
    clear hd
    have r0:w1.cell? ⟨w.heap.size+1,0,none⟩=some (.string x.fa):=(hb1.cell (p:=⟨w.heap.size+1,0,none⟩) (by first|omega|(simp;done))).trans r0
    have r1:w1.cell? ⟨w.heap.size+1,1,none⟩=some (.string x.fp):=(hb1.cell (p:=⟨w.heap.size+1,1,none⟩) (by first|omega|(simp;done))).trans r1
    have r2:w1.cell? ⟨w.heap.size+1,2,none⟩=some (.slice b2 x.fj.length c1_0):=(hb1.cell (p:=⟨w.heap.size+1,2,none⟩) (by first|omega|(simp;done))).trans r2
    have r3:w1.cell? ⟨w.heap.size+1,3,none⟩=some (.bool x.fq):=(hb1.cell (p:=⟨w.heap.size+1,3,none⟩) (by first|omega|(simp;done))).trans r3
    have r4:w1.cell? ⟨w.heap.size+1,4,none⟩=some (.slice b4 x.fg.length c1_1):=(hb1.cell (p:=⟨w.heap.size+1,4,none⟩) (by first|omega|(simp;done))).trans r4
    have r5:w1.cell? ⟨w.heap.size+1,5,none⟩=some (.slice b5 x.fo.length c1_2):=(hb1.cell (p:=⟨w.heap.size+1,5,none⟩) (by first|omega|(simp;done))).trans r5
    (go_wp2_with fail);exact zc _ rfl ⟨Below.refl _ _,zb⟩
   ·intro V L H w1 hb1 hd
    clear hd;(go_wp2_with fail);exact zc _ rfl ⟨Below.refl _ _,zb⟩
   ·intro V L H w1 hb1 hd
    obtain ⟨⟨_,_,_,hv2⟩,-⟩:=hd;rw [hv2];have HV2:=yq hv2;clear hv2
    have o0:w1.cell? ⟨w.heap.size+2,0,none⟩=some (.int .i64 oc.fb):=(hb1.cell (p:=⟨w.heap.size+2,0,none⟩) (by first|omega|(simp;done))).trans o0
    have o1:w1.cell? ⟨w.heap.size+2,1,none⟩=some (.string oc.fa):=(hb1.cell (p:=⟨w.heap.size+2,1,none⟩) (by first|omega|(simp;done))).trans o1
    (go_wp2_with fail);exact zc _ rfl ⟨Below.refl _ _,zb⟩
   ·intro V L H w1 hb1 hd
    obtain ⟨⟨_,_,_,hv1⟩,⟨_,_,_,hv3⟩,-⟩:=hd;rw [hv1,hv3];have HV1:=yq hv1;have HV3:=yq hv3;clear hv1 hv3;(go_wp2_with fail);refine (zd9 (c0_0:=c1_0) (c0_1:=c1_1) (c0_2:=c1_2) x OKX.out HSX.out oc.fb OKP.out _ (Nat.le_trans HHI.out hb1.size) (HR2.out.later hb1 HHI.out) (HR4.out.later hb1 HHI.out) (HR5.out.later hb1 HHI.out)).mono ?_;rintro e w2 ⟨rfl,hb2⟩;(go_wp2_with fail);exact zc _ rfl ⟨hb2,zb⟩
   ·intro V L H w1 hb1 hd
    obtain ⟨⟨_,_,_,hv0⟩,⟨_,_,_,hv4⟩,-⟩:=hd;rw [hv0,hv4];have HV0:=yq hv0;have HV4:=yq hv4;clear hv0 hv4;(go_wp2_with fail);refine (zbw (c0:=c0_0) (c1:=c0_1) (a1:=a1) (n1:=g.fm.length) g.fl HZS.out (zg x oc.fb) _ (Nat.le_trans HHI.out hb1.size) (HSY.out.later hb1 HHI.out)).mono ?_;rintro e w2 ⟨⟨a9,c9,rfl,ho⟩,hb2⟩;(go_wp2_with fail);exact zc _ rfl ⟨hb2,Exists.intro a9 (Exists.intro c9 (And.intro (zb) (ho)))⟩
   ·intro V L H w1 hb1 hd
    obtain ⟨⟨_,_,_,a9,c9,hv5,ho5_0⟩,-⟩:=hd;rw [hv5];have HV5:=yq hv5;clear hv5;(go_wp2_with fail)
    exact zc _ rfl ⟨Below.refl _ _,And.intro (zb.trans (HV5.out.symm.trans (zam (by decide)).symm)) ⟨_,_,zb⟩⟩
   ·intro V L H w1 hb1 hd
    obtain ⟨⟨_,_,_,hv6,a9_6,c9_6,hz6⟩,-⟩:=hd;clear hv6;rw [hz6];have HV6:=yq hz6;clear hz6;(go_wp2_with fail)
    exact zc _ rfl ⟨Below.refl _ _,And.intro (fun x0 x1 h=>by cases (HV6.out.symm.trans ((zam (by decide)).symm.trans h));exact zb) ⟨_,_,zb⟩⟩
   ·intro V L H w1 hb1 hd
    obtain ⟨⟨_,_,_,hv6,a9_6,c9_6,hz6⟩,-⟩:=hd;clear hv6;rw [hz6];have HV6:=yq hz6;clear hz6;(go_wp2_with fail)
    exact zc _ rfl ⟨Below.refl _ _,fun x0 x1 h=>by cases (HV6.out.symm.trans ((zam (by decide)).symm.trans h));exact zb⟩
   ·intro V L H w1 hb1 hd
    clear hd;(go_wp2_with fail);refine zc _ rfl ⟨Below.alloc (Below.refl _ _) (Nat.le_refl _) _,zb,?_,?_,?_,?_,?_⟩
    ·simp
    all_goals go_simp
   ·intro V L H w1 hb1 hd
    obtain ⟨⟨_,_,_,hv9,hlt9,hc9_0,hf9_0,hc9_1,hf9_1⟩,⟨_,_,_,hv7,a9_7,c9_7,hz7⟩,-⟩:=hd;clear hv7;rw [hv9,hz7];have HV9:=yq hv9;have HV7:=yq hz7;clear hv9 hz7;(go_wp2_with fail)
    refine zc undef rfl ⟨(Touches.put (L:=L 9) (H:=H 9) (Touches.put (L:=L 9) (H:=H 9) Touches.refl (p:=⟨L 9,0,none⟩) ⟨Nat.le_refl _,hlt9⟩ _) (p:=⟨L 9,1,none⟩) ⟨Nat.le_refl _,hlt9⟩ _),fun x0 x1 h=>?_⟩
    cases (HV7.out.symm.trans ((zam (by decide)).symm.trans h))
    refine ⟨hlt9,?_,?_,?_,?_⟩
    all_goals go_simp
   ·intro V L H w1 hb1 hd
    obtain ⟨⟨_,_,_,hv8⟩,-⟩:=hd;clear hv8;(go_wp2_with fail)
    exact zc _ rfl ⟨Below.refl _ _,zb.trans (zam (by decide)).symm⟩
   ·intro V L H w1 hb1 hd hap hdead
    obtain ⟨⟨_,_,_,hv0⟩,⟨_,_,_,hv1⟩,⟨_,_,_,hv2⟩,⟨_,_,_,hv3⟩,⟨_,_,_,hv4⟩,⟨_,_,_,a9,c9,hv5,ho5_0⟩,⟨_,_,_,hv6,a9_6,c9_6,hz6⟩,⟨_,_,_,hv7,a9_7,c9_7,hz7⟩,⟨_,_,_,hv8⟩,⟨_,_,_,hst10_⟩,⟨_,_,_,hv11⟩,-⟩:=hd;have hv6':=hv6.trans hv5;have hv7':=hv7 _ _ hv6';have hv8':=hv8 _ _ hv6';have hv11':=hv11.trans hv8';obtain ⟨hlt,hc0,hf0,hc1,hf1⟩:=hst10_ _ _ hv7'
    obtain ⟨hLe,hHe,wo,hva,-⟩:=hdead 10 9 (by decide) rfl
    rw [← hLe] at hva;rw [hv0,hv1,hv2,hv3,hv4,hv5,hv6',hv7',hv8',hva,hv11'];clear hv0 hv1 hv2 hv3 hv4 hv5 hv6' hv7' hv8' hva hv11' hv6 hv7 hv8 hv11;clear hLe hHe
    have o0:w1.cell? ⟨w.heap.size+2,0,none⟩=some (.int .i64 oc.fb):=(hb1.cell (p:=⟨w.heap.size+2,0,none⟩) (by first|omega|(simp;done))).trans o0
    have o1:w1.cell? ⟨w.heap.size+2,1,none⟩=some (.string oc.fa):=(hb1.cell (p:=⟨w.heap.size+2,1,none⟩) (by first|omega|(simp;done))).trans o1
    have HSA:Hid (Sl 0 w1.heap.size w1 4 (symS g.fl (zg x oc.fb)).fu.length (fun k=>DAttribute.ct ((symS g.fl (zg x oc.fb)).fu.getD k default)) a9):=(ho5_0.mono (Nat.zero_le _) (Nat.le_trans HHI.out hb1.size))
    have HB1:=yq (HB.out.trans (hb1.mono HB.out.size))
    have hsz1:w.heap.size+4≤w1.heap.size:=by have:=hb1.size;omega
    clear ho5_0 hap hdead;have HB2b:=yq HB1.out;have y0:w1.cell? ⟨w.heap.size+3,0,none⟩=some (.string ⟨#[]⟩):=(hb1.cell (p:=⟨w.heap.size+3,0,none⟩) yg).trans y0;have y1:w1.cell? ⟨w.heap.size+3,1,none⟩=some (.int .i64 0):=(hb1.cell (p:=⟨w.heap.size+3,1,none⟩) yg).trans y1;have y2:w1.cell? ⟨w.heap.size+3,2,none⟩=some (.int .i64 0):=(hb1.cell (p:=⟨w.heap.size+3,2,none⟩) yg).trans y2;have y3:w1.cell? ⟨w.heap.size+3,3,none⟩=some (.bool false):=(hb1.cell (p:=⟨w.heap.size+3,3,none⟩) yg).trans y3;have f0:w1.frozen? ⟨w.heap.size+3,0,none⟩=false:=(hb1.frozen (p:=⟨w.heap.size+3,0,none⟩) yg).trans f0;have f1:w1.frozen? ⟨w.heap.size+3,1,none⟩=false:=(hb1.frozen (p:=⟨w.heap.size+3,1,none⟩) yg).trans f1;have f2:w1.frozen? ⟨w.heap.size+3,2,none⟩=false:=(hb1.frozen (p:=⟨w.heap.size+3,2,none⟩) yg).trans f2;have f3:w1.frozen? ⟨w.heap.size+3,3,none⟩=false:=(hb1.frozen (p:=⟨w.heap.size+3,3,none⟩) yg).trans f3
    have HGR:=yq ((hb1.block (w.heap.size+3) (by omega)).trans HGR.out)
    (go_wp2_with fail);refine (zgb (c0_0:=c9) (symS g.fl (zg x oc.fb)) HNS.out oc.fa _ (Nat.le_refl _) HSA.out).mono ?_;rintro e w2 ⟨rfl,hb2⟩;have HB:=yq (HB1.out.trans (hb2.mono HB1.out.size));have hm1:=hb1.size;have y0:w2.cell? ⟨w.heap.size+3,0,none⟩=some (.string ⟨#[]⟩):=(hb2.cell (p:=⟨w.heap.size+3,0,none⟩) yg).trans y0;have y1:w2.cell? ⟨w.heap.size+3,1,none⟩=some (.int .i64 0):=(hb2.cell (p:=⟨w.heap.size+3,1,none⟩) yg).trans y1;have y2:w2.cell? ⟨w.heap.size+3,2,none⟩=some (.int .i64 0):=(hb2.cell (p:=⟨w.heap.size+3,2,none⟩) yg).trans y2;have y3:w2.cell? ⟨w.heap.size+3,3,none⟩=some (.bool false):=(hb2.cell (p:=⟨w.heap.size+3,3,none⟩) yg).trans y3;have f0:w2.frozen? ⟨w.heap.size+3,0,none⟩=false:=(hb2.frozen (p:=⟨w.heap.size+3,0,none⟩) yg).trans f0;have f1:w2.frozen? ⟨w.heap.size+3,1,none⟩=false:=(hb2.frozen (p:=⟨w.heap.size+3,1,none⟩) yg).trans f1;have f2:w2.frozen? ⟨w.heap.size+3,2,none⟩=false:=(hb2.frozen (p:=⟨w.heap.size+3,2,none⟩) yg).trans f2;have f3:w2.frozen? ⟨w.heap.size+3,3,none⟩=false:=(hb2.frozen (p:=⟨w.heap.size+3,3,none⟩) yg).trans f3
    have HGR:=yq ((hb2.block (w.heap.size+3) (by omega)).trans HGR.out)
    have hsz2:=hb2.size
    have hlt2:w.heap.size+3 < w2.heap.size:=by omega
    clear hb2 hb1 o0 o1;generalize hf:zax (symS g.fl (zg x oc.fb)) oc.fa=f at *;clear hf;obtain ⟨⟨f1,f2,f3,f4⟩,f5⟩:=f
    dsimp only
    go_wp2
    refine bodyPost_ret (v:=.tuple #[.agg #[.string f1,.int .i64 f2,.int .i64 f3,.bool f4],.bool f5]) (zy Tryz.results92 _ _ (w.heap.size+3) 44 #[.string f1,.int .i64 f2,.int .i64 f3,.bool f4] (0,0) _ rfl (by (repeat (with_reducible refine zn (by simp [World.setCell];omega) ?_));refine Eq.trans (zm (cs:=#[.string f1,.int .i64 f2,.int .i64 f3,.bool false]) (t:=44) (fr:=(0,0)) ?_) rfl;refine Eq.trans (zm (cs:=#[.string f1,.int .i64 f2,.int .i64 0,.bool false]) (t:=44) (fr:=(0,0)) ?_) rfl;refine Eq.trans (zm (cs:=#[.string f1,.int .i64 0,.int .i64 0,.bool false]) (t:=44) (fr:=(0,0)) ?_) rfl;refine Eq.trans (zm (cs:=#[.string ⟨#[]⟩,.int .i64 0,.int .i64 0,.bool false]) (t:=44) (fr:=(0,0)) ?_) rfl;exact HGR.out) Tryz.underlying44 rfl rfl) rfl ⟨ztz HP.out rfl,?_⟩
    exact (by repeat (first|(with_reducible exact HB.out)|(refine Below.setCell ?_ yh _)|(refine Below.alloc ?_ yh _)))
 ·have hp':inR oc.fb 0 x.fj.length=false:=by simpa using hp
  have HP:=yq (zsh (g:=g) hp')
  have HI:=yq (fun (W:World)=>by have h:=zbe (a2:=b2) (a4:=b4) (a5:=b5) (c0_0:=c1_0) (c0_1:=c1_1) (c0_2:=c1_2) x hnx oc.fb W;rw [hp'] at h;exact h)
  clear hp hp'
  go_enter Tryz.func92,Tryz.ntmps92
  (go_wp2_with fail);refine (HI.out _).mono ?_;rintro e w9 ⟨rfl,hb9⟩
  have g0:w9.cell? ⟨w.heap.size,0,none⟩=some (.slice a0 g.fl.length c0_0):=(hb9.cell (p:=⟨w.heap.size,0,none⟩) yg).trans (by go_simp)
  have g1:w9.cell? ⟨w.heap.size,1,none⟩=some (.slice a1 g.fm.length c0_1):=(hb9.cell (p:=⟨w.heap.size,1,none⟩) yg).trans (by go_simp)
  have r0:w9.cell? ⟨w.heap.size+1,0,none⟩=some (.string x.fa):=(hb9.cell (p:=⟨w.heap.size+1,0,none⟩) yg).trans (by go_simp)
  have r1:w9.cell? ⟨w.heap.size+1,1,none⟩=some (.string x.fp):=(hb9.cell (p:=⟨w.heap.size+1,1,none⟩) yg).trans (by go_simp)
  have r2:w9.cell? ⟨w.heap.size+1,2,none⟩=some (.slice b2 x.fj.length c1_0):=(hb9.cell (p:=⟨w.heap.size+1,2,none⟩) yg).trans (by go_simp)
  have r3:w9.cell? ⟨w.heap.size+1,3,none⟩=some (.bool x.fq):=(hb9.cell (p:=⟨w.heap.size+1,3,none⟩) yg).trans (by go_simp)
  have r4:w9.cell? ⟨w.heap.size+1,4,none⟩=some (.slice b4 x.fg.length c1_1):=(hb9.cell (p:=⟨w.heap.size+1,4,none⟩) yg).trans (by go_simp)
  have r5:w9.cell? ⟨w.heap.size+1,5,none⟩=some (.slice b5 x.fo.length c1_2):=(hb9.cell (p:=⟨w.heap.size+1,5,none⟩) yg).trans (by go_simp)
  have o0:w9.cell? ⟨w.heap.size+2,0,none⟩=some (.int .i64 oc.fb):=(hb9.cell (p:=⟨w.heap.size+2,0,none⟩) yg).trans (by go_simp)
  have o1:w9.cell? ⟨w.heap.size+2,1,none⟩=some (.string oc.fa):=(hb9.cell (p:=⟨w.heap.size+2,1,none⟩) yg).trans (by go_simp)
  have y0:w9.cell? ⟨w.heap.size+3,0,none⟩=some (.string ⟨#[]⟩):=(hb9.cell (p:=⟨w.heap.size+3,0,none⟩) yg).trans (by go_simp)
  have y1:w9.cell? ⟨w.heap.size+3,1,none⟩=some (.int .i64 0):=(hb9.cell (p:=⟨w.heap.size+3,1,none⟩) yg).trans (by go_simp)
  have y2:w9.cell? ⟨w.heap.size+3,2,none⟩=some (.int .i64 0):=(hb9.cell (p:=⟨w.heap.size+3,2,none⟩) yg).trans (by go_simp)
  have y3:w9.cell? ⟨w.heap.size+3,3,none⟩=some (.bool false):=(hb9.cell (p:=⟨w.heap.size+3,3,none⟩) yg).trans (by go_simp)
  have f0:w9.frozen? ⟨w.heap.size+3,0,none⟩=false:=(hb9.frozen (p:=⟨w.heap.size+3,0,none⟩) yg).trans (by go_simp)
  have f1:w9.frozen? ⟨w.heap.size+3,1,none⟩=false:=(hb9.frozen (p:=⟨w.heap.size+3,1,none⟩) yg).trans (by go_simp)
  have f2:w9.frozen? ⟨w.heap.size+3,2,none⟩=false:=(hb9.frozen (p:=⟨w.heap.size+3,2,none⟩) yg).trans (by go_simp)
  have f3:w9.frozen? ⟨w.heap.size+3,3,none⟩=false:=(hb9.frozen (p:=⟨w.heap.size+3,3,none⟩) yg).trans (by go_simp)
  have HGR:=yq ((hb9.block (w.heap.size+3) yg).trans (show ((((w.alloc (.cells #[.slice a0 g.fl.length c0_0,.slice a1 g.fm.length c0_1] 32)).alloc (.cells #[.string x.fa,.string x.fp,.slice b2 x.fj.length c1_0,.bool x.fq,.slice b4 x.fg.length c1_1,.slice b5 x.fo.length c1_2] 50)).alloc (.cells #[.int .i64 oc.fb,.string oc.fa] 87)).alloc (.cells #[.string ⟨#[]⟩,.int .i64 0,.int .i64 0,.bool false] 44)).heap[w.heap.size+3]? = some (.cells #[.string ⟨#[]⟩,.int .i64 0,.int .i64 0,.bool false] 44) from ze (by simp)))
  have hsz9:w.heap.size+4≤w9.heap.size:=by have:=hb9.size;simp at this;omega
  have hk0:w.heap.size+0 < w9.heap.size:=by omega
  have hk1:w.heap.size+1 < w9.heap.size:=by omega
  have hk2:w.heap.size+2 < w9.heap.size:=by omega
  have hk3:w.heap.size+3 < w9.heap.size:=by omega
  have HSY:=yq (HSY.out.later hb9 HHI.out);have HR1:=yq (HR1.out.later hb9 HHI.out);have HR2:=yq (HR2.out.later hb9 HHI.out);have HR4:=yq (HR4.out.later hb9 HHI.out);have HR5:=yq (HR5.out.later hb9 HHI.out);have HHI:=yq (Nat.le_trans HHI.out hb9.size);have HB:=yq (HB.out.trans (hb9.mono HB.out.size));clear hb9;go_wp2
  refine bodyPost_ret (v:=.tuple #[.agg #[.string ⟨#[]⟩,.int .i64 0,.int .i64 0,.bool false],.bool false]) (zy Tryz.results92 _ _ (w.heap.size+3) 44 #[.string ⟨#[]⟩,.int .i64 0,.int .i64 0,.bool false] (0,0) _ rfl (by (repeat (with_reducible refine zn (by simp [World.setCell];omega) ?_));refine Eq.trans (zm (cs:=#[.string ⟨#[]⟩,.int .i64 0,.int .i64 0,.bool false]) (t:=44) (fr:=(0,0)) ?_) rfl;refine Eq.trans (zm (cs:=#[.string ⟨#[]⟩,.int .i64 0,.int .i64 0,.bool false]) (t:=44) (fr:=(0,0)) ?_) rfl;refine Eq.trans (zm (cs:=#[.string ⟨#[]⟩,.int .i64 0,.int .i64 0,.bool false]) (t:=44) (fr:=(0,0)) ?_) rfl;refine Eq.trans (zm (cs:=#[.string ⟨#[]⟩,.int .i64 0,.int .i64 0,.bool false]) (t:=44) (fr:=(0,0)) ?_) rfl;exact HGR.out) Tryz.underlying44 rfl rfl) rfl ⟨ztz HP.out rfl,?_⟩
  exact (by repeat (first|(with_reducible exact HB.out)|(refine Below.setCell ?_ yh _)|(refine Below.alloc ?_ yh _)))
theorem zrq {lo hi:Nat} {a0 a1 b2 b4 b5:Option Addr} {c0_0 c0_1 c1_0 c1_1 c1_2:Nat} (g:DGrammar) (okg:g.ok) (hszg:g.sz≤1048576) (x:DRule) (okx:x.ok) (hszx:x.sz≤1048576) (oc:DOccurrence) (oko:oc.ok) (hszo:oc.sz≤1048576) (w:World) (hhi:hi≤w.heap.size) (hs0:Sl lo hi w 2 g.fl.length (fun k=>DSymbol.ct (g.fl.getD k default)) a0) (hs1:Sl lo hi w 6 g.fm.length (fun k=>DRule.ct (g.fm.getD k default)) a1) (hs2:Sl lo hi w 1 x.fj.length (fun k=>ictS (x.fj.getD k default)) b2) (hs4:Sl lo hi w 9 x.fg.length (fun k=>DEquation.ct (x.fg.getD k default)) b4) (hs5:Sl lo hi w 16 x.fo.length (fun k=>DContribution.ct (x.fo.getD k default)) b5) :
  Calls Tryz.prog 55 #[.agg #[.slice a0 g.fl.length c0_0,.slice a1 g.fm.length c0_1],.agg #[.string x.fa,.string x.fp,.slice b2 x.fj.length c1_0,.bool x.fq,.slice b4 x.fg.length c1_1,.slice b5 x.fo.length c1_2],.agg #[.int .i64 oc.fb,.string oc.fa]] w fun e w'=>e = .returned (.bool (zd3 g x oc))∧Below w.heap.size w w':=by
 have hnx:x.fj.length≤1048576:=by unfold DRule.sz lsz at hszx;omega
 have hzs:lsz DSymbol.sz g.fl≤1048576:=by unfold DGrammar.sz at hszg;omega
 have okp : -9223372036854775808≤oc.fb∧oc.fb≤9223372036854775807:=oko.1
 have OKP:=yq (show okI oc.fb from oko.1)
 have HNS:=yq (zny hzs (zg x oc.fb));have HB:=yq ((((((Below.refl w.heap.size w).alloc (Nat.le_refl _) (.cells #[.slice a0 g.fl.length c0_0,.slice a1 g.fm.length c0_1] 32))).alloc ye (.cells #[.string x.fa,.string x.fp,.slice b2 x.fj.length c1_0,.bool x.fq,.slice b4 x.fg.length c1_1,.slice b5 x.fo.length c1_2] 50))).alloc ye (.cells #[.int .i64 oc.fb,.string oc.fa] 87));have HSY:=yq (hs0.later HB.out hhi);have HR1:=yq (hs1.later HB.out hhi);have HR2:=yq (hs2.later HB.out hhi);have HR4:=yq (hs4.later HB.out hhi);have HR5:=yq (hs5.later HB.out hhi);have HHI:=yq (Nat.le_trans hhi HB.out.size);have HZS:=yq hzs;have HSX:=yq hszx;have OKX:=yq okx;have HZG:=yq hszg;have OKO:=yq oko;have OKG:=yq okg;have HZO:=yq hszo;clear hs0 hs1 hs2 hs4 hs5 hhi hzs hszx okx hszg oko okg hszo
 have HA:=yq (fun (W:World) (hW:Below (((w.alloc (.cells #[.slice a0 g.fl.length c0_0,.slice a1 g.fm.length c0_1] 32)).alloc (.cells #[.string x.fa,.string x.fp,.slice b2 x.fj.length c1_0,.bool x.fq,.slice b4 x.fg.length c1_1,.slice b5 x.fo.length c1_2] 50)).alloc (.cells #[.int .i64 oc.fb,.string oc.fa] 87)).heap.size (((w.alloc (.cells #[.slice a0 g.fl.length c0_0,.slice a1 g.fm.length c0_1] 32)).alloc (.cells #[.string x.fa,.string x.fp,.slice b2 x.fj.length c1_0,.bool x.fq,.slice b4 x.fg.length c1_1,.slice b5 x.fo.length c1_2] 50)).alloc (.cells #[.int .i64 oc.fb,.string oc.fa] 87)) W)=>zjj (c0_0:=c0_0) (c0_1:=c0_1) (c1_0:=c1_0) (c1_1:=c1_1) (c1_2:=c1_2) (a1:=a1) g OKG.out HZG.out x OKX.out HSX.out oc OKO.out HZO.out W (Nat.le_trans HHI.out hW.size) (HSY.out.later hW HHI.out) (HR1.out.later hW HHI.out) (HR2.out.later hW HHI.out) (HR4.out.later hW HHI.out) (HR5.out.later hW HHI.out))
 have FIN:=yq (show ∀ b:Bool,((zi1 g x oc).2 && decide ((zi1 g x oc).1.fv=zii oc.fb))=b→Ending.returned (Value.bool b) = .returned (.bool (zd3 g x oc)) from fun b hb=>by unfold zd3;rw [hb])
 go_enter Tryz.func55,Tryz.ntmps55
 (go_wp2_with fail);refine (HA.out _ (Below.refl _ _)).mono ?_;rintro e w2 ⟨rfl,hb2⟩
 have p0:w2.cell? ⟨w.heap.size+2,0,none⟩=some (.int .i64 oc.fb):=(hb2.cell (p:=⟨w.heap.size+2,0,none⟩) yg).trans (by go_simp)
 have HB2:=yq (HB.out.trans (hb2.mono HB.out.size))
 have hsz2:w.heap.size+3≤w2.heap.size:=by have:=hb2.size;simp at this;omega
 have hlt2:w.heap.size+2 < w2.heap.size:=by omega
 clear hb2 HA;generalize zi1 g x oc=f at *;obtain ⟨⟨f1,f2,f3,f4⟩,f5⟩:=f
 dsimp only at FIN ⊢
 cases f5
 ·go_wp2_with fail
  go_quiet ((go_at_call 93;exact Calls.quiet_of_same ((zeb oc.fb _).mono fun _ _ h=>⟨h.1,h.2.symm⟩)))
  go_wp2;go_ret
  exact ⟨FIN.out _ rfl,(by repeat (first|(with_reducible exact HB2.out)|(with_reducible apply Below.drew)|(with_reducible refine below_drewN ?_ _)|(refine Below.setCell ?_ yh _)|(refine Below.alloc ?_ yh _)))⟩
 ·by_cases h3:f3=zii oc.fb
  ·have hd:(f3 == zii oc.fb)=true:=by rw [h3];simp
   have FM:=yq (FIN.out true (by simp [h3]))
   clear FIN h3;have HM:=yq (zeb oc.fb);generalize zii oc.fb=mu at *;(go_wp2_with fail)
   go_quiet ((go_at_call 93;exact Calls.quiet_of_same ((HM.out _).mono fun _ _ h=>⟨h.1,h.2.symm⟩)))
   go_wp2;go_ret
   exact ⟨FM.out,(by repeat (first|(with_reducible exact HB2.out)|(with_reducible apply Below.drew)|(with_reducible refine below_drewN ?_ _)|(refine Below.setCell ?_ yh _)|(refine Below.alloc ?_ yh _)))⟩
  ·have hd:(f3 == zii oc.fb)=false:=by simpa using h3
   have FM:=yq (FIN.out false (by simp [h3]))
   clear FIN h3;have HM:=yq (zeb oc.fb);generalize zii oc.fb=mu at *;(go_wp2_with fail)
   go_quiet ((go_at_call 93;exact Calls.quiet_of_same ((HM.out _).mono fun _ _ h=>⟨h.1,h.2.symm⟩)))
   go_wp2;go_ret
   exact ⟨FM.out,(by repeat (first|(with_reducible exact HB2.out)|(with_reducible apply Below.drew)|(with_reducible refine below_drewN ?_ _)|(refine Below.setCell ?_ yh _)|(refine Below.alloc ?_ yh _)))⟩
end Go.Proofs.YtmbaajangkmjdaaGreat
