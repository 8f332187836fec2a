/-
  spec.l9Copy: a rule copied, in memory of its own.
  The rule of a name: FindRule of the model, ruleNamed of the program.
  The equation of an occurrence: FindEquation of the model, equationAt of the program.
-/
import Derived.Test.YtmbaajangkmjdaaGreatZCopyE
import Derived.Test.YtmbaajangkmjdaaGreatZz10
import Derived.Deep.MidRow
import Derived.Test.YtmbaajangkmjdaaGreatZz8
set_option maxHeartbeats 6400000
set_option maxRecDepth 100000
namespace Go.Proofs.YtmbaajangkmjdaaGreat
open Go.ChangeShapes Go.WideShapes Go.ChangeAt Go.RowKit Go.Deep
theorem zdb {w:World} {c c':Array Value} {t:TypeId} {g:Nat} (h:g=w.heap.size):(w.alloc (.cells c t)).setRow g c'=w.alloc (.cells c' t):=by subst h;exact World.setRow_alloc_new _ _ _ _
theorem znn {lo hi n len:Nat} {f:Nat→Nat→Ct} {a:Option Addr} {w w':World} {F:Nat→Prop} (h:Sl lo hi w n len f a) (hk:Kept F w w') (hF : ∀ b,lo≤b→b < hi→F b) (hh:hi≤w.heap.size):Sl lo hi w' n len f a :=
 h.frame fun b o h1 h2=>hk.cell (p:=⟨b,o,none⟩) (hF b h1 h2) (Nat.lt_of_lt_of_le h2 hh)
theorem zk1 {x y:ByteArray} (h:x.toList=y.toList):x=y:=by
 rw [Lib.toList_data,Lib.toList_data] at h
 cases x;cases y
 simp only at h
 rw [ByteArray.mk.injEq];exact Array.toList_inj.1 h
def PRu (nm:ByteArray) (y:DRule):Bool:=y.fa.toList == nm.toList
theorem zqs {nm:ByteArray} {y:DRule} (h:y.fa=nm):PRu nm y=true:=by unfold PRu;rw [h];simp
theorem zwv {nm:ByteArray} {y:DRule} (h:y.fa≠nm):PRu nm y=false:=beq_eq_false_iff_ne.2 (fun e=>h (zk1 e))
def zvl:DRule:=⟨⟨#[]⟩,⟨#[]⟩,[],false,[],[]⟩
def zqf (l:List DRule) (nm:ByteArray):DRule:=if 0≤idxI (PRu nm) l then l.getD (idxI (PRu nm) l).toNat default else zvl
def zjd (l:List DRule) (nm:ByteArray):Bool:=decide (0≤idxI (PRu nm) l)
theorem zvu {l:List DRule} {nm:ByteArray} {k:Nat} (h:idxI (PRu nm) l=k):zqf l nm=l.getD k default:=by unfold zqf;rw [h,if_pos (by omega),Int.toNat_natCast]
theorem zvz {l:List DRule} {nm:ByteArray} {k:Nat} (h:idxI (PRu nm) l=k):zjd l nm=true:=by unfold zjd;rw [h];exact decide_eq_true (by omega)
theorem zs1 {l:List DRule} {nm:ByteArray} (h:idxI (PRu nm) l = -1):zqf l nm=zvl:=by unfold zqf;rw [h,if_neg (by omega)]
theorem ztf {l:List DRule} {nm:ByteArray} (h:idxI (PRu nm) l = -1):zjd l nm=false:=by unfold zjd;rw [h];exact decide_eq_false (by omega)
def zks (lo hi:Nat) (x:DRule) (b:Bool) (w':World) (e:Ending):Prop :=
 ∃ r2 r4 r5 q2 q4 q5,e = .returned (.tuple #[.agg #[.string x.fa,.string x.fp,.slice r2 x.fj.length q2,.bool x.fq,.slice r4 x.fg.length q4,.slice r5 x.fo.length q5],.bool b])∧Sl lo hi w' 1 x.fj.length (fun k=>ictS (x.fj.getD k default)) r2∧Sl lo hi w' 9 x.fg.length (fun k=>DEquation.ct (x.fg.getD k default)) r4∧Sl lo hi w' 16 x.fo.length (fun k=>DContribution.ct (x.fo.getD k default)) r5
theorem zms {lo hi n0 c0 c1:Nat} {a0 a1:Option Addr} (l:List DRule) (hz:lsz DRule.sz l≤1048576) (nm:ByteArray) (w:World) (hhi:hi≤w.heap.size) (hs:Sl lo hi w 6 l.length (fun k=>DRule.ct (l.getD k default)) a1) :
  Calls Tryz.prog 48 #[.agg #[.slice a0 n0 c0,.slice a1 l.length c1],.string nm] w fun e w'=>zks lo hi (zqf l nm) (zjd l nm) w' e∧Below w.heap.size w w':=by
 have hn:l.length≤1048576:=by unfold lsz at hz;omega
 have HB:=yq (((Below.refl w.heap.size w).alloc (Nat.le_refl _) (.cells #[.slice a0 n0 c0,.slice a1 l.length c1] 32)).alloc ye (.cells #[.string ⟨#[]⟩,.string ⟨#[]⟩,.slice none 0 0,.bool false,.slice none 0 0,.slice none 0 0] 50))
 have HSZ:=yq (show ((w.alloc (.cells #[.slice a0 n0 c0,.slice a1 l.length c1] 32)).alloc (.cells #[.string ⟨#[]⟩,.string ⟨#[]⟩,.slice none 0 0,.bool false,.slice none 0 0,.slice none 0 0] 50)).heap.size=w.heap.size+2 by simp)
 have HX:=yq (show ((w.alloc (.cells #[.slice a0 n0 c0,.slice a1 l.length c1] 32)).alloc (.cells #[.string ⟨#[]⟩,.string ⟨#[]⟩,.slice none 0 0,.bool false,.slice none 0 0,.slice none 0 0] 50)).cell? ⟨w.heap.size,1,none⟩=some (.slice a1 l.length c1) by go_simp)
 have HG:=yq (show ((w.alloc (.cells #[.slice a0 n0 c0,.slice a1 l.length c1] 32)).alloc (.cells #[.string ⟨#[]⟩,.string ⟨#[]⟩,.slice none 0 0,.bool false,.slice none 0 0,.slice none 0 0] 50)).heap[w.heap.size+1]? = some (.cells #[.string ⟨#[]⟩,.string ⟨#[]⟩,.slice none 0 0,.bool false,.slice none 0 0,.slice none 0 0] 50) from ze (by simp))
 have HS:=yq (hs.later HB.out hhi);have HHI:=yq hhi;have HZ:=yq hz;clear hs hhi hz
 go_enter Tryz.func48,Tryz.ntmps48
 go_wp2
 go_loopw [11] (fun i wr=>∃ k:Nat,k≤l.length∧i = .int .i64 (k:Int)∧zah (PRu nm) l k∧Below (w.heap.size+2) ((w.alloc (.cells #[.slice a0 n0 c0,.slice a1 l.length c1] 32)).alloc (.cells #[.string ⟨#[]⟩,.string ⟨#[]⟩,.slice none 0 0,.bool false,.slice none 0 0,.slice none 0 0] 50)) wr) (fun i _=>l.length - (intOf i).toNat)
 case atStart=>exact ⟨0,Nat.zero_le _,rfl,zx _ _,Below.refl _ _⟩
 case round =>
  obtain ⟨k,hk,rfl,hno,hbl⟩:=hrel;have HN:=yq hno;have HBL:=yq hbl
  have hsz1:w.heap.size+2≤wr.heap.size:=by have:=hbl.size;rw [HSZ.out] at this;exact this
  have hw1:w.heap.size+1 < wr.heap.size:=by omega
  have HGR:=yq ((hbl.block (w.heap.size+1) (by omega)).trans HG.out)
  clear hno hbl
  by_cases hlt:k < l.length
  ·obtain ⟨b,off,rfl,_,hbh,hc⟩:=(HS.out.later (HBL.out.mono (Nat.le_trans HHI.out (by omega))) (Nat.le_refl _)).at k hlt
   obtain ⟨a2,d2,a4,d4,a5,d5,hc0,hc1,hc2,hc3,hc4,hc5,hs2,hs4,hs5⟩:=DRule.open hc;clear hc
   by_cases he:(l.getD k default).fa=nm
   ·have hix:=zdh (p:=PRu nm) hlt (zqs he) HN.out
    have fin:=yq (show ∀ w' e,zks lo hi (zqf l nm) (zjd l nm) w' e=zks lo hi (l.getD k default) true w' e from fun w' e=>by rw [zvu hix,zvz hix])
    have e1:((l.getD k default).fa.toList == nm.toList)=true:=zqs he;have HS2:=yq hs2;have HS4:=yq hs4;have HS5:=yq hs5;clear he hix hs2 hs4 hs5;generalize hx:l.getD k default=x at *;clear hx
    have HBN:=yq (show (wr.alloc (.cells #[.string x.fa,.string x.fp,.slice a2 x.fj.length d2,.bool x.fq,.slice a4 x.fg.length d4,.slice a5 x.fo.length d5] 50)).heap[wr.heap.size]? = some (.cells #[.string x.fa,.string x.fp,.slice a2 x.fj.length d2,.bool x.fq,.slice a4 x.fg.length d4,.slice a5 x.fo.length d5] 50) from ze rfl)
    have HGR1:=yq (show (wr.alloc (.cells #[.string x.fa,.string x.fp,.slice a2 x.fj.length d2,.bool x.fq,.slice a4 x.fg.length d4,.slice a5 x.fo.length d5] 50)).heap[w.heap.size+1]? = some (.cells #[.string ⟨#[]⟩,.string ⟨#[]⟩,.slice none 0 0,.bool false,.slice none 0 0,.slice none 0 0] 50) from zn hw1 HGR.out)
    go_wp2_with (first
     | (refine wpList_store_rowTo rfl 50 (.tmp 7) (.tmp 14) rfl rfl wr.heap.size _ rfl rfl 50 _ (ze rfl) (by kernel_rfl) rfl (by simp [Value.oneCell']) ?_;rw [zdb rfl])
     | (refine wpList_load_row rfl 50 (.tmp 7) rfl wr.heap.size rfl 50 _ _ _ HBN.out Tryz.underlying50 rfl (by kernel_rfl) ?_)
     | (refine wpList_store_rowTo rfl 50 (.tmp 4) (.tmp 19) rfl rfl (w.heap.size+1) _ rfl rfl 50 _ HGR1.out (by kernel_rfl) rfl (by simp [Value.oneCell']) ?_))
    refine bodyPost_ret (v:=.tuple #[.agg #[.string x.fa,.string x.fp,.slice a2 x.fj.length d2,.bool x.fq,.slice a4 x.fg.length d4,.slice a5 x.fo.length d5],.bool true]) (zy Tryz.results48 _ _ (w.heap.size+1) 50 #[.string x.fa,.string x.fp,.slice a2 x.fj.length d2,.bool x.fq,.slice a4 x.fg.length d4,.slice a5 x.fo.length d5] (0,0) _ rfl (setRow_heap _ _ _ _ _ _ HGR1.out) Tryz.underlying50 rfl (by kernel_rfl)) rfl ⟨?_,?_⟩
    ·rw [fin.out]
     have hh:=HHI.out
     have hkf:Kept (fun z=>z < hi) wr ((wr.alloc (.cells #[.string x.fa,.string x.fp,.slice a2 x.fj.length d2,.bool x.fq,.slice a4 x.fg.length d4,.slice a5 x.fo.length d5] 50)).setRow (w.heap.size+1) #[.string x.fa,.string x.fp,.slice a2 x.fj.length d2,.bool x.fq,.slice a4 x.fg.length d4,.slice a5 x.fo.length d5]):=zef (Kept.of_below ((Below.refl _ _).alloc (Nat.le_refl _) _) (fun z h=>by have:z < hi:=h;omega)) (by show ¬ w.heap.size+1 < hi;omega)
     exact ⟨_,_,_,_,_,_,rfl,znn HS2.out hkf (fun b _ h=>h) (by omega),znn HS4.out hkf (fun b _ h=>h) (by omega),znn HS5.out hkf (fun b _ h=>h) (by omega)⟩
    ·exact zbz ((HB.out.trans (HBL.out.mono (show w.heap.size≤w.heap.size+2 by omega))).alloc (by omega) _) (by omega) _
   ·have HN2:=yq (zt HN.out (k:=k) (zwv he))
    have e2:((l.getD k default).fa.toList == nm.toList)=false:=zwv he;clear he hs2 hs4 hs5;generalize hx:l.getD k default=x at *;clear hx
    go_wp2_with (refine wpList_store_rowTo rfl 50 (.tmp 7) (.tmp 14) rfl rfl wr.heap.size _ rfl rfl 50 _ (ze rfl) (by kernel_rfl) rfl (by simp [Value.oneCell']) ?_;rw [zdb rfl])
    go_roundw
    case rel=>exact ⟨k+1,by omega,by go_num,HN2.out,HBL.out.alloc (by omega) _⟩
    case measure=>simp [intOf];omega
  ·obtain rfl:k=l.length:=by omega
   have hix:=zbh (p:=PRu nm) HN.out
   have fin:=yq (show ∀ w' e,zks lo hi (zqf l nm) (zjd l nm) w' e=zks lo hi zvl false w' e from fun w' e=>by rw [zs1 hix,ztf hix])
   clear hix
   go_wp2_with (first|(refine wpList_buildTo rfl 50 _ rfl (some 21) rfl #[.string ⟨#[]⟩,.string ⟨#[]⟩,.slice none 0 0,.bool false,.slice none 0 0,.slice none 0 0] (by kernel_rfl) ?_)|(refine wpList_store_rowTo rfl 50 (.tmp 4) (.tmp 21) rfl rfl (w.heap.size+1) #[.string ⟨#[]⟩,.string ⟨#[]⟩,.slice none 0 0,.bool false,.slice none 0 0,.slice none 0 0] rfl rfl 50 _ HGR.out (by kernel_rfl) rfl (by kernel_rfl) ?_))
   refine bodyPost_ret (v:=.tuple #[.agg #[.string ⟨#[]⟩,.string ⟨#[]⟩,.slice none 0 0,.bool false,.slice none 0 0,.slice none 0 0],.bool false]) (zy Tryz.results48 _ _ (w.heap.size+1) 50 #[.string ⟨#[]⟩,.string ⟨#[]⟩,.slice none 0 0,.bool false,.slice none 0 0,.slice none 0 0] (0,0) _ rfl (setRow_heap _ _ _ _ _ _ HGR.out) Tryz.underlying50 rfl (by kernel_rfl)) rfl ⟨?_,?_⟩
   ·rw [fin.out]
    exact ⟨none,none,none,0,0,0,rfl,Sl.nil,Sl.nil,Sl.nil⟩
   ·exact zbz (HB.out.trans (HBL.out.mono (show w.heap.size≤w.heap.size+2 by omega))) (by omega) _
theorem DEquation.openS {lo hi b o:Nat} {w:World} {x:DEquation} (h : ∀ j,j < 9 → ∃ u,w.cell? ⟨b,o+j,none⟩=some u∧Soft lo hi w (x.ct j) u) :
  ∃ a8 c8,w.cell? ⟨b,o,none⟩=some (.int .i64 x.fAt.fb)∧w.cell? ⟨b,o+1,none⟩=some (.string x.fAt.fa)∧w.cell? ⟨b,o+2,none⟩=some (.int .i64 x.fi.fh)∧w.cell? ⟨b,o+3,none⟩=some (.int .i64 x.fi.fN)∧w.cell? ⟨b,o+4,none⟩=some (.int .i64 x.fi.fb)∧w.cell? ⟨b,o+5,none⟩=some (.int .i64 x.fi.fk)∧w.cell? ⟨b,o+6,none⟩=some (.string x.fi.fd)∧w.cell? ⟨b,o+7,none⟩=some (.string x.fi.fa)∧w.cell? ⟨b,o+8,none⟩=some (.slice a8 x.fi.fc.length c8)∧Sf lo hi w 7 x.fi.fc.length (ctE x.fi.fc) a8:=by
 obtain ⟨u0,hc0,hl0⟩:=h 0 (by decide)
 obtain rfl:=zv hl0
 obtain ⟨u1,hc1,hl1⟩:=h 1 (by decide)
 obtain rfl:=zv hl1
 obtain ⟨u2,hc2,hl2⟩:=h 2 (by decide)
 obtain rfl:=zv hl2
 obtain ⟨u3,hc3,hl3⟩:=h 3 (by decide)
 obtain rfl:=zv hl3
 obtain ⟨u4,hc4,hl4⟩:=h 4 (by decide)
 obtain rfl:=zv hl4
 obtain ⟨u5,hc5,hl5⟩:=h 5 (by decide)
 obtain rfl:=zv hl5
 obtain ⟨u6,hc6,hl6⟩:=h 6 (by decide)
 obtain rfl:=zv hl6
 obtain ⟨u7,hc7,hl7⟩:=h 7 (by decide)
 obtain rfl:=zv hl7
 obtain ⟨u8,hc8,hl8⟩:=h 8 (by decide)
 obtain ⟨a8,c8,rfl,hs8⟩:=zeg hl8;exact ⟨a8,c8,hc0,hc1,hc2,hc3,hc4,hc5,hc6,hc7,hc8,hs8⟩
def PEqn (oc:DOccurrence) (y:DEquation):Bool:=zbx oc y.fAt
def zso:DExpr:=⟨0,0,0,0,⟨#[]⟩,⟨#[]⟩,[]⟩
def eqnE (l:List DEquation) (oc:DOccurrence):DExpr:=if 0≤idxI (PEqn oc) l then (l.getD (idxI (PEqn oc) l).toNat default).fi else zso
def eqnB (l:List DEquation) (oc:DOccurrence):Bool:=decide (0≤idxI (PEqn oc) l)
theorem zuf {l:List DEquation} {oc:DOccurrence} {k:Nat} (h:idxI (PEqn oc) l=k):eqnE l oc=(l.getD k default).fi:=by unfold eqnE;rw [h,if_pos (by omega),Int.toNat_natCast]
theorem zvi {l:List DEquation} {oc:DOccurrence} {k:Nat} (h:idxI (PEqn oc) l=k):eqnB l oc=true:=by unfold eqnB;rw [h];exact decide_eq_true (by omega)
theorem zp3 {l:List DEquation} {oc:DOccurrence} (h:idxI (PEqn oc) l = -1):eqnE l oc=zso:=by unfold eqnE;rw [h,if_neg (by omega)]
theorem zp7 {l:List DEquation} {oc:DOccurrence} (h:idxI (PEqn oc) l = -1):eqnB l oc=false:=by unfold eqnB;rw [h];exact decide_eq_false (by omega)
def zpe (B:Nat) (x:DExpr) (b:Bool) (w':World) (e:Ending):Prop :=
 ∃ r q,e = .returned (.tuple #[.agg #[.int .i64 x.fh,.int .i64 x.fN,.int .i64 x.fb,.int .i64 x.fk,.string x.fd,.string x.fa,.slice r x.fc.length q],.bool b])∧Own w' (fun y=>B≤y∧y < w'.heap.size) (.sl 7 x.fc.length (ctE x.fc)) (.slice r x.fc.length q)
def zpm (lo hi:Nat) (x:DExpr) (b:Bool) (w':World) (e:Ending):Prop :=
 ∃ r q,e = .returned (.tuple #[.agg #[.int .i64 x.fh,.int .i64 x.fN,.int .i64 x.fb,.int .i64 x.fk,.string x.fd,.string x.fa,.slice r x.fc.length q],.bool b])∧Sf lo hi w' 7 x.fc.length (ctE x.fc) r
theorem zhg {lo hi:Nat} {b2 b4 b5:Option Addr} {c1_0 c1_1 c1_2:Nat} (x:DRule) (hszx:x.sz≤1048576) (oc:DOccurrence) (w:World) (hhi:hi≤w.heap.size) (hs:Sl lo hi w 9 x.fg.length (fun k=>DEquation.ct (x.fg.getD k default)) b4) :
  Calls Tryz.prog 69 #[.agg #[.string x.fa,.string x.fp,.slice b2 x.fj.length c1_0,.bool x.fq,.slice b4 x.fg.length c1_1,.slice b5 x.fo.length c1_2],.agg #[.int .i64 oc.fb,.string oc.fa]] w fun e w'=>zpe w.heap.size (eqnE x.fg oc) (eqnB x.fg oc) w' e∧Below w.heap.size w w':=by
 have hz:lsz DEquation.sz x.fg≤1048576:=by unfold DRule.sz at hszx;omega
 have hn:x.fg.length≤1048576:=by unfold lsz at hz;omega
 have HB:=yq ((((Below.refl w.heap.size w).alloc (Nat.le_refl _) (.cells #[.string x.fa,.string x.fp,.slice b2 x.fj.length c1_0,.bool x.fq,.slice b4 x.fg.length c1_1,.slice b5 x.fo.length c1_2] 50)).alloc (by simp) (.cells #[.int .i64 oc.fb,.string oc.fa] 87)).alloc ye (.cells #[.int .i64 0,.int .i64 0,.int .i64 0,.int .i64 0,.string ⟨#[]⟩,.string ⟨#[]⟩,.slice none 0 0] 90))
 have HSZ:=yq (show (((w.alloc (.cells #[.string x.fa,.string x.fp,.slice b2 x.fj.length c1_0,.bool x.fq,.slice b4 x.fg.length c1_1,.slice b5 x.fo.length c1_2] 50)).alloc (.cells #[.int .i64 oc.fb,.string oc.fa] 87)).alloc (.cells #[.int .i64 0,.int .i64 0,.int .i64 0,.int .i64 0,.string ⟨#[]⟩,.string ⟨#[]⟩,.slice none 0 0] 90)).heap.size=w.heap.size+3 by simp)
 have HX:=yq (show (((w.alloc (.cells #[.string x.fa,.string x.fp,.slice b2 x.fj.length c1_0,.bool x.fq,.slice b4 x.fg.length c1_1,.slice b5 x.fo.length c1_2] 50)).alloc (.cells #[.int .i64 oc.fb,.string oc.fa] 87)).alloc (.cells #[.int .i64 0,.int .i64 0,.int .i64 0,.int .i64 0,.string ⟨#[]⟩,.string ⟨#[]⟩,.slice none 0 0] 90)).cell? ⟨w.heap.size,4,none⟩=some (.slice b4 x.fg.length c1_1) by go_simp)
 have HX0:=yq (show (((w.alloc (.cells #[.string x.fa,.string x.fp,.slice b2 x.fj.length c1_0,.bool x.fq,.slice b4 x.fg.length c1_1,.slice b5 x.fo.length c1_2] 50)).alloc (.cells #[.int .i64 oc.fb,.string oc.fa] 87)).alloc (.cells #[.int .i64 0,.int .i64 0,.int .i64 0,.int .i64 0,.string ⟨#[]⟩,.string ⟨#[]⟩,.slice none 0 0] 90)).cell? ⟨w.heap.size+1,0,none⟩=some (.int .i64 oc.fb) by go_simp)
 have HX1:=yq (show (((w.alloc (.cells #[.string x.fa,.string x.fp,.slice b2 x.fj.length c1_0,.bool x.fq,.slice b4 x.fg.length c1_1,.slice b5 x.fo.length c1_2] 50)).alloc (.cells #[.int .i64 oc.fb,.string oc.fa] 87)).alloc (.cells #[.int .i64 0,.int .i64 0,.int .i64 0,.int .i64 0,.string ⟨#[]⟩,.string ⟨#[]⟩,.slice none 0 0] 90)).cell? ⟨w.heap.size+1,1,none⟩=some (.string oc.fa) by go_simp)
 have HG:=yq (show (((w.alloc (.cells #[.string x.fa,.string x.fp,.slice b2 x.fj.length c1_0,.bool x.fq,.slice b4 x.fg.length c1_1,.slice b5 x.fo.length c1_2] 50)).alloc (.cells #[.int .i64 oc.fb,.string oc.fa] 87)).alloc (.cells #[.int .i64 0,.int .i64 0,.int .i64 0,.int .i64 0,.string ⟨#[]⟩,.string ⟨#[]⟩,.slice none 0 0] 90)).heap[w.heap.size+2]? = some (.cells #[.int .i64 0,.int .i64 0,.int .i64 0,.int .i64 0,.string ⟨#[]⟩,.string ⟨#[]⟩,.slice none 0 0] 90) from ze (by simp))
 have HS:=yq (hs.later HB.out hhi);have HHI:=yq hhi;have HZ:=yq hz;clear hs hhi hz hszx
 go_enter Tryz.func69,Tryz.ntmps69
 go_wp2
 go_loopw [6] (fun i wr=>∃ k:Nat,k≤x.fg.length∧i = .int .i64 (k:Int)∧zah (PEqn oc) x.fg k∧Below (w.heap.size+3) (((w.alloc (.cells #[.string x.fa,.string x.fp,.slice b2 x.fj.length c1_0,.bool x.fq,.slice b4 x.fg.length c1_1,.slice b5 x.fo.length c1_2] 50)).alloc (.cells #[.int .i64 oc.fb,.string oc.fa] 87)).alloc (.cells #[.int .i64 0,.int .i64 0,.int .i64 0,.int .i64 0,.string ⟨#[]⟩,.string ⟨#[]⟩,.slice none 0 0] 90)) wr) (fun i _=>x.fg.length - (intOf i).toNat)
 case atStart=>exact ⟨0,Nat.zero_le _,rfl,zx _ _,Below.refl _ _⟩
 case round =>
  obtain ⟨k,hk,rfl,hno,hbl⟩:=hrel;have HN:=yq hno;have HBL:=yq hbl
  have hsz1:w.heap.size+3≤wr.heap.size:=by have:=hbl.size;rw [HSZ.out] at this;exact this
  have hw1:w.heap.size+2 < wr.heap.size:=by omega
  have HGR:=yq ((hbl.block (w.heap.size+2) (by omega)).trans HG.out)
  have hx1:wr.cell? ⟨w.heap.size,4,none⟩=some (.slice b4 x.fg.length c1_1):=(hbl.cell (p:=⟨w.heap.size,4,none⟩) (show w.heap.size < w.heap.size+3 by omega)).trans HX.out
  have x0:wr.cell? ⟨w.heap.size+1,0,none⟩=some (.int .i64 oc.fb):=(hbl.cell (p:=⟨w.heap.size+1,0,none⟩) (show w.heap.size+1 < w.heap.size+3 by omega)).trans HX0.out
  have x1:wr.cell? ⟨w.heap.size+1,1,none⟩=some (.string oc.fa):=(hbl.cell (p:=⟨w.heap.size+1,1,none⟩) (show w.heap.size+1 < w.heap.size+3 by omega)).trans HX1.out
  have hw2:w.heap.size+1 < wr.heap.size:=by omega
  clear hno hbl
  by_cases hlt:k < x.fg.length
  ·obtain ⟨b,off,rfl,_,hbh,hc⟩:=(HS.out.later (HBL.out.mono (Nat.le_trans HHI.out (by omega))) (Nat.le_refl _)).at k hlt
   obtain ⟨a8,c8,hc0,hc1,hc2,hc3,hc4,hc5,hc6,hc7,hc8,hs8⟩:=DEquation.open hc
   have hbw:b < wr.heap.size:=by have:=HHI.out;omega
   have htI:(0:Int)≤(k:Int)∧(k:Int) < (x.fg.length:Int):=by omega
   clear hc
   by_cases h1:(x.fg.getD k default).fAt.fb=oc.fb
   ·by_cases h2:(x.fg.getD k default).fAt.fa=oc.fa
    ·have hix:=zdh (p:=PEqn oc) hlt (ze2 h1 h2) HN.out
     have fin:=yq (show ∀ (w':World) e,zpe w.heap.size (eqnE x.fg oc) (eqnB x.fg oc) w' e=zpe w.heap.size (x.fg.getD k default).fi true w' e from fun w' e=>by rw [zuf hix,zvi hix])
     have hal:(x.fg.getD k default).fi.sz≤1048576:=Nat.le_trans (by unfold DEquation.sz;omega) (Nat.le_trans (zab (f:=DEquation.sz) x.fg k hlt) HZ.out)
     have HC:=yq (fun (W:World) (hW:Below wr.heap.size wr W)=>(DExpr.ind (P:=zo5) znx (x.fg.getD k default).fi) (c6:=c8) hal W (Nat.le_trans (Nat.le_trans HHI.out (by omega)) hW.size) (hs8.later hW (Nat.le_trans HHI.out (by omega))))
     rw [h1] at hc0;rw [h2] at hc1;clear h1 h2 hix hs8 hal;generalize (x.fg.getD k default).fi=y at *;(go_wp2_with fail)
     go_quiet (fail)
     (go_wp2_with fail)
     refine (HC.out _ (by repeat (first|(with_reducible exact Below.refl _ _)|(with_reducible apply Below.drew)|(with_reducible refine below_drewN ?_ _)))).mono ?_
     rintro e w1 ⟨r,q,rfl,ho9,hb9⟩;have HGR1:=yq ((hb9.block (w.heap.size+2) hw1).trans HGR.out);have HO9:=yq ho9
     have HBW:=yq (HB.out.trans ((HBL.out.trans (Below.trans (show Below wr.heap.size wr _ from by repeat (first|(with_reducible exact Below.refl _ _)|(with_reducible apply Below.drew)|(with_reducible refine below_drewN ?_ _))) (hb9.mono (Nat.le_refl _)) |>.mono hsz1)).mono (show w.heap.size≤w.heap.size+3 by omega)))
     clear hb9 ho9 hx1
     go_wp2_with (refine wpList_store_rowTo rfl 90 (.tmp 4) (.tmp 28) rfl rfl (w.heap.size+2) _ rfl rfl 90 _ HGR1.out (by kernel_rfl) rfl (by simp [Value.oneCell']) ?_)
     refine bodyPost_ret (v:=.tuple #[.agg #[.int .i64 y.fh,.int .i64 y.fN,.int .i64 y.fb,.int .i64 y.fk,.string y.fd,.string y.fa,.slice r y.fc.length q],.bool true]) (zy Tryz.results69 _ _ (w.heap.size+2) 90 #[.int .i64 y.fh,.int .i64 y.fN,.int .i64 y.fb,.int .i64 y.fk,.string y.fd,.string y.fa,.slice r y.fc.length q] (0,0) _ rfl (setRow_heap _ _ _ _ _ _ HGR1.out) Tryz.underlying90 rfl (by kernel_rfl)) rfl ⟨?_,?_⟩
     ·rw [fin.out]
      refine ⟨r,q,rfl,?_⟩
      have hkf:Kept (fun z=>z≠w.heap.size+2) w1 (w1.setRow (w.heap.size+2) #[.int .i64 y.fh,.int .i64 y.fN,.int .i64 y.fb,.int .i64 y.fk,.string y.fd,.string y.fa,.slice r y.fc.length q]):=zef Kept.refl (fun h=>h rfl)
      exact (HO9.out.kept (hkf.sub fun z hz=>by have h:=hz.1;simp at h;omega)).sub fun z hz=>⟨by have h:=hz.1;simp at h;omega,Nat.lt_of_lt_of_le hz.2 hkf.1⟩
     ·exact zbz HBW.out (by omega) _
    ·have HN2:=yq (zt HN.out (k:=k) (p:=PEqn oc) (zem h2))
     have e2:((x.fg.getD k default).fAt.fa.toList == oc.fa.toList)=false:=beq_eq_false_iff_ne.2 (fun e=>h2 (zdd e))
     rw [h1] at hc0;clear h1 h2 hs8 hc2 hc3 hc4 hc5 hc6 hc7 hc8;generalize (x.fg.getD k default).fAt.fa=q at *;(go_wp2_with fail)
     go_quiet (fail)
     go_wp2;go_roundw
     case rel=>exact ⟨k+1,by omega,by go_num,HN2.out,by repeat (first|(with_reducible exact HBL.out)|(with_reducible apply Below.drew)|(with_reducible refine below_drewN ?_ _))⟩
     case measure=>simp [intOf];omega
   ·have HN2:=yq (zt HN.out (k:=k) (p:=PEqn oc) (ze3 h1))
    have e2:((x.fg.getD k default).fAt.fb == oc.fb)=false:=beq_eq_false_iff_ne.2 h1;clear h1 hs8 hc2 hc3 hc4 hc5 hc6 hc7 hc8;generalize (x.fg.getD k default).fAt.fa=q at *;generalize (x.fg.getD k default).fAt.fb=q2 at *;(go_wp2_with fail)
    go_quiet (fail)
    go_wp2;go_roundw
    case rel=>exact ⟨k+1,by omega,by go_num,HN2.out,by repeat (first|(with_reducible exact HBL.out)|(with_reducible apply Below.drew)|(with_reducible refine below_drewN ?_ _))⟩
    case measure=>simp [intOf];omega
  ·obtain rfl:k=x.fg.length:=by omega
   have hix:=zbh (p:=PEqn oc) HN.out
   have fin:=yq (show ∀ (w':World) e,zpe w.heap.size (eqnE x.fg oc) (eqnB x.fg oc) w' e=zpe w.heap.size zso false w' e from fun w' e=>by rw [zp3 hix,zp7 hix])
   clear hix
   go_wp2_with (first|(refine wpList_buildTo rfl 90 _ rfl (some 29) rfl #[.int .i64 0,.int .i64 0,.int .i64 0,.int .i64 0,.string ⟨#[]⟩,.string ⟨#[]⟩,.slice none 0 0] (by kernel_rfl) ?_)|(refine wpList_store_rowTo rfl 90 (.tmp 4) (.tmp 29) rfl rfl (w.heap.size+2) #[.int .i64 0,.int .i64 0,.int .i64 0,.int .i64 0,.string ⟨#[]⟩,.string ⟨#[]⟩,.slice none 0 0] rfl rfl 90 _ HGR.out (by kernel_rfl) rfl (by kernel_rfl) ?_))
   refine bodyPost_ret (v:=.tuple #[.agg #[.int .i64 0,.int .i64 0,.int .i64 0,.int .i64 0,.string ⟨#[]⟩,.string ⟨#[]⟩,.slice none 0 0],.bool false]) (zy Tryz.results69 _ _ (w.heap.size+2) 90 #[.int .i64 0,.int .i64 0,.int .i64 0,.int .i64 0,.string ⟨#[]⟩,.string ⟨#[]⟩,.slice none 0 0] (0,0) _ rfl (setRow_heap _ _ _ _ _ _ HGR.out) Tryz.underlying90 rfl (by kernel_rfl)) rfl ⟨?_,?_⟩
   ·rw [fin.out]
    exact ⟨none,0,rfl,.nil _ _ _ _ _⟩
   ·exact zbz (HB.out.trans (HBL.out.mono (show w.heap.size≤w.heap.size+3 by omega))) (by omega) _
theorem zlh {lo hi:Nat} {b2 b4 b5:Option Addr} {c1_0 c1_1 c1_2:Nat} (x:DRule) (hszx:x.sz≤1048576) (oc:DOccurrence) (w:World) (hhi:hi≤w.heap.size) (hs:Sf lo hi w 9 x.fg.length (fun k=>DEquation.ct (x.fg.getD k default)) b4) :
  Calls Tryz.prog 52 #[.agg #[.string x.fa,.string x.fp,.slice b2 x.fj.length c1_0,.bool x.fq,.slice b4 x.fg.length c1_1,.slice b5 x.fo.length c1_2],.agg #[.int .i64 oc.fb,.string oc.fa]] w fun e w'=>zpm lo hi (eqnE x.fg oc) (eqnB x.fg oc) w' e∧Below w.heap.size w w':=by
 have hz:lsz DEquation.sz x.fg≤1048576:=by unfold DRule.sz at hszx;omega
 have hn:x.fg.length≤1048576:=by unfold lsz at hz;omega
 have HB:=yq ((((Below.refl w.heap.size w).alloc (Nat.le_refl _) (.cells #[.string x.fa,.string x.fp,.slice b2 x.fj.length c1_0,.bool x.fq,.slice b4 x.fg.length c1_1,.slice b5 x.fo.length c1_2] 50)).alloc (by simp) (.cells #[.int .i64 oc.fb,.string oc.fa] 87)).alloc ye (.cells #[.int .i64 0,.int .i64 0,.int .i64 0,.int .i64 0,.string ⟨#[]⟩,.string ⟨#[]⟩,.slice none 0 0] 90))
 have HSZ:=yq (show (((w.alloc (.cells #[.string x.fa,.string x.fp,.slice b2 x.fj.length c1_0,.bool x.fq,.slice b4 x.fg.length c1_1,.slice b5 x.fo.length c1_2] 50)).alloc (.cells #[.int .i64 oc.fb,.string oc.fa] 87)).alloc (.cells #[.int .i64 0,.int .i64 0,.int .i64 0,.int .i64 0,.string ⟨#[]⟩,.string ⟨#[]⟩,.slice none 0 0] 90)).heap.size=w.heap.size+3 by simp)
 have HX:=yq (show (((w.alloc (.cells #[.string x.fa,.string x.fp,.slice b2 x.fj.length c1_0,.bool x.fq,.slice b4 x.fg.length c1_1,.slice b5 x.fo.length c1_2] 50)).alloc (.cells #[.int .i64 oc.fb,.string oc.fa] 87)).alloc (.cells #[.int .i64 0,.int .i64 0,.int .i64 0,.int .i64 0,.string ⟨#[]⟩,.string ⟨#[]⟩,.slice none 0 0] 90)).cell? ⟨w.heap.size,4,none⟩=some (.slice b4 x.fg.length c1_1) by go_simp)
 have HX0:=yq (show (((w.alloc (.cells #[.string x.fa,.string x.fp,.slice b2 x.fj.length c1_0,.bool x.fq,.slice b4 x.fg.length c1_1,.slice b5 x.fo.length c1_2] 50)).alloc (.cells #[.int .i64 oc.fb,.string oc.fa] 87)).alloc (.cells #[.int .i64 0,.int .i64 0,.int .i64 0,.int .i64 0,.string ⟨#[]⟩,.string ⟨#[]⟩,.slice none 0 0] 90)).cell? ⟨w.heap.size+1,0,none⟩=some (.int .i64 oc.fb) by go_simp)
 have HX1:=yq (show (((w.alloc (.cells #[.string x.fa,.string x.fp,.slice b2 x.fj.length c1_0,.bool x.fq,.slice b4 x.fg.length c1_1,.slice b5 x.fo.length c1_2] 50)).alloc (.cells #[.int .i64 oc.fb,.string oc.fa] 87)).alloc (.cells #[.int .i64 0,.int .i64 0,.int .i64 0,.int .i64 0,.string ⟨#[]⟩,.string ⟨#[]⟩,.slice none 0 0] 90)).cell? ⟨w.heap.size+1,1,none⟩=some (.string oc.fa) by go_simp)
 have HG:=yq (show (((w.alloc (.cells #[.string x.fa,.string x.fp,.slice b2 x.fj.length c1_0,.bool x.fq,.slice b4 x.fg.length c1_1,.slice b5 x.fo.length c1_2] 50)).alloc (.cells #[.int .i64 oc.fb,.string oc.fa] 87)).alloc (.cells #[.int .i64 0,.int .i64 0,.int .i64 0,.int .i64 0,.string ⟨#[]⟩,.string ⟨#[]⟩,.slice none 0 0] 90)).heap[w.heap.size+2]? = some (.cells #[.int .i64 0,.int .i64 0,.int .i64 0,.int .i64 0,.string ⟨#[]⟩,.string ⟨#[]⟩,.slice none 0 0] 90) from ze (by simp))
 have HS:=yq (hs.later HB.out hhi);have HHI:=yq hhi;have HZ:=yq hz;clear hs hhi hz hszx
 go_enter Tryz.func52,Tryz.ntmps52
 go_wp2
 go_loopw [11] (fun i wr=>∃ k:Nat,k≤x.fg.length∧i = .int .i64 (k:Int)∧zah (PEqn oc) x.fg k∧Below (w.heap.size+3) (((w.alloc (.cells #[.string x.fa,.string x.fp,.slice b2 x.fj.length c1_0,.bool x.fq,.slice b4 x.fg.length c1_1,.slice b5 x.fo.length c1_2] 50)).alloc (.cells #[.int .i64 oc.fb,.string oc.fa] 87)).alloc (.cells #[.int .i64 0,.int .i64 0,.int .i64 0,.int .i64 0,.string ⟨#[]⟩,.string ⟨#[]⟩,.slice none 0 0] 90)) wr) (fun i _=>x.fg.length - (intOf i).toNat)
 case atStart=>exact ⟨0,Nat.zero_le _,rfl,zx _ _,Below.refl _ _⟩
 case round =>
  obtain ⟨k,hk,rfl,hno,hbl⟩:=hrel;have HN:=yq hno;have HBL:=yq hbl
  have hsz1:w.heap.size+3≤wr.heap.size:=by have:=hbl.size;rw [HSZ.out] at this;exact this
  have hw1:w.heap.size+2 < wr.heap.size:=by omega
  have HGR:=yq ((hbl.block (w.heap.size+2) (by omega)).trans HG.out)
  have hx1:wr.cell? ⟨w.heap.size,4,none⟩=some (.slice b4 x.fg.length c1_1):=(hbl.cell (p:=⟨w.heap.size,4,none⟩) (show w.heap.size < w.heap.size+3 by omega)).trans HX.out
  have x0:wr.cell? ⟨w.heap.size+1,0,none⟩=some (.int .i64 oc.fb):=(hbl.cell (p:=⟨w.heap.size+1,0,none⟩) (show w.heap.size+1 < w.heap.size+3 by omega)).trans HX0.out
  have x1:wr.cell? ⟨w.heap.size+1,1,none⟩=some (.string oc.fa):=(hbl.cell (p:=⟨w.heap.size+1,1,none⟩) (show w.heap.size+1 < w.heap.size+3 by omega)).trans HX1.out
  have hw2:w.heap.size+1 < wr.heap.size:=by omega
  clear hno hbl
  by_cases hlt:k < x.fg.length
  ·obtain ⟨b,off,rfl,_,hbh,_,hc⟩:=(HS.out.later (HBL.out.mono (Nat.le_trans HHI.out (by omega))) (Nat.le_refl _)).at k hlt
   obtain ⟨a8,c8,hc0,hc1,hc2,hc3,hc4,hc5,hc6,hc7,hc8,hs8⟩:=DEquation.openS hc
   have hbw:b < wr.heap.size:=by have:=HHI.out;omega
   have HS8:=yq hs8;clear hc hs8
   by_cases h1:(x.fg.getD k default).fAt.fb=oc.fb
   ·by_cases h2:(x.fg.getD k default).fAt.fa=oc.fa
    ·have hix:=zdh (p:=PEqn oc) hlt (ze2 h1 h2) HN.out
     have fin:=yq (show ∀ w' e,zpm lo hi (eqnE x.fg oc) (eqnB x.fg oc) w' e=zpm lo hi (x.fg.getD k default).fi true w' e from fun w' e=>by rw [zuf hix,zvi hix])
     rw [h1] at hc0;rw [h2] at hc1;clear h1 h2 hix;generalize (x.fg.getD k default).fi=y at *
     have HGR1:=yq (show (wr.alloc (.cells #[.int .i64 oc.fb,.string oc.fa,.int .i64 y.fh,.int .i64 y.fN,.int .i64 y.fb,.int .i64 y.fk,.string y.fd,.string y.fa,.slice a8 y.fc.length c8] 95)).heap[w.heap.size+2]? = some (.cells #[.int .i64 0,.int .i64 0,.int .i64 0,.int .i64 0,.string ⟨#[]⟩,.string ⟨#[]⟩,.slice none 0 0] 90) from zn hw1 HGR.out)
     have HBN:=yq (show (wr.alloc (.cells #[.int .i64 oc.fb,.string oc.fa,.int .i64 y.fh,.int .i64 y.fN,.int .i64 y.fb,.int .i64 y.fk,.string y.fd,.string y.fa,.slice a8 y.fc.length c8] 95)).heap[wr.heap.size]? = some (.cells #[.int .i64 oc.fb,.string oc.fa,.int .i64 y.fh,.int .i64 y.fN,.int .i64 y.fb,.int .i64 y.fk,.string y.fd,.string y.fa,.slice a8 y.fc.length c8] 95) from ze rfl)
     go_wp2_with (first
      | (refine wpList_store_rowTo rfl 95 (.tmp 7) (.tmp 14) rfl rfl wr.heap.size _ rfl rfl 95 _ (ze rfl) (by kernel_rfl) rfl (by simp [Value.oneCell']) ?_;rw [zdb rfl])
      | (refine wpList_store_rowTo rfl 90 (.tmp 4) (.tmp 20) rfl rfl (w.heap.size+2) _ rfl rfl 90 _ HGR1.out (by kernel_rfl) rfl (by simp [Value.oneCell']) ?_))
     refine bodyPost_ret (v:=.tuple #[.agg #[.int .i64 y.fh,.int .i64 y.fN,.int .i64 y.fb,.int .i64 y.fk,.string y.fd,.string y.fa,.slice a8 y.fc.length c8],.bool true]) (zy Tryz.results52 _ _ (w.heap.size+2) 90 #[.int .i64 y.fh,.int .i64 y.fN,.int .i64 y.fb,.int .i64 y.fk,.string y.fd,.string y.fa,.slice a8 y.fc.length c8] (0,0) _ rfl (setRow_heap _ _ _ _ _ _ HGR1.out) Tryz.underlying90 rfl (by kernel_rfl)) rfl ⟨?_,?_⟩
     ·rw [fin.out]
      have hh:=HHI.out
      refine ⟨_,_,rfl,HS8.out.frame fun b' o' h1' h2'=>?_⟩
      have hbe:((wr.alloc (.cells #[.int .i64 oc.fb,.string oc.fa,.int .i64 y.fh,.int .i64 y.fN,.int .i64 y.fb,.int .i64 y.fk,.string y.fd,.string y.fa,.slice a8 y.fc.length c8] 95)).setRow (w.heap.size+2) #[.int .i64 y.fh,.int .i64 y.fN,.int .i64 y.fb,.int .i64 y.fk,.string y.fd,.string y.fa,.slice a8 y.fc.length c8]).heap[b']? = wr.heap[b']?:=(zef (F:=fun z=>z < hi) (Kept.of_below ((Below.refl _ _).alloc (Nat.le_refl _) _) (fun z h=>by have:z < hi:=h;omega)) (by show ¬ w.heap.size+2 < hi;omega)).2 b' h2' (by omega)
      exact ⟨World.cell?_of_block (a:=⟨b',o',none⟩) hbe,World.frozen?_of_block (a:=⟨b',o',none⟩) hbe⟩
     ·exact zbz ((HB.out.trans (HBL.out.mono (show w.heap.size≤w.heap.size+3 by omega))).alloc (by omega) _) (by omega) _
    ·have HN2:=yq (zt HN.out (k:=k) (p:=PEqn oc) (zem h2))
     have e2:((x.fg.getD k default).fAt.fa.toList == oc.fa.toList)=false:=beq_eq_false_iff_ne.2 (fun e=>h2 (zdd e))
     rw [h1] at hc0;clear h1 h2;generalize (x.fg.getD k default).fAt.fa=q at *;generalize (x.fg.getD k default).fi=y at *
     go_wp2_with (refine wpList_store_rowTo rfl 95 (.tmp 7) (.tmp 14) rfl rfl wr.heap.size _ rfl rfl 95 _ (ze rfl) (by kernel_rfl) rfl (by simp [Value.oneCell']) ?_;rw [zdb rfl])
     go_roundw
     case rel=>exact ⟨k+1,by omega,by go_num,HN2.out,HBL.out.alloc (by omega) _⟩
     case measure=>simp [intOf];omega
   ·have HN2:=yq (zt HN.out (k:=k) (p:=PEqn oc) (ze3 h1))
    have e2:((x.fg.getD k default).fAt.fb == oc.fb)=false:=beq_eq_false_iff_ne.2 h1;clear h1;generalize (x.fg.getD k default).fAt.fa=q at *;generalize (x.fg.getD k default).fAt.fb=q2 at *;generalize (x.fg.getD k default).fi=y at *
    go_wp2_with (refine wpList_store_rowTo rfl 95 (.tmp 7) (.tmp 14) rfl rfl wr.heap.size _ rfl rfl 95 _ (ze rfl) (by kernel_rfl) rfl (by simp [Value.oneCell']) ?_;rw [zdb rfl])
    go_roundw
    case rel=>exact ⟨k+1,by omega,by go_num,HN2.out,HBL.out.alloc (by omega) _⟩
    case measure=>simp [intOf];omega
  ·obtain rfl:k=x.fg.length:=by omega
   have hix:=zbh (p:=PEqn oc) HN.out
   have fin:=yq (show ∀ w' e,zpm lo hi (eqnE x.fg oc) (eqnB x.fg oc) w' e=zpm lo hi zso false w' e from fun w' e=>by rw [zp3 hix,zp7 hix])
   clear hix
   go_wp2_with (first|(refine wpList_buildTo rfl 90 _ rfl (some 22) rfl #[.int .i64 0,.int .i64 0,.int .i64 0,.int .i64 0,.string ⟨#[]⟩,.string ⟨#[]⟩,.slice none 0 0] (by kernel_rfl) ?_)|(refine wpList_store_rowTo rfl 90 (.tmp 4) (.tmp 22) rfl rfl (w.heap.size+2) #[.int .i64 0,.int .i64 0,.int .i64 0,.int .i64 0,.string ⟨#[]⟩,.string ⟨#[]⟩,.slice none 0 0] rfl rfl 90 _ HGR.out (by kernel_rfl) rfl (by kernel_rfl) ?_))
   refine bodyPost_ret (v:=.tuple #[.agg #[.int .i64 0,.int .i64 0,.int .i64 0,.int .i64 0,.string ⟨#[]⟩,.string ⟨#[]⟩,.slice none 0 0],.bool false]) (zy Tryz.results52 _ _ (w.heap.size+2) 90 #[.int .i64 0,.int .i64 0,.int .i64 0,.int .i64 0,.string ⟨#[]⟩,.string ⟨#[]⟩,.slice none 0 0] (0,0) _ rfl (setRow_heap _ _ _ _ _ _ HGR.out) Tryz.underlying90 rfl (by kernel_rfl)) rfl ⟨?_,?_⟩
   ·rw [fin.out]
    exact ⟨none,0,rfl,Sf.nil⟩
   ·exact zbz (HB.out.trans (HBL.out.mono (show w.heap.size≤w.heap.size+3 by omega))) (by omega) _
end Go.Proofs.YtmbaajangkmjdaaGreat
