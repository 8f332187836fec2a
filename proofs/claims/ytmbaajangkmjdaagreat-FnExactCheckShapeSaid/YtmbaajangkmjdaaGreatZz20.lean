/-
  IsValidExpr: what a valid node is; isValidNode.
  isValidNode, kind by kind.
-/
import Derived.Test.YtmbaajangkmjdaaGreatZz14
import Derived.Test.YtmbaajangkmjdaaGreatZz7
import Derived.Test.YtmbaajangkmjdaaGreatZz19
set_option maxHeartbeats 6400000
set_option maxRecDepth 100000
namespace Go.Proofs.YtmbaajangkmjdaaGreat
open Go.ChangeShapes Go.WideShapes Go.ChangeAt Go.RowKit Go.Deep
def zx3 (k:Int):Nat:=if k=4 then 2 else if k=5 then 3 else if k=8 then 1 else 0
def Bare (n:ENode):Prop:=n.fc=zx3 n.fh∧(n.fh=3∨n.fh=6∨n.fb=0)∧(n.fh=3∨n.fh=8∨n.fa.toList=[])∧(n.fh=1∨n.fh=4∨n.fN=0)∧(n.fh=1∨n.fk=0)∧(n.fh=8∨n.fd.toList=[])
def okN (n:ENode):Bool :=
 if n.fh=1 then inR n.fk 1 3 && isOf n.fN n.fk && decide (0≤n.fN) else if n.fh=3 then inR n.fb 0 3 && zi n.fa
 else if n.fh=6 then inR n.fb 0 3 else if n.fh=4 then inR n.fN 1 12 else if n.fh=8 then zi n.fd && zi n.fa else true
open Classical in
noncomputable def zk (n:ENode):Bool:=inR n.fh 1 8 && decide (Bare n) && okN n
theorem zj8 {n:ENode} (h:inR n.fh 1 8=false):zk n=false:=by unfold zk;rw [h];rfl
theorem zj {n:ENode} (h : ¬ Bare n):zk n=false:=by classical unfold zk;rw [decide_eq_false h,Bool.and_false];rfl
theorem zcs {n:ENode} (h:okN n=false):zk n=false:=by unfold zk;rw [h,Bool.and_false]
theorem zaz {n:ENode} (h:inR n.fh 1 8=true) (hb:Bare n):zk n=okN n:=by classical unfold zk;rw [h,decide_eq_true hb];simp
theorem zwe {n:ENode} (h:n.fh=1):okN n=(inR n.fk 1 3 && isOf n.fN n.fk && decide (0≤n.fN)):=by unfold okN;rw [if_pos h]
theorem zxm {n:ENode} (h:n.fh=2):okN n=(true):=by unfold okN;rw [if_neg (by omega),if_neg (by omega),if_neg (by omega),if_neg (by omega),if_neg (by omega)]
theorem zvq {n:ENode} (h:n.fh=3):okN n=(inR n.fb 0 3 && zi n.fa):=by unfold okN;rw [if_neg (by omega),if_pos h]
theorem zvj {n:ENode} (h:n.fh=4):okN n=(inR n.fN 1 12):=by unfold okN;rw [if_neg (by omega),if_neg (by omega),if_neg (by omega),if_pos h]
theorem zxo {n:ENode} (h:n.fh=5):okN n=(true):=by unfold okN;rw [if_neg (by omega),if_neg (by omega),if_neg (by omega),if_neg (by omega),if_neg (by omega)]
theorem ztk {n:ENode} (h:n.fh=6):okN n=(inR n.fb 0 3):=by unfold okN;rw [if_neg (by omega),if_neg (by omega),if_pos h]
theorem zw3 {n:ENode} (h:n.fh=7):okN n=(true):=by unfold okN;rw [if_neg (by omega),if_neg (by omega),if_neg (by omega),if_neg (by omega),if_neg (by omega)]
theorem zxk {n:ENode} (h:n.fh=8):okN n=(zi n.fd && zi n.fa):=by unfold okN;rw [if_neg (by omega),if_neg (by omega),if_neg (by omega),if_neg (by omega),if_pos h]
theorem zeq (p:Int) (w:World):Calls Tryz.prog 200 #[.int .i64 p] w fun e w'=>e = .returned (.bool (inR p 0 3))∧w=w':=by
 by_cases h:0≤p
 ·have FIN:=yq (show decide (p≤3)=inR p 0 3 by unfold inR;rw [decide_eq_true h,Bool.true_and])
  go_enter Tryz.func200,Tryz.ntmps200
  go_wp2;go_ret;exact ⟨zh FIN.out,rfl⟩
 ·have FIN:=yq (zcy (n:=p) (a:=0) (b:=3) (Or.inl (by omega)))
  have h1:p < 0:=by omega
  clear h
  go_enter Tryz.func200,Tryz.ntmps200
  go_wp2;go_ret;exact ⟨zh FIN.out.symm,rfl⟩
theorem zkk (a t:Int) (w:World):Calls Tryz.prog 199 #[.int .i64 a,.int .i64 t] w fun e w'=>e = .returned (.bool (inR t 1 3 && isOf a t && decide (0≤a)))∧w=w':=by
 by_cases h:0≤a
 ·by_cases h4:t=4
  ·have FIN:=yq (show (inR t 1 3 && isOf a t && decide (0≤a))=false by rw [zcy (by omega)];rfl)
   subst h4;generalize (inR 4 1 3 && isOf a 4 && decide (0≤a))=r at *
   go_enter Tryz.func199,Tryz.ntmps199
   go_wp2;go_ret;exact ⟨zh FIN.out.symm,rfl⟩
  ·have FIN:=yq (show isOf a t=(inR t 1 3 && isOf a t && decide (0≤a)) by
    rw [decide_eq_true h,Bool.and_true]
    cases hr:inR t 1 3
    ·rw [Bool.false_and]
     refine zuo (zcy ?_)
     rcases (by omega:t < 1∨4 < t∨(1≤t∧t≤3)) with g|g|g
     ·exact Or.inl g
     ·exact Or.inr g
     ·rw [zc5 g.1 g.2] at hr;cases hr
    ·rw [Bool.true_and])
   have e4:(t == 4)=false:=beq_eq_false_iff_ne.2 h4
   have e5:(t != 4)=true:=by rw [bne,e4];rfl
   have HI:=yq (fun W=>zn7 a t W)
   generalize (inR t 1 3 && isOf a t && decide (0≤a))=r at *;generalize isOf a t=r1 at *;clear h4
   go_enter Tryz.func199,Tryz.ntmps199
   (go_wp2_with fail);refine (HI.out _).mono ?_;rintro e w1 ⟨rfl,rfl⟩;go_wp2;go_ret;exact ⟨zh FIN.out,rfl⟩
 ·have FIN:=yq (show (inR t 1 3 && isOf a t && decide (0≤a))=false by rw [decide_eq_false h,Bool.and_false])
  have h1:a < 0:=by omega
  clear h;generalize (inR t 1 3 && isOf a t && decide (0≤a))=r at *
  go_enter Tryz.func199,Tryz.ntmps199
  go_wp2;go_ret;exact ⟨zh FIN.out.symm,rfl⟩
theorem zr5 (w:World):(binOp .neq 167 .nilFunc .nilFunc).run Tryz.prog w = .ok (.bool false) w:=by kernel_rfl
theorem zsu (f:Nat) (w:World):(binOp .neq 167 (.func (.func f) #[] #[]) .nilFunc).run Tryz.prog w = .ok (.bool true) w:=by kernel_rfl
theorem zvp (w:World):(Instr.field 230 (.agg #[.int .i64 0,.int .i64 0,.int .i64 0,.nilFunc]) 3).run Tryz.prog w = .ok .nilFunc w:=by kernel_rfl
theorem zv3 (l r o:Int) (f:Nat) (w:World):(Instr.field 230 (.agg #[.int .i64 l,.int .i64 r,.int .i64 o,.func (.func f) #[] #[]]) 3).run Tryz.prog w = .ok (.func (.func f) #[] #[]) w:=by kernel_rfl
theorem zoe {k:Int} (h:inR k 1 12=false) : ∀ W,Calls Tryz.prog 201 #[.int .i64 k] W fun e w'=>e = .returned (.agg #[.int .i64 0,.int .i64 0,.int .i64 0,.nilFunc])∧Below W.heap.size W w':=by
 refine zgw k ?_
 rcases (by omega:k < 1∨12 < k∨(1≤k∧k≤12)) with g|g|g
 ·exact Or.inl g
 ·exact Or.inr g
 ·rw [zc5 g.1 g.2] at h;cases h
theorem zmv {k:Int} (h:inR k 1 12=true) : ∃ (l r o:Int) (f:Nat),∀ W,Calls Tryz.prog 201 #[.int .i64 k] W fun e w'=>e = .returned (.agg #[.int .i64 l,.int .i64 r,.int .i64 o,.func (.func f) #[] #[]])∧Below W.heap.size W w':=by
 have h1:=zhw.1 h
 rcases (zxs (k:=k)) with g|rfl|rfl|rfl|rfl|rfl|rfl|rfl|rfl|rfl|rfl|rfl|rfl
 ·omega
 ·exact ⟨_,_,_,_,zhp⟩
 ·exact ⟨_,_,_,_,zh2⟩
 ·exact ⟨_,_,_,_,zhq⟩
 ·exact ⟨_,_,_,_,zhm⟩
 ·exact ⟨_,_,_,_,zig⟩
 ·exact ⟨_,_,_,_,zho⟩
 ·exact ⟨_,_,_,_,zhs⟩
 ·exact ⟨_,_,_,_,zij⟩
 ·exact ⟨_,_,_,_,zid⟩
 ·exact ⟨_,_,_,_,zhh⟩
 ·exact ⟨_,_,_,_,zgx⟩
 ·exact ⟨_,_,_,_,zgm⟩
theorem zgz (n:ENode) (hk:n.fh=1) (_:n.fd.size≤1048576) (_:n.fa.size≤1048576) (w:World) :
  Calls Tryz.prog 178 #[.agg #[.int .i64 n.fh,.int .i64 n.fN,.int .i64 n.fb,.int .i64 n.fk,.string n.fd,.string n.fa,.int .i64 (n.fc:Int),.int .i64 (n.fw:Int)]] w fun e w'=>e = .returned (.bool (zk n))∧Below w.heap.size w w':=by
 have HO:=yq (zwe hk)
 have HKR:=yq (show inR n.fh 1 8=true by rw [hk];decide)
 have HY:=yq (show n.fb=0→n.fd.toList=[]→n.fa.toList=[]→n.fc=0→zk n=okN n from fun g2 g4 g5 g6=>zaz HKR.out ⟨(by rw [hk];exact g6),Or.inr (Or.inr (g2)),Or.inr (Or.inr (g5)),Or.inl hk,Or.inl hk,Or.inr (g4)⟩)
 have N2:=yq (show ¬ n.fb=0→zk n=false from fun g=>zj fun hb=>by rcases hb.2.1 with h|h|h<;>first|exact g h|omega)
 have N4:=yq (show ¬ n.fd.toList=[]→zk n=false from fun g=>zj fun hb=>by rcases hb.2.2.2.2.2 with h|h<;>first|exact g h|omega)
 have N5:=yq (show ¬ n.fa.toList=[]→zk n=false from fun g=>zj fun hb=>by rcases hb.2.2.1 with h|h|h<;>first|exact g h|omega)
 have N6:=yq (show ¬ n.fc=0→zk n=false from fun g=>zj fun hb=>by have h:=hb.1;rw [hk] at h;exact g h)
 have NO:=yq (show okN n=false→zk n=false from zcs)
 have HC:=yq (fun W=>zkk n.fN n.fk W)
 rw [← zwe hk] at HC;rw [hk];clear hk HKR;generalize zk n=v at *;generalize okN n=q at *;generalize n.fN=a1 at *;generalize n.fb=a2 at *;generalize n.fk=a3 at *;generalize n.fd=a4 at *;generalize n.fa=a5 at *;generalize n.fc=a6 at *;generalize n.fw=a7 at *
 have HB:=yq (((Below.refl w.heap.size w).alloc (Nat.le_refl _) (.cells #[.int .i64 1,.int .i64 a1,.int .i64 a2,.int .i64 a3,.string a4,.string a5,.int .i64 (a6:Int),.int .i64 (a7:Int)] 131)).alloc (by simp) (.cells #[.int .i64 1,.int .i64 a1,.int .i64 0,.int .i64 a3,.string ⟨#[]⟩,.string ⟨#[]⟩] 129))
 have HBD:=yq (HB.out.drew)
 cases hq:q
 ·have QV:=yq hq
  rw [hq] at HC;clear hq
  go_enter Tryz.func178,Tryz.ntmps178
  (go_wp2_with fail)
  go_region
  all_goals go_wp2_with fail
  all_goals (refine (HC.out _).mono ?_;rintro e w1 ⟨rfl,rfl⟩)
  all_goals go_wp2
  all_goals go_ret
  all_goals
   exact ⟨zh (NO.out QV.out).symm,(yc:Below w.heap.size w _)⟩
 ·have QV:=yq hq
  rw [hq] at HC;clear hq
  have HF:=yq (show a2=0→a4.toList=[]→a5.toList=[]→(((a6:Nat):Int) == 0)=v from fun g2 g4 g5=>by
   by_cases g6:a6=0
   ·rw [HY.out g2 g4 g5 g6,QV.out,g6];rfl
   ·rw [N6.out g6];exact beq_eq_false_iff_ne.2 (by omega))
  go_enter Tryz.func178,Tryz.ntmps178
  (go_wp2_with fail)
  go_region
  all_goals go_wp2_with fail
  all_goals (refine (HC.out _).mono ?_;rintro e w1 ⟨rfl,rfl⟩)
  all_goals go_wp2
  all_goals go_ret
  all_goals
   first
    | (exact ⟨zh (N2.out (by assumption)).symm,(yc:Below w.heap.size w _)⟩)
    | (exact ⟨zh (N4.out (by assumption)).symm,(yc:Below w.heap.size w _)⟩)
    | (exact ⟨zh (N5.out (by assumption)).symm,(yc:Below w.heap.size w _)⟩)
    | (exact ⟨zh (HF.out (by assumption) (by assumption) (by assumption)),(yc:Below w.heap.size w _)⟩)
theorem zgi (n:ENode) (hk:n.fh=2) (_:n.fd.size≤1048576) (_:n.fa.size≤1048576) (w:World) :
  Calls Tryz.prog 178 #[.agg #[.int .i64 n.fh,.int .i64 n.fN,.int .i64 n.fb,.int .i64 n.fk,.string n.fd,.string n.fa,.int .i64 (n.fc:Int),.int .i64 (n.fw:Int)]] w fun e w'=>e = .returned (.bool (zk n))∧Below w.heap.size w w':=by
 have HO:=yq (zxm hk)
 have HKR:=yq (show inR n.fh 1 8=true by rw [hk];decide)
 have HY:=yq (show n.fN=0→n.fb=0→n.fk=0→n.fd.toList=[]→n.fa.toList=[]→n.fc=0→zk n=okN n from fun g1 g2 g3 g4 g5 g6=>zaz HKR.out ⟨(by rw [hk];exact g6),Or.inr (Or.inr (g2)),Or.inr (Or.inr (g5)),Or.inr (Or.inr (g1)),Or.inr (g3),Or.inr (g4)⟩)
 have N1:=yq (show ¬ n.fN=0→zk n=false from fun g=>zj fun hb=>by rcases hb.2.2.2.1 with h|h|h<;>first|exact g h|omega)
 have N2:=yq (show ¬ n.fb=0→zk n=false from fun g=>zj fun hb=>by rcases hb.2.1 with h|h|h<;>first|exact g h|omega)
 have N3:=yq (show ¬ n.fk=0→zk n=false from fun g=>zj fun hb=>by rcases hb.2.2.2.2.1 with h|h<;>first|exact g h|omega)
 have N4:=yq (show ¬ n.fd.toList=[]→zk n=false from fun g=>zj fun hb=>by rcases hb.2.2.2.2.2 with h|h<;>first|exact g h|omega)
 have N5:=yq (show ¬ n.fa.toList=[]→zk n=false from fun g=>zj fun hb=>by rcases hb.2.2.1 with h|h|h<;>first|exact g h|omega)
 have N6:=yq (show ¬ n.fc=0→zk n=false from fun g=>zj fun hb=>by have h:=hb.1;rw [hk] at h;exact g h)
 have NO:=yq (show okN n=false→zk n=false from zcs)
 rw [hk];clear hk HKR;generalize zk n=v at *;generalize okN n=q at *;generalize n.fN=a1 at *;generalize n.fb=a2 at *;generalize n.fk=a3 at *;generalize n.fd=a4 at *;generalize n.fa=a5 at *;generalize n.fc=a6 at *;generalize n.fw=a7 at *
 have QV:=yq (show q=true from HO.out)
 have HB:=yq (((Below.refl w.heap.size w).alloc (Nat.le_refl _) (.cells #[.int .i64 2,.int .i64 a1,.int .i64 a2,.int .i64 a3,.string a4,.string a5,.int .i64 (a6:Int),.int .i64 (a7:Int)] 131)).alloc (by simp) (.cells #[.int .i64 2,.int .i64 0,.int .i64 0,.int .i64 0,.string ⟨#[]⟩,.string ⟨#[]⟩] 129))
 have HBD:=yq (HB.out.drew)
 have HF:=yq (show a1=0→a2=0→a3=0→a4.toList=[]→a5.toList=[]→(((a6:Nat):Int) == 0)=v from fun g1 g2 g3 g4 g5=>by
  by_cases g6:a6=0
  ·rw [HY.out g1 g2 g3 g4 g5 g6,QV.out,g6];rfl
  ·rw [N6.out g6];exact beq_eq_false_iff_ne.2 (by omega))
 go_enter Tryz.func178,Tryz.ntmps178
 go_wp2
 all_goals go_ret
 all_goals
  first
   | (exact ⟨zh (N1.out (by assumption)).symm,(yc:Below w.heap.size w _)⟩)
   | (exact ⟨zh (N2.out (by assumption)).symm,(yc:Below w.heap.size w _)⟩)
   | (exact ⟨zh (N3.out (by assumption)).symm,(yc:Below w.heap.size w _)⟩)
   | (exact ⟨zh (N4.out (by assumption)).symm,(yc:Below w.heap.size w _)⟩)
   | (exact ⟨zh (N5.out (by assumption)).symm,(yc:Below w.heap.size w _)⟩)
   | (exact ⟨zh (HF.out (by assumption) (by assumption) (by assumption) (by assumption) (by assumption)),(yc:Below w.heap.size w _)⟩)
theorem zgr (n:ENode) (hk:n.fh=3) (_:n.fd.size≤1048576) (hs2:n.fa.size≤1048576) (w:World) :
  Calls Tryz.prog 178 #[.agg #[.int .i64 n.fh,.int .i64 n.fN,.int .i64 n.fb,.int .i64 n.fk,.string n.fd,.string n.fa,.int .i64 (n.fc:Int),.int .i64 (n.fw:Int)]] w fun e w'=>e = .returned (.bool (zk n))∧Below w.heap.size w w':=by
 have HO:=yq (zvq hk)
 have HKR:=yq (show inR n.fh 1 8=true by rw [hk];decide)
 have HY:=yq (show n.fN=0→n.fk=0→n.fd.toList=[]→n.fc=0→zk n=okN n from fun g1 g3 g4 g6=>zaz HKR.out ⟨(by rw [hk];exact g6),Or.inl hk,Or.inl hk,Or.inr (Or.inr (g1)),Or.inr (g3),Or.inr (g4)⟩)
 have N1:=yq (show ¬ n.fN=0→zk n=false from fun g=>zj fun hb=>by rcases hb.2.2.2.1 with h|h|h<;>first|exact g h|omega)
 have N3:=yq (show ¬ n.fk=0→zk n=false from fun g=>zj fun hb=>by rcases hb.2.2.2.2.1 with h|h<;>first|exact g h|omega)
 have N4:=yq (show ¬ n.fd.toList=[]→zk n=false from fun g=>zj fun hb=>by rcases hb.2.2.2.2.2 with h|h<;>first|exact g h|omega)
 have N6:=yq (show ¬ n.fc=0→zk n=false from fun g=>zj fun hb=>by have h:=hb.1;rw [hk] at h;exact g h)
 have NO:=yq (show okN n=false→zk n=false from zcs)
 have HC:=yq (fun W=>zeq n.fb W)
 have HD:=yq (fun W=>zai n.fa hs2 W)
 obtain ⟨q1,hq1⟩ : ∃ q1,inR n.fb 0 3=q1:=⟨_,rfl⟩;obtain ⟨q2,hq2⟩ : ∃ q2,zi n.fa=q2:=⟨_,rfl⟩;rw [hq1] at HC HO;rw [hq2] at HD HO;clear hq1 hq2;rw [hk];clear hk HKR;generalize zk n=v at *;generalize okN n=q at *;generalize n.fN=a1 at *;generalize n.fb=a2 at *;generalize n.fk=a3 at *;generalize n.fd=a4 at *;generalize n.fa=a5 at *;generalize n.fc=a6 at *;generalize n.fw=a7 at *
 have HB:=yq (((Below.refl w.heap.size w).alloc (Nat.le_refl _) (.cells #[.int .i64 3,.int .i64 a1,.int .i64 a2,.int .i64 a3,.string a4,.string a5,.int .i64 (a6:Int),.int .i64 (a7:Int)] 131)).alloc (by simp) (.cells #[.int .i64 3,.int .i64 0,.int .i64 a2,.int .i64 0,.string ⟨#[]⟩,.string a5] 129))
 have HBD:=yq (HB.out.drew)
 cases q1
 ·have QV:=yq (show q=false from HO.out.trans rfl)
  go_enter Tryz.func178,Tryz.ntmps178
  (go_wp2_with fail)
  go_region
  all_goals go_wp2_with fail
  all_goals (refine (HC.out _).mono ?_;rintro e w1 ⟨rfl,rfl⟩)
  all_goals go_wp2
  all_goals go_ret
  all_goals exact ⟨zh (NO.out QV.out).symm,HBD.out⟩
 ·cases q2
  ·have QV:=yq (show q=false from HO.out.trans rfl)
   go_enter Tryz.func178,Tryz.ntmps178
   (go_wp2_with fail)
   go_region
   all_goals go_wp2_with fail
   all_goals (refine (HC.out _).mono ?_;rintro e w1 ⟨rfl,rfl⟩)
   all_goals go_wp2_with fail
   refine (HD.out _).mono ?_;rintro e w2 ⟨rfl,hb1⟩
   have cw2_0:w2.cell? ⟨w.heap.size,0,none⟩=some (.int .i64 3):=(hb1.cell (p:=⟨w.heap.size,0,none⟩) yf).trans (by go_simp)
   have cw2_1:w2.cell? ⟨w.heap.size,1,none⟩=some (.int .i64 a1):=(hb1.cell (p:=⟨w.heap.size,1,none⟩) yf).trans (by go_simp)
   have cw2_2:w2.cell? ⟨w.heap.size,2,none⟩=some (.int .i64 a2):=(hb1.cell (p:=⟨w.heap.size,2,none⟩) yf).trans (by go_simp)
   have cw2_3:w2.cell? ⟨w.heap.size,3,none⟩=some (.int .i64 a3):=(hb1.cell (p:=⟨w.heap.size,3,none⟩) yf).trans (by go_simp)
   have cw2_4:w2.cell? ⟨w.heap.size,4,none⟩=some (.string a4):=(hb1.cell (p:=⟨w.heap.size,4,none⟩) yf).trans (by go_simp)
   have cw2_5:w2.cell? ⟨w.heap.size,5,none⟩=some (.string a5):=(hb1.cell (p:=⟨w.heap.size,5,none⟩) yf).trans (by go_simp)
   have cw2_6:w2.cell? ⟨w.heap.size,6,none⟩=some (.int .i64 (a6:Int)):=(hb1.cell (p:=⟨w.heap.size,6,none⟩) yf).trans (by go_simp)
   have cw2_7:w2.cell? ⟨w.heap.size,7,none⟩=some (.int .i64 (a7:Int)):=(hb1.cell (p:=⟨w.heap.size,7,none⟩) yf).trans (by go_simp)
   have cw2_8:w2.cell? ⟨w.heap.size+1,0,none⟩=some (.int .i64 3):=(hb1.cell (p:=⟨w.heap.size+1,0,none⟩) yf).trans (by go_simp)
   have cw2_9:w2.cell? ⟨w.heap.size+1,1,none⟩=some (.int .i64 0):=(hb1.cell (p:=⟨w.heap.size+1,1,none⟩) yf).trans (by go_simp)
   have cw2_10:w2.cell? ⟨w.heap.size+1,2,none⟩=some (.int .i64 a2):=(hb1.cell (p:=⟨w.heap.size+1,2,none⟩) yf).trans (by go_simp)
   have cw2_11:w2.cell? ⟨w.heap.size+1,3,none⟩=some (.int .i64 0):=(hb1.cell (p:=⟨w.heap.size+1,3,none⟩) yf).trans (by go_simp)
   have cw2_12:w2.cell? ⟨w.heap.size+1,4,none⟩=some (.string ⟨#[]⟩):=(hb1.cell (p:=⟨w.heap.size+1,4,none⟩) yf).trans (by go_simp)
   have cw2_13:w2.cell? ⟨w.heap.size+1,5,none⟩=some (.string a5):=(hb1.cell (p:=⟨w.heap.size+1,5,none⟩) yf).trans (by go_simp)
   have HB1:=yq (HBD.out.trans (hb1.mono HBD.out.size));clear hb1;go_wp2
   all_goals go_ret
   all_goals
    exact ⟨zh (NO.out QV.out).symm,HB1.out⟩
  ·have QV:=yq (show q=true from HO.out.trans rfl)
   have HF:=yq (show a1=0→a3=0→a4.toList=[]→(((a6:Nat):Int) == 0)=v from fun g1 g3 g4=>by
    by_cases g6:a6=0
    ·rw [HY.out g1 g3 g4 g6,QV.out,g6];rfl
    ·rw [N6.out g6];exact beq_eq_false_iff_ne.2 (by omega))
   go_enter Tryz.func178,Tryz.ntmps178
   (go_wp2_with fail)
   go_region
   all_goals go_wp2_with fail
   all_goals (refine (HC.out _).mono ?_;rintro e w1 ⟨rfl,rfl⟩)
   all_goals go_wp2_with fail
   refine (HD.out _).mono ?_;rintro e w2 ⟨rfl,hb1⟩
   have cw2_0:w2.cell? ⟨w.heap.size,0,none⟩=some (.int .i64 3):=(hb1.cell (p:=⟨w.heap.size,0,none⟩) yf).trans (by go_simp)
   have cw2_1:w2.cell? ⟨w.heap.size,1,none⟩=some (.int .i64 a1):=(hb1.cell (p:=⟨w.heap.size,1,none⟩) yf).trans (by go_simp)
   have cw2_2:w2.cell? ⟨w.heap.size,2,none⟩=some (.int .i64 a2):=(hb1.cell (p:=⟨w.heap.size,2,none⟩) yf).trans (by go_simp)
   have cw2_3:w2.cell? ⟨w.heap.size,3,none⟩=some (.int .i64 a3):=(hb1.cell (p:=⟨w.heap.size,3,none⟩) yf).trans (by go_simp)
   have cw2_4:w2.cell? ⟨w.heap.size,4,none⟩=some (.string a4):=(hb1.cell (p:=⟨w.heap.size,4,none⟩) yf).trans (by go_simp)
   have cw2_5:w2.cell? ⟨w.heap.size,5,none⟩=some (.string a5):=(hb1.cell (p:=⟨w.heap.size,5,none⟩) yf).trans (by go_simp)
   have cw2_6:w2.cell? ⟨w.heap.size,6,none⟩=some (.int .i64 (a6:Int)):=(hb1.cell (p:=⟨w.heap.size,6,none⟩) yf).trans (by go_simp)
   have cw2_7:w2.cell? ⟨w.heap.size,7,none⟩=some (.int .i64 (a7:Int)):=(hb1.cell (p:=⟨w.heap.size,7,none⟩) yf).trans (by go_simp)
   have cw2_8:w2.cell? ⟨w.heap.size+1,0,none⟩=some (.int .i64 3):=(hb1.cell (p:=⟨w.heap.size+1,0,none⟩) yf).trans (by go_simp)
   have cw2_9:w2.cell? ⟨w.heap.size+1,1,none⟩=some (.int .i64 0):=(hb1.cell (p:=⟨w.heap.size+1,1,none⟩) yf).trans (by go_simp)
   have cw2_10:w2.cell? ⟨w.heap.size+1,2,none⟩=some (.int .i64 a2):=(hb1.cell (p:=⟨w.heap.size+1,2,none⟩) yf).trans (by go_simp)
   have cw2_11:w2.cell? ⟨w.heap.size+1,3,none⟩=some (.int .i64 0):=(hb1.cell (p:=⟨w.heap.size+1,3,none⟩) yf).trans (by go_simp)
   have cw2_12:w2.cell? ⟨w.heap.size+1,4,none⟩=some (.string ⟨#[]⟩):=(hb1.cell (p:=⟨w.heap.size+1,4,none⟩) yf).trans (by go_simp)
   have cw2_13:w2.cell? ⟨w.heap.size+1,5,none⟩=some (.string a5):=(hb1.cell (p:=⟨w.heap.size+1,5,none⟩) yf).trans (by go_simp)
   have HB1:=yq (HBD.out.trans (hb1.mono HBD.out.size));clear hb1;go_wp2
   all_goals go_ret
   all_goals
    first
     | (exact ⟨zh (N1.out (by assumption)).symm,HB1.out⟩)
     | (exact ⟨zh (N3.out (by assumption)).symm,HB1.out⟩)
     | (exact ⟨zh (N4.out (by assumption)).symm,HB1.out⟩)
     | (exact ⟨zh (HF.out (by assumption) (by assumption) (by assumption)),HB1.out⟩)
theorem zhi (n:ENode) (hk:n.fh=4) (_:n.fd.size≤1048576) (_:n.fa.size≤1048576) (w:World) :
  Calls Tryz.prog 178 #[.agg #[.int .i64 n.fh,.int .i64 n.fN,.int .i64 n.fb,.int .i64 n.fk,.string n.fd,.string n.fa,.int .i64 (n.fc:Int),.int .i64 (n.fw:Int)]] w fun e w'=>e = .returned (.bool (zk n))∧Below w.heap.size w w':=by
 have HO:=yq (zvj hk)
 have HKR:=yq (show inR n.fh 1 8=true by rw [hk];decide)
 have HY:=yq (show n.fb=0→n.fk=0→n.fd.toList=[]→n.fa.toList=[]→n.fc=2→zk n=okN n from fun g2 g3 g4 g5 g6=>zaz HKR.out ⟨(by rw [hk];exact g6),Or.inr (Or.inr (g2)),Or.inr (Or.inr (g5)),Or.inr (Or.inl hk),Or.inr (g3),Or.inr (g4)⟩)
 have N2:=yq (show ¬ n.fb=0→zk n=false from fun g=>zj fun hb=>by rcases hb.2.1 with h|h|h<;>first|exact g h|omega)
 have N3:=yq (show ¬ n.fk=0→zk n=false from fun g=>zj fun hb=>by rcases hb.2.2.2.2.1 with h|h<;>first|exact g h|omega)
 have N4:=yq (show ¬ n.fd.toList=[]→zk n=false from fun g=>zj fun hb=>by rcases hb.2.2.2.2.2 with h|h<;>first|exact g h|omega)
 have N5:=yq (show ¬ n.fa.toList=[]→zk n=false from fun g=>zj fun hb=>by rcases hb.2.2.1 with h|h|h<;>first|exact g h|omega)
 have N6:=yq (show ¬ n.fc=2→zk n=false from fun g=>zj fun hb=>by have h:=hb.1;rw [hk] at h;exact g h)
 have NO:=yq (show okN n=false→zk n=false from zcs)
 have HC:=yq (show okN n=true → ∃ (l r o:Int) (f:Nat),∀ W,Calls Tryz.prog 201 #[.int .i64 n.fN] W fun e w'=>e = .returned (.agg #[.int .i64 l,.int .i64 r,.int .i64 o,.func (.func f) #[] #[]])∧Below W.heap.size W w' from fun h=>zmv (by rw [zvj hk] at h;exact h))
 have HC0:=yq (show okN n=false → ∀ W,Calls Tryz.prog 201 #[.int .i64 n.fN] W fun e w'=>e = .returned (.agg #[.int .i64 0,.int .i64 0,.int .i64 0,.nilFunc])∧Below W.heap.size W w' from fun h=>zoe (by rw [zvj hk] at h;exact h))
 rw [hk];clear hk HKR;generalize zk n=v at *;generalize okN n=q at *;generalize n.fN=a1 at *;generalize n.fb=a2 at *;generalize n.fk=a3 at *;generalize n.fd=a4 at *;generalize n.fa=a5 at *;generalize n.fc=a6 at *;generalize n.fw=a7 at *
 have HB:=yq (((Below.refl w.heap.size w).alloc (Nat.le_refl _) (.cells #[.int .i64 4,.int .i64 a1,.int .i64 a2,.int .i64 a3,.string a4,.string a5,.int .i64 (a6:Int),.int .i64 (a7:Int)] 131)).alloc (by simp) (.cells #[.int .i64 4,.int .i64 a1,.int .i64 0,.int .i64 0,.string ⟨#[]⟩,.string ⟨#[]⟩] 129))
 have HBD:=yq (HB.out.drew)
 cases hq:q
 ·have QV:=yq hq
  have hn0:=fun w=>zr5 w
  have hf0:=fun w=>zvp w
  have HC1:=yq (HC0.out hq);clear hq
  go_enter Tryz.func178,Tryz.ntmps178
  (go_wp2_with fail);refine (HC1.out _).mono ?_;rintro e w1 ⟨rfl,hb1⟩
  have cw1_0:w1.cell? ⟨w.heap.size,0,none⟩=some (.int .i64 4):=(hb1.cell (p:=⟨w.heap.size,0,none⟩) yi).trans (by go_simp)
  have cw1_1:w1.cell? ⟨w.heap.size,1,none⟩=some (.int .i64 a1):=(hb1.cell (p:=⟨w.heap.size,1,none⟩) yi).trans (by go_simp)
  have cw1_2:w1.cell? ⟨w.heap.size,2,none⟩=some (.int .i64 a2):=(hb1.cell (p:=⟨w.heap.size,2,none⟩) yi).trans (by go_simp)
  have cw1_3:w1.cell? ⟨w.heap.size,3,none⟩=some (.int .i64 a3):=(hb1.cell (p:=⟨w.heap.size,3,none⟩) yi).trans (by go_simp)
  have cw1_4:w1.cell? ⟨w.heap.size,4,none⟩=some (.string a4):=(hb1.cell (p:=⟨w.heap.size,4,none⟩) yi).trans (by go_simp)
  have cw1_5:w1.cell? ⟨w.heap.size,5,none⟩=some (.string a5):=(hb1.cell (p:=⟨w.heap.size,5,none⟩) yi).trans (by go_simp)
  have cw1_6:w1.cell? ⟨w.heap.size,6,none⟩=some (.int .i64 (a6:Int)):=(hb1.cell (p:=⟨w.heap.size,6,none⟩) yi).trans (by go_simp)
  have cw1_7:w1.cell? ⟨w.heap.size,7,none⟩=some (.int .i64 (a7:Int)):=(hb1.cell (p:=⟨w.heap.size,7,none⟩) yi).trans (by go_simp)
  have cw1_8:w1.cell? ⟨w.heap.size+1,0,none⟩=some (.int .i64 4):=(hb1.cell (p:=⟨w.heap.size+1,0,none⟩) yf).trans (by go_simp)
  have cw1_9:w1.cell? ⟨w.heap.size+1,1,none⟩=some (.int .i64 a1):=(hb1.cell (p:=⟨w.heap.size+1,1,none⟩) yf).trans (by go_simp)
  have cw1_10:w1.cell? ⟨w.heap.size+1,2,none⟩=some (.int .i64 0):=(hb1.cell (p:=⟨w.heap.size+1,2,none⟩) yf).trans (by go_simp)
  have cw1_11:w1.cell? ⟨w.heap.size+1,3,none⟩=some (.int .i64 0):=(hb1.cell (p:=⟨w.heap.size+1,3,none⟩) yf).trans (by go_simp)
  have cw1_12:w1.cell? ⟨w.heap.size+1,4,none⟩=some (.string ⟨#[]⟩):=(hb1.cell (p:=⟨w.heap.size+1,4,none⟩) yf).trans (by go_simp)
  have cw1_13:w1.cell? ⟨w.heap.size+1,5,none⟩=some (.string ⟨#[]⟩):=(hb1.cell (p:=⟨w.heap.size+1,5,none⟩) yf).trans (by go_simp)
  have HB1:=yq (HB.out.trans (hb1.mono HB.out.size));clear hb1;go_wp2
  all_goals go_ret
  all_goals
   exact ⟨zh (NO.out QV.out).symm,HB1.out⟩
 ·have QV:=yq hq
  obtain ⟨l1,r1,o1,f1,hC⟩:=HC.out hq;have HC1:=yq hC;clear hC
  have hn0:=fun w=>zsu f1 w
  have hf0:=fun w=>zv3 l1 r1 o1 f1 w
  clear hq
  have HF:=yq (show a2=0→a3=0→a4.toList=[]→a5.toList=[]→(((a6:Nat):Int) == 2)=v from fun g2 g3 g4 g5=>by
   by_cases g6:a6=2
   ·rw [HY.out g2 g3 g4 g5 g6,QV.out,g6];rfl
   ·rw [N6.out g6];exact beq_eq_false_iff_ne.2 (by omega))
  go_enter Tryz.func178,Tryz.ntmps178
  (go_wp2_with fail);refine (HC1.out _).mono ?_;rintro e w1 ⟨rfl,hb1⟩
  have cw1_0:w1.cell? ⟨w.heap.size,0,none⟩=some (.int .i64 4):=(hb1.cell (p:=⟨w.heap.size,0,none⟩) yi).trans (by go_simp)
  have cw1_1:w1.cell? ⟨w.heap.size,1,none⟩=some (.int .i64 a1):=(hb1.cell (p:=⟨w.heap.size,1,none⟩) yi).trans (by go_simp)
  have cw1_2:w1.cell? ⟨w.heap.size,2,none⟩=some (.int .i64 a2):=(hb1.cell (p:=⟨w.heap.size,2,none⟩) yi).trans (by go_simp)
  have cw1_3:w1.cell? ⟨w.heap.size,3,none⟩=some (.int .i64 a3):=(hb1.cell (p:=⟨w.heap.size,3,none⟩) yi).trans (by go_simp)
  have cw1_4:w1.cell? ⟨w.heap.size,4,none⟩=some (.string a4):=(hb1.cell (p:=⟨w.heap.size,4,none⟩) yi).trans (by go_simp)
  have cw1_5:w1.cell? ⟨w.heap.size,5,none⟩=some (.string a5):=(hb1.cell (p:=⟨w.heap.size,5,none⟩) yi).trans (by go_simp)
  have cw1_6:w1.cell? ⟨w.heap.size,6,none⟩=some (.int .i64 (a6:Int)):=(hb1.cell (p:=⟨w.heap.size,6,none⟩) yi).trans (by go_simp)
  have cw1_7:w1.cell? ⟨w.heap.size,7,none⟩=some (.int .i64 (a7:Int)):=(hb1.cell (p:=⟨w.heap.size,7,none⟩) yi).trans (by go_simp)
  have cw1_8:w1.cell? ⟨w.heap.size+1,0,none⟩=some (.int .i64 4):=(hb1.cell (p:=⟨w.heap.size+1,0,none⟩) yf).trans (by go_simp)
  have cw1_9:w1.cell? ⟨w.heap.size+1,1,none⟩=some (.int .i64 a1):=(hb1.cell (p:=⟨w.heap.size+1,1,none⟩) yf).trans (by go_simp)
  have cw1_10:w1.cell? ⟨w.heap.size+1,2,none⟩=some (.int .i64 0):=(hb1.cell (p:=⟨w.heap.size+1,2,none⟩) yf).trans (by go_simp)
  have cw1_11:w1.cell? ⟨w.heap.size+1,3,none⟩=some (.int .i64 0):=(hb1.cell (p:=⟨w.heap.size+1,3,none⟩) yf).trans (by go_simp)
  have cw1_12:w1.cell? ⟨w.heap.size+1,4,none⟩=some (.string ⟨#[]⟩):=(hb1.cell (p:=⟨w.heap.size+1,4,none⟩) yf).trans (by go_simp)
  have cw1_13:w1.cell? ⟨w.heap.size+1,5,none⟩=some (.string ⟨#[]⟩):=(hb1.cell (p:=⟨w.heap.size+1,5,none⟩) yf).trans (by go_simp)
  have HB1:=yq (HB.out.trans (hb1.mono HB.out.size));clear hb1;go_wp2
  all_goals go_ret
  all_goals
   first
    | (exact ⟨zh (N2.out (by assumption)).symm,HB1.out⟩)
    | (exact ⟨zh (N3.out (by assumption)).symm,HB1.out⟩)
    | (exact ⟨zh (N4.out (by assumption)).symm,HB1.out⟩)
    | (exact ⟨zh (N5.out (by assumption)).symm,HB1.out⟩)
    | (exact ⟨zh (HF.out (by assumption) (by assumption) (by assumption) (by assumption)),HB1.out⟩)
theorem zgf (n:ENode) (hk:n.fh=5) (_:n.fd.size≤1048576) (_:n.fa.size≤1048576) (w:World) :
  Calls Tryz.prog 178 #[.agg #[.int .i64 n.fh,.int .i64 n.fN,.int .i64 n.fb,.int .i64 n.fk,.string n.fd,.string n.fa,.int .i64 (n.fc:Int),.int .i64 (n.fw:Int)]] w fun e w'=>e = .returned (.bool (zk n))∧Below w.heap.size w w':=by
 have HO:=yq (zxo hk)
 have HKR:=yq (show inR n.fh 1 8=true by rw [hk];decide)
 have HY:=yq (show n.fN=0→n.fb=0→n.fk=0→n.fd.toList=[]→n.fa.toList=[]→n.fc=3→zk n=okN n from fun g1 g2 g3 g4 g5 g6=>zaz HKR.out ⟨(by rw [hk];exact g6),Or.inr (Or.inr (g2)),Or.inr (Or.inr (g5)),Or.inr (Or.inr (g1)),Or.inr (g3),Or.inr (g4)⟩)
 have N1:=yq (show ¬ n.fN=0→zk n=false from fun g=>zj fun hb=>by rcases hb.2.2.2.1 with h|h|h<;>first|exact g h|omega)
 have N2:=yq (show ¬ n.fb=0→zk n=false from fun g=>zj fun hb=>by rcases hb.2.1 with h|h|h<;>first|exact g h|omega)
 have N3:=yq (show ¬ n.fk=0→zk n=false from fun g=>zj fun hb=>by rcases hb.2.2.2.2.1 with h|h<;>first|exact g h|omega)
 have N4:=yq (show ¬ n.fd.toList=[]→zk n=false from fun g=>zj fun hb=>by rcases hb.2.2.2.2.2 with h|h<;>first|exact g h|omega)
 have N5:=yq (show ¬ n.fa.toList=[]→zk n=false from fun g=>zj fun hb=>by rcases hb.2.2.1 with h|h|h<;>first|exact g h|omega)
 have N6:=yq (show ¬ n.fc=3→zk n=false from fun g=>zj fun hb=>by have h:=hb.1;rw [hk] at h;exact g h)
 have NO:=yq (show okN n=false→zk n=false from zcs)
 rw [hk];clear hk HKR;generalize zk n=v at *;generalize okN n=q at *;generalize n.fN=a1 at *;generalize n.fb=a2 at *;generalize n.fk=a3 at *;generalize n.fd=a4 at *;generalize n.fa=a5 at *;generalize n.fc=a6 at *;generalize n.fw=a7 at *
 have QV:=yq (show q=true from HO.out)
 have HB:=yq (((Below.refl w.heap.size w).alloc (Nat.le_refl _) (.cells #[.int .i64 5,.int .i64 a1,.int .i64 a2,.int .i64 a3,.string a4,.string a5,.int .i64 (a6:Int),.int .i64 (a7:Int)] 131)).alloc (by simp) (.cells #[.int .i64 5,.int .i64 0,.int .i64 0,.int .i64 0,.string ⟨#[]⟩,.string ⟨#[]⟩] 129))
 have HBD:=yq (HB.out.drew)
 have HF:=yq (show a1=0→a2=0→a3=0→a4.toList=[]→a5.toList=[]→(((a6:Nat):Int) == 3)=v from fun g1 g2 g3 g4 g5=>by
  by_cases g6:a6=3
  ·rw [HY.out g1 g2 g3 g4 g5 g6,QV.out,g6];rfl
  ·rw [N6.out g6];exact beq_eq_false_iff_ne.2 (by omega))
 go_enter Tryz.func178,Tryz.ntmps178
 go_wp2
 all_goals go_ret
 all_goals
  first
   | (exact ⟨zh (N1.out (by assumption)).symm,(yc:Below w.heap.size w _)⟩)
   | (exact ⟨zh (N2.out (by assumption)).symm,(yc:Below w.heap.size w _)⟩)
   | (exact ⟨zh (N3.out (by assumption)).symm,(yc:Below w.heap.size w _)⟩)
   | (exact ⟨zh (N4.out (by assumption)).symm,(yc:Below w.heap.size w _)⟩)
   | (exact ⟨zh (N5.out (by assumption)).symm,(yc:Below w.heap.size w _)⟩)
   | (exact ⟨zh (HF.out (by assumption) (by assumption) (by assumption) (by assumption) (by assumption)),(yc:Below w.heap.size w _)⟩)
theorem zgg (n:ENode) (hk:n.fh=6) (_:n.fd.size≤1048576) (_:n.fa.size≤1048576) (w:World) :
  Calls Tryz.prog 178 #[.agg #[.int .i64 n.fh,.int .i64 n.fN,.int .i64 n.fb,.int .i64 n.fk,.string n.fd,.string n.fa,.int .i64 (n.fc:Int),.int .i64 (n.fw:Int)]] w fun e w'=>e = .returned (.bool (zk n))∧Below w.heap.size w w':=by
 have HO:=yq (ztk hk)
 have HKR:=yq (show inR n.fh 1 8=true by rw [hk];decide)
 have HY:=yq (show n.fN=0→n.fk=0→n.fd.toList=[]→n.fa.toList=[]→n.fc=0→zk n=okN n from fun g1 g3 g4 g5 g6=>zaz HKR.out ⟨(by rw [hk];exact g6),Or.inr (Or.inl hk),Or.inr (Or.inr (g5)),Or.inr (Or.inr (g1)),Or.inr (g3),Or.inr (g4)⟩)
 have N1:=yq (show ¬ n.fN=0→zk n=false from fun g=>zj fun hb=>by rcases hb.2.2.2.1 with h|h|h<;>first|exact g h|omega)
 have N3:=yq (show ¬ n.fk=0→zk n=false from fun g=>zj fun hb=>by rcases hb.2.2.2.2.1 with h|h<;>first|exact g h|omega)
 have N4:=yq (show ¬ n.fd.toList=[]→zk n=false from fun g=>zj fun hb=>by rcases hb.2.2.2.2.2 with h|h<;>first|exact g h|omega)
 have N5:=yq (show ¬ n.fa.toList=[]→zk n=false from fun g=>zj fun hb=>by rcases hb.2.2.1 with h|h|h<;>first|exact g h|omega)
 have N6:=yq (show ¬ n.fc=0→zk n=false from fun g=>zj fun hb=>by have h:=hb.1;rw [hk] at h;exact g h)
 have NO:=yq (show okN n=false→zk n=false from zcs)
 have HC:=yq (fun W=>zeq n.fb W)
 rw [← ztk hk] at HC;rw [hk];clear hk HKR;generalize zk n=v at *;generalize okN n=q at *;generalize n.fN=a1 at *;generalize n.fb=a2 at *;generalize n.fk=a3 at *;generalize n.fd=a4 at *;generalize n.fa=a5 at *;generalize n.fc=a6 at *;generalize n.fw=a7 at *
 have HB:=yq (((Below.refl w.heap.size w).alloc (Nat.le_refl _) (.cells #[.int .i64 6,.int .i64 a1,.int .i64 a2,.int .i64 a3,.string a4,.string a5,.int .i64 (a6:Int),.int .i64 (a7:Int)] 131)).alloc (by simp) (.cells #[.int .i64 6,.int .i64 0,.int .i64 a2,.int .i64 0,.string ⟨#[]⟩,.string ⟨#[]⟩] 129))
 have HBD:=yq (HB.out.drew)
 cases hq:q
 ·have QV:=yq hq
  rw [hq] at HC;clear hq
  go_enter Tryz.func178,Tryz.ntmps178
  (go_wp2_with fail);refine (HC.out _).mono ?_;rintro e w1 ⟨rfl,rfl⟩;go_wp2
  all_goals go_ret
  all_goals
   exact ⟨zh (NO.out QV.out).symm,(yc:Below w.heap.size w _)⟩
 ·have QV:=yq hq
  rw [hq] at HC;clear hq
  have HF:=yq (show a1=0→a3=0→a4.toList=[]→a5.toList=[]→(((a6:Nat):Int) == 0)=v from fun g1 g3 g4 g5=>by
   by_cases g6:a6=0
   ·rw [HY.out g1 g3 g4 g5 g6,QV.out,g6];rfl
   ·rw [N6.out g6];exact beq_eq_false_iff_ne.2 (by omega))
  go_enter Tryz.func178,Tryz.ntmps178
  (go_wp2_with fail);refine (HC.out _).mono ?_;rintro e w1 ⟨rfl,rfl⟩;go_wp2
  all_goals go_ret
  all_goals
   first
    | (exact ⟨zh (N1.out (by assumption)).symm,(yc:Below w.heap.size w _)⟩)
    | (exact ⟨zh (N3.out (by assumption)).symm,(yc:Below w.heap.size w _)⟩)
    | (exact ⟨zh (N4.out (by assumption)).symm,(yc:Below w.heap.size w _)⟩)
    | (exact ⟨zh (N5.out (by assumption)).symm,(yc:Below w.heap.size w _)⟩)
    | (exact ⟨zh (HF.out (by assumption) (by assumption) (by assumption) (by assumption)),(yc:Below w.heap.size w _)⟩)
theorem zhe (n:ENode) (hk:n.fh=7) (_:n.fd.size≤1048576) (_:n.fa.size≤1048576) (w:World) :
  Calls Tryz.prog 178 #[.agg #[.int .i64 n.fh,.int .i64 n.fN,.int .i64 n.fb,.int .i64 n.fk,.string n.fd,.string n.fa,.int .i64 (n.fc:Int),.int .i64 (n.fw:Int)]] w fun e w'=>e = .returned (.bool (zk n))∧Below w.heap.size w w':=by
 have HO:=yq (zw3 hk)
 have HKR:=yq (show inR n.fh 1 8=true by rw [hk];decide)
 have HY:=yq (show n.fN=0→n.fb=0→n.fk=0→n.fd.toList=[]→n.fa.toList=[]→n.fc=0→zk n=okN n from fun g1 g2 g3 g4 g5 g6=>zaz HKR.out ⟨(by rw [hk];exact g6),Or.inr (Or.inr (g2)),Or.inr (Or.inr (g5)),Or.inr (Or.inr (g1)),Or.inr (g3),Or.inr (g4)⟩)
 have N1:=yq (show ¬ n.fN=0→zk n=false from fun g=>zj fun hb=>by rcases hb.2.2.2.1 with h|h|h<;>first|exact g h|omega)
 have N2:=yq (show ¬ n.fb=0→zk n=false from fun g=>zj fun hb=>by rcases hb.2.1 with h|h|h<;>first|exact g h|omega)
 have N3:=yq (show ¬ n.fk=0→zk n=false from fun g=>zj fun hb=>by rcases hb.2.2.2.2.1 with h|h<;>first|exact g h|omega)
 have N4:=yq (show ¬ n.fd.toList=[]→zk n=false from fun g=>zj fun hb=>by rcases hb.2.2.2.2.2 with h|h<;>first|exact g h|omega)
 have N5:=yq (show ¬ n.fa.toList=[]→zk n=false from fun g=>zj fun hb=>by rcases hb.2.2.1 with h|h|h<;>first|exact g h|omega)
 have N6:=yq (show ¬ n.fc=0→zk n=false from fun g=>zj fun hb=>by have h:=hb.1;rw [hk] at h;exact g h)
 have NO:=yq (show okN n=false→zk n=false from zcs)
 rw [hk];clear hk HKR;generalize zk n=v at *;generalize okN n=q at *;generalize n.fN=a1 at *;generalize n.fb=a2 at *;generalize n.fk=a3 at *;generalize n.fd=a4 at *;generalize n.fa=a5 at *;generalize n.fc=a6 at *;generalize n.fw=a7 at *
 have QV:=yq (show q=true from HO.out)
 have HB:=yq (((Below.refl w.heap.size w).alloc (Nat.le_refl _) (.cells #[.int .i64 7,.int .i64 a1,.int .i64 a2,.int .i64 a3,.string a4,.string a5,.int .i64 (a6:Int),.int .i64 (a7:Int)] 131)).alloc (by simp) (.cells #[.int .i64 7,.int .i64 0,.int .i64 0,.int .i64 0,.string ⟨#[]⟩,.string ⟨#[]⟩] 129))
 have HBD:=yq (HB.out.drew)
 have HF:=yq (show a1=0→a2=0→a3=0→a4.toList=[]→a5.toList=[]→(((a6:Nat):Int) == 0)=v from fun g1 g2 g3 g4 g5=>by
  by_cases g6:a6=0
  ·rw [HY.out g1 g2 g3 g4 g5 g6,QV.out,g6];rfl
  ·rw [N6.out g6];exact beq_eq_false_iff_ne.2 (by omega))
 go_enter Tryz.func178,Tryz.ntmps178
 go_wp2
 all_goals go_ret
 all_goals
  first
   | (exact ⟨zh (N1.out (by assumption)).symm,(yc:Below w.heap.size w _)⟩)
   | (exact ⟨zh (N2.out (by assumption)).symm,(yc:Below w.heap.size w _)⟩)
   | (exact ⟨zh (N3.out (by assumption)).symm,(yc:Below w.heap.size w _)⟩)
   | (exact ⟨zh (N4.out (by assumption)).symm,(yc:Below w.heap.size w _)⟩)
   | (exact ⟨zh (N5.out (by assumption)).symm,(yc:Below w.heap.size w _)⟩)
   | (exact ⟨zh (HF.out (by assumption) (by assumption) (by assumption) (by assumption) (by assumption)),(yc:Below w.heap.size w _)⟩)
theorem zgs (n:ENode) (hk:n.fh=8) (hs1:n.fd.size≤1048576) (hs2:n.fa.size≤1048576) (w:World) :
  Calls Tryz.prog 178 #[.agg #[.int .i64 n.fh,.int .i64 n.fN,.int .i64 n.fb,.int .i64 n.fk,.string n.fd,.string n.fa,.int .i64 (n.fc:Int),.int .i64 (n.fw:Int)]] w fun e w'=>e = .returned (.bool (zk n))∧Below w.heap.size w w':=by
 have HO:=yq (zxk hk)
 have HKR:=yq (show inR n.fh 1 8=true by rw [hk];decide)
 have HY:=yq (show n.fN=0→n.fb=0→n.fk=0→n.fc=1→zk n=okN n from fun g1 g2 g3 g6=>zaz HKR.out ⟨(by rw [hk];exact g6),Or.inr (Or.inr (g2)),Or.inr (Or.inl hk),Or.inr (Or.inr (g1)),Or.inr (g3),Or.inl hk⟩)
 have N1:=yq (show ¬ n.fN=0→zk n=false from fun g=>zj fun hb=>by rcases hb.2.2.2.1 with h|h|h<;>first|exact g h|omega)
 have N2:=yq (show ¬ n.fb=0→zk n=false from fun g=>zj fun hb=>by rcases hb.2.1 with h|h|h<;>first|exact g h|omega)
 have N3:=yq (show ¬ n.fk=0→zk n=false from fun g=>zj fun hb=>by rcases hb.2.2.2.2.1 with h|h<;>first|exact g h|omega)
 have N6:=yq (show ¬ n.fc=1→zk n=false from fun g=>zj fun hb=>by have h:=hb.1;rw [hk] at h;exact g h)
 have NO:=yq (show okN n=false→zk n=false from zcs)
 have HC:=yq (fun W=>zai n.fd hs1 W)
 have HD:=yq (fun W=>zai n.fa hs2 W)
 obtain ⟨q1,hq1⟩ : ∃ q1,zi n.fd=q1:=⟨_,rfl⟩;obtain ⟨q2,hq2⟩ : ∃ q2,zi n.fa=q2:=⟨_,rfl⟩;rw [hq1] at HC HO;rw [hq2] at HD HO;clear hq1 hq2;rw [hk];clear hk HKR;generalize zk n=v at *;generalize okN n=q at *;generalize n.fN=a1 at *;generalize n.fb=a2 at *;generalize n.fk=a3 at *;generalize n.fd=a4 at *;generalize n.fa=a5 at *;generalize n.fc=a6 at *;generalize n.fw=a7 at *
 have HB:=yq (((Below.refl w.heap.size w).alloc (Nat.le_refl _) (.cells #[.int .i64 8,.int .i64 a1,.int .i64 a2,.int .i64 a3,.string a4,.string a5,.int .i64 (a6:Int),.int .i64 (a7:Int)] 131)).alloc (by simp) (.cells #[.int .i64 8,.int .i64 0,.int .i64 0,.int .i64 0,.string a4,.string a5] 129))
 have HBD:=yq (HB.out.drew)
 cases q1
 ·have QV:=yq (show q=false from HO.out.trans rfl)
  go_enter Tryz.func178,Tryz.ntmps178
  (go_wp2_with fail)
  go_region
  all_goals go_wp2_with fail
  refine (HC.out _).mono ?_;rintro e w1 ⟨rfl,hb0⟩
  have cw1_0:w1.cell? ⟨w.heap.size,0,none⟩=some (.int .i64 8):=(hb0.cell (p:=⟨w.heap.size,0,none⟩) yf).trans (by go_simp)
  have cw1_1:w1.cell? ⟨w.heap.size,1,none⟩=some (.int .i64 a1):=(hb0.cell (p:=⟨w.heap.size,1,none⟩) yf).trans (by go_simp)
  have cw1_2:w1.cell? ⟨w.heap.size,2,none⟩=some (.int .i64 a2):=(hb0.cell (p:=⟨w.heap.size,2,none⟩) yf).trans (by go_simp)
  have cw1_3:w1.cell? ⟨w.heap.size,3,none⟩=some (.int .i64 a3):=(hb0.cell (p:=⟨w.heap.size,3,none⟩) yf).trans (by go_simp)
  have cw1_4:w1.cell? ⟨w.heap.size,4,none⟩=some (.string a4):=(hb0.cell (p:=⟨w.heap.size,4,none⟩) yf).trans (by go_simp)
  have cw1_5:w1.cell? ⟨w.heap.size,5,none⟩=some (.string a5):=(hb0.cell (p:=⟨w.heap.size,5,none⟩) yf).trans (by go_simp)
  have cw1_6:w1.cell? ⟨w.heap.size,6,none⟩=some (.int .i64 (a6:Int)):=(hb0.cell (p:=⟨w.heap.size,6,none⟩) yf).trans (by go_simp)
  have cw1_7:w1.cell? ⟨w.heap.size,7,none⟩=some (.int .i64 (a7:Int)):=(hb0.cell (p:=⟨w.heap.size,7,none⟩) yf).trans (by go_simp)
  have cw1_8:w1.cell? ⟨w.heap.size+1,0,none⟩=some (.int .i64 8):=(hb0.cell (p:=⟨w.heap.size+1,0,none⟩) yf).trans (by go_simp)
  have cw1_9:w1.cell? ⟨w.heap.size+1,1,none⟩=some (.int .i64 0):=(hb0.cell (p:=⟨w.heap.size+1,1,none⟩) yf).trans (by go_simp)
  have cw1_10:w1.cell? ⟨w.heap.size+1,2,none⟩=some (.int .i64 0):=(hb0.cell (p:=⟨w.heap.size+1,2,none⟩) yf).trans (by go_simp)
  have cw1_11:w1.cell? ⟨w.heap.size+1,3,none⟩=some (.int .i64 0):=(hb0.cell (p:=⟨w.heap.size+1,3,none⟩) yf).trans (by go_simp)
  have cw1_12:w1.cell? ⟨w.heap.size+1,4,none⟩=some (.string a4):=(hb0.cell (p:=⟨w.heap.size+1,4,none⟩) yf).trans (by go_simp)
  have cw1_13:w1.cell? ⟨w.heap.size+1,5,none⟩=some (.string a5):=(hb0.cell (p:=⟨w.heap.size+1,5,none⟩) yf).trans (by go_simp)
  have HB0:=yq (HBD.out.trans (hb0.mono HBD.out.size))
  have hs9:w.heap.size+1 < w1.heap.size:=Nat.lt_of_lt_of_le (by first|(simp;done)|(simp [World.drew];done)) hb0.size
  clear hb0;go_wp2
  all_goals go_ret
  all_goals exact ⟨zh (NO.out QV.out).symm,HB0.out⟩
 ·cases q2
  ·have QV:=yq (show q=false from HO.out.trans rfl)
   go_enter Tryz.func178,Tryz.ntmps178
   (go_wp2_with fail)
   go_region
   all_goals go_wp2_with fail
   refine (HC.out _).mono ?_;rintro e w1 ⟨rfl,hb0⟩
   have cw1_0:w1.cell? ⟨w.heap.size,0,none⟩=some (.int .i64 8):=(hb0.cell (p:=⟨w.heap.size,0,none⟩) yf).trans (by go_simp)
   have cw1_1:w1.cell? ⟨w.heap.size,1,none⟩=some (.int .i64 a1):=(hb0.cell (p:=⟨w.heap.size,1,none⟩) yf).trans (by go_simp)
   have cw1_2:w1.cell? ⟨w.heap.size,2,none⟩=some (.int .i64 a2):=(hb0.cell (p:=⟨w.heap.size,2,none⟩) yf).trans (by go_simp)
   have cw1_3:w1.cell? ⟨w.heap.size,3,none⟩=some (.int .i64 a3):=(hb0.cell (p:=⟨w.heap.size,3,none⟩) yf).trans (by go_simp)
   have cw1_4:w1.cell? ⟨w.heap.size,4,none⟩=some (.string a4):=(hb0.cell (p:=⟨w.heap.size,4,none⟩) yf).trans (by go_simp)
   have cw1_5:w1.cell? ⟨w.heap.size,5,none⟩=some (.string a5):=(hb0.cell (p:=⟨w.heap.size,5,none⟩) yf).trans (by go_simp)
   have cw1_6:w1.cell? ⟨w.heap.size,6,none⟩=some (.int .i64 (a6:Int)):=(hb0.cell (p:=⟨w.heap.size,6,none⟩) yf).trans (by go_simp)
   have cw1_7:w1.cell? ⟨w.heap.size,7,none⟩=some (.int .i64 (a7:Int)):=(hb0.cell (p:=⟨w.heap.size,7,none⟩) yf).trans (by go_simp)
   have cw1_8:w1.cell? ⟨w.heap.size+1,0,none⟩=some (.int .i64 8):=(hb0.cell (p:=⟨w.heap.size+1,0,none⟩) yf).trans (by go_simp)
   have cw1_9:w1.cell? ⟨w.heap.size+1,1,none⟩=some (.int .i64 0):=(hb0.cell (p:=⟨w.heap.size+1,1,none⟩) yf).trans (by go_simp)
   have cw1_10:w1.cell? ⟨w.heap.size+1,2,none⟩=some (.int .i64 0):=(hb0.cell (p:=⟨w.heap.size+1,2,none⟩) yf).trans (by go_simp)
   have cw1_11:w1.cell? ⟨w.heap.size+1,3,none⟩=some (.int .i64 0):=(hb0.cell (p:=⟨w.heap.size+1,3,none⟩) yf).trans (by go_simp)
   have cw1_12:w1.cell? ⟨w.heap.size+1,4,none⟩=some (.string a4):=(hb0.cell (p:=⟨w.heap.size+1,4,none⟩) yf).trans (by go_simp)
   have cw1_13:w1.cell? ⟨w.heap.size+1,5,none⟩=some (.string a5):=(hb0.cell (p:=⟨w.heap.size+1,5,none⟩) yf).trans (by go_simp)
   have HB0:=yq (HBD.out.trans (hb0.mono HBD.out.size))
   have hs9:w.heap.size+1 < w1.heap.size:=Nat.lt_of_lt_of_le (by first|(simp;done)|(simp [World.drew];done)) hb0.size
   clear hb0;(go_wp2_with fail);refine (HD.out _).mono ?_;rintro e w2 ⟨rfl,hb1⟩
   have cw2_0:w2.cell? ⟨w.heap.size,0,none⟩=some (.int .i64 8):=(hb1.cell (p:=⟨w.heap.size,0,none⟩) yi).trans (by go_simp)
   have cw2_1:w2.cell? ⟨w.heap.size,1,none⟩=some (.int .i64 a1):=(hb1.cell (p:=⟨w.heap.size,1,none⟩) yi).trans (by go_simp)
   have cw2_2:w2.cell? ⟨w.heap.size,2,none⟩=some (.int .i64 a2):=(hb1.cell (p:=⟨w.heap.size,2,none⟩) yi).trans (by go_simp)
   have cw2_3:w2.cell? ⟨w.heap.size,3,none⟩=some (.int .i64 a3):=(hb1.cell (p:=⟨w.heap.size,3,none⟩) yi).trans (by go_simp)
   have cw2_4:w2.cell? ⟨w.heap.size,4,none⟩=some (.string a4):=(hb1.cell (p:=⟨w.heap.size,4,none⟩) yi).trans (by go_simp)
   have cw2_5:w2.cell? ⟨w.heap.size,5,none⟩=some (.string a5):=(hb1.cell (p:=⟨w.heap.size,5,none⟩) yi).trans (by go_simp)
   have cw2_6:w2.cell? ⟨w.heap.size,6,none⟩=some (.int .i64 (a6:Int)):=(hb1.cell (p:=⟨w.heap.size,6,none⟩) yi).trans (by go_simp)
   have cw2_7:w2.cell? ⟨w.heap.size,7,none⟩=some (.int .i64 (a7:Int)):=(hb1.cell (p:=⟨w.heap.size,7,none⟩) yi).trans (by go_simp)
   have cw2_8:w2.cell? ⟨w.heap.size+1,0,none⟩=some (.int .i64 8):=(hb1.cell (p:=⟨w.heap.size+1,0,none⟩) yi).trans (by go_simp)
   have cw2_9:w2.cell? ⟨w.heap.size+1,1,none⟩=some (.int .i64 0):=(hb1.cell (p:=⟨w.heap.size+1,1,none⟩) yi).trans (by go_simp)
   have cw2_10:w2.cell? ⟨w.heap.size+1,2,none⟩=some (.int .i64 0):=(hb1.cell (p:=⟨w.heap.size+1,2,none⟩) yi).trans (by go_simp)
   have cw2_11:w2.cell? ⟨w.heap.size+1,3,none⟩=some (.int .i64 0):=(hb1.cell (p:=⟨w.heap.size+1,3,none⟩) yi).trans (by go_simp)
   have cw2_12:w2.cell? ⟨w.heap.size+1,4,none⟩=some (.string a4):=(hb1.cell (p:=⟨w.heap.size+1,4,none⟩) yi).trans (by go_simp)
   have cw2_13:w2.cell? ⟨w.heap.size+1,5,none⟩=some (.string a5):=(hb1.cell (p:=⟨w.heap.size+1,5,none⟩) yi).trans (by go_simp)
   have HB1:=yq (HB0.out.trans (hb1.mono HB0.out.size));clear hb1;go_wp2
   all_goals go_ret
   all_goals
    exact ⟨zh (NO.out QV.out).symm,HB1.out⟩
  ·have QV:=yq (show q=true from HO.out.trans rfl)
   have HF:=yq (show a1=0→a2=0→a3=0→(((a6:Nat):Int) == 1)=v from fun g1 g2 g3=>by
    by_cases g6:a6=1
    ·rw [HY.out g1 g2 g3 g6,QV.out,g6];rfl
    ·rw [N6.out g6];exact beq_eq_false_iff_ne.2 (by omega))
   go_enter Tryz.func178,Tryz.ntmps178
   (go_wp2_with fail)
   go_region
   all_goals go_wp2_with fail
   refine (HC.out _).mono ?_;rintro e w1 ⟨rfl,hb0⟩
   have cw1_0:w1.cell? ⟨w.heap.size,0,none⟩=some (.int .i64 8):=(hb0.cell (p:=⟨w.heap.size,0,none⟩) yf).trans (by go_simp)
   have cw1_1:w1.cell? ⟨w.heap.size,1,none⟩=some (.int .i64 a1):=(hb0.cell (p:=⟨w.heap.size,1,none⟩) yf).trans (by go_simp)
   have cw1_2:w1.cell? ⟨w.heap.size,2,none⟩=some (.int .i64 a2):=(hb0.cell (p:=⟨w.heap.size,2,none⟩) yf).trans (by go_simp)
   have cw1_3:w1.cell? ⟨w.heap.size,3,none⟩=some (.int .i64 a3):=(hb0.cell (p:=⟨w.heap.size,3,none⟩) yf).trans (by go_simp)
   have cw1_4:w1.cell? ⟨w.heap.size,4,none⟩=some (.string a4):=(hb0.cell (p:=⟨w.heap.size,4,none⟩) yf).trans (by go_simp)
   have cw1_5:w1.cell? ⟨w.heap.size,5,none⟩=some (.string a5):=(hb0.cell (p:=⟨w.heap.size,5,none⟩) yf).trans (by go_simp)
   have cw1_6:w1.cell? ⟨w.heap.size,6,none⟩=some (.int .i64 (a6:Int)):=(hb0.cell (p:=⟨w.heap.size,6,none⟩) yf).trans (by go_simp)
   have cw1_7:w1.cell? ⟨w.heap.size,7,none⟩=some (.int .i64 (a7:Int)):=(hb0.cell (p:=⟨w.heap.size,7,none⟩) yf).trans (by go_simp)
   have cw1_8:w1.cell? ⟨w.heap.size+1,0,none⟩=some (.int .i64 8):=(hb0.cell (p:=⟨w.heap.size+1,0,none⟩) yf).trans (by go_simp)
   have cw1_9:w1.cell? ⟨w.heap.size+1,1,none⟩=some (.int .i64 0):=(hb0.cell (p:=⟨w.heap.size+1,1,none⟩) yf).trans (by go_simp)
   have cw1_10:w1.cell? ⟨w.heap.size+1,2,none⟩=some (.int .i64 0):=(hb0.cell (p:=⟨w.heap.size+1,2,none⟩) yf).trans (by go_simp)
   have cw1_11:w1.cell? ⟨w.heap.size+1,3,none⟩=some (.int .i64 0):=(hb0.cell (p:=⟨w.heap.size+1,3,none⟩) yf).trans (by go_simp)
   have cw1_12:w1.cell? ⟨w.heap.size+1,4,none⟩=some (.string a4):=(hb0.cell (p:=⟨w.heap.size+1,4,none⟩) yf).trans (by go_simp)
   have cw1_13:w1.cell? ⟨w.heap.size+1,5,none⟩=some (.string a5):=(hb0.cell (p:=⟨w.heap.size+1,5,none⟩) yf).trans (by go_simp)
   have HB0:=yq (HBD.out.trans (hb0.mono HBD.out.size))
   have hs9:w.heap.size+1 < w1.heap.size:=Nat.lt_of_lt_of_le (by first|(simp;done)|(simp [World.drew];done)) hb0.size
   clear hb0;(go_wp2_with fail);refine (HD.out _).mono ?_;rintro e w2 ⟨rfl,hb1⟩
   have cw2_0:w2.cell? ⟨w.heap.size,0,none⟩=some (.int .i64 8):=(hb1.cell (p:=⟨w.heap.size,0,none⟩) yi).trans (by go_simp)
   have cw2_1:w2.cell? ⟨w.heap.size,1,none⟩=some (.int .i64 a1):=(hb1.cell (p:=⟨w.heap.size,1,none⟩) yi).trans (by go_simp)
   have cw2_2:w2.cell? ⟨w.heap.size,2,none⟩=some (.int .i64 a2):=(hb1.cell (p:=⟨w.heap.size,2,none⟩) yi).trans (by go_simp)
   have cw2_3:w2.cell? ⟨w.heap.size,3,none⟩=some (.int .i64 a3):=(hb1.cell (p:=⟨w.heap.size,3,none⟩) yi).trans (by go_simp)
   have cw2_4:w2.cell? ⟨w.heap.size,4,none⟩=some (.string a4):=(hb1.cell (p:=⟨w.heap.size,4,none⟩) yi).trans (by go_simp)
   have cw2_5:w2.cell? ⟨w.heap.size,5,none⟩=some (.string a5):=(hb1.cell (p:=⟨w.heap.size,5,none⟩) yi).trans (by go_simp)
   have cw2_6:w2.cell? ⟨w.heap.size,6,none⟩=some (.int .i64 (a6:Int)):=(hb1.cell (p:=⟨w.heap.size,6,none⟩) yi).trans (by go_simp)
   have cw2_7:w2.cell? ⟨w.heap.size,7,none⟩=some (.int .i64 (a7:Int)):=(hb1.cell (p:=⟨w.heap.size,7,none⟩) yi).trans (by go_simp)
   have cw2_8:w2.cell? ⟨w.heap.size+1,0,none⟩=some (.int .i64 8):=(hb1.cell (p:=⟨w.heap.size+1,0,none⟩) yi).trans (by go_simp)
   have cw2_9:w2.cell? ⟨w.heap.size+1,1,none⟩=some (.int .i64 0):=(hb1.cell (p:=⟨w.heap.size+1,1,none⟩) yi).trans (by go_simp)
   have cw2_10:w2.cell? ⟨w.heap.size+1,2,none⟩=some (.int .i64 0):=(hb1.cell (p:=⟨w.heap.size+1,2,none⟩) yi).trans (by go_simp)
   have cw2_11:w2.cell? ⟨w.heap.size+1,3,none⟩=some (.int .i64 0):=(hb1.cell (p:=⟨w.heap.size+1,3,none⟩) yi).trans (by go_simp)
   have cw2_12:w2.cell? ⟨w.heap.size+1,4,none⟩=some (.string a4):=(hb1.cell (p:=⟨w.heap.size+1,4,none⟩) yi).trans (by go_simp)
   have cw2_13:w2.cell? ⟨w.heap.size+1,5,none⟩=some (.string a5):=(hb1.cell (p:=⟨w.heap.size+1,5,none⟩) yi).trans (by go_simp)
   have HB1:=yq (HB0.out.trans (hb1.mono HB0.out.size));clear hb1;go_wp2
   all_goals go_ret
   all_goals
    first
     | (exact ⟨zh (N1.out (by assumption)).symm,HB1.out⟩)
     | (exact ⟨zh (N2.out (by assumption)).symm,HB1.out⟩)
     | (exact ⟨zh (N3.out (by assumption)).symm,HB1.out⟩)
     | (exact ⟨zh (HF.out (by assumption) (by assumption) (by assumption)),HB1.out⟩)
theorem zhb (n:ENode) (hk:inR n.fh 1 8=false) (w:World) :
  Calls Tryz.prog 178 #[.agg #[.int .i64 n.fh,.int .i64 n.fN,.int .i64 n.fb,.int .i64 n.fk,.string n.fd,.string n.fa,.int .i64 (n.fc:Int),.int .i64 (n.fw:Int)]] w fun e w'=>e = .returned (.bool (zk n))∧Below w.heap.size w w':=by
 have HV:=yq (zj8 hk)
 have hn : ∀ j:Int,1≤j→j≤8→n.fh≠j:=fun j h1 h2 e=>by rw [e,zc5 h1 h2] at hk;cases hk
 have k1:(n.fh == 1)=false:=beq_eq_false_iff_ne.2 (hn 1 (by decide) (by decide))
 have k2:(n.fh == 2)=false:=beq_eq_false_iff_ne.2 (hn 2 (by decide) (by decide))
 have k3:(n.fh == 3)=false:=beq_eq_false_iff_ne.2 (hn 3 (by decide) (by decide))
 have k4:(n.fh == 4)=false:=beq_eq_false_iff_ne.2 (hn 4 (by decide) (by decide))
 have k5:(n.fh == 5)=false:=beq_eq_false_iff_ne.2 (hn 5 (by decide) (by decide))
 have k6:(n.fh == 6)=false:=beq_eq_false_iff_ne.2 (hn 6 (by decide) (by decide))
 have k7:(n.fh == 7)=false:=beq_eq_false_iff_ne.2 (hn 7 (by decide) (by decide))
 have k8:(n.fh == 8)=false:=beq_eq_false_iff_ne.2 (hn 8 (by decide) (by decide))
 clear hk hn;generalize zk n=v at *;generalize n.fh=a0 at *;generalize n.fN=a1 at *;generalize n.fb=a2 at *;generalize n.fk=a3 at *;generalize n.fd=a4 at *;generalize n.fa=a5 at *;generalize n.fc=a6 at *;generalize n.fw=a7 at *
 have HB:=yq (((Below.refl w.heap.size w).alloc (Nat.le_refl _) (.cells #[.int .i64 a0,.int .i64 a1,.int .i64 a2,.int .i64 a3,.string a4,.string a5,.int .i64 (a6:Int),.int .i64 (a7:Int)] 131)).alloc (by simp) (.cells #[.int .i64 a0,.int .i64 0,.int .i64 0,.int .i64 0,.string ⟨#[]⟩,.string ⟨#[]⟩] 129))
 go_enter Tryz.func178,Tryz.ntmps178
 go_wp2;go_ret;exact ⟨zh HV.out.symm,HB.out⟩
theorem zjf (n:ENode) (hs1:n.fd.size≤1048576) (hs2:n.fa.size≤1048576) (w:World) :
  Calls Tryz.prog 178 #[.agg #[.int .i64 n.fh,.int .i64 n.fN,.int .i64 n.fb,.int .i64 n.fk,.string n.fd,.string n.fa,.int .i64 (n.fc:Int),.int .i64 (n.fw:Int)]] w fun e w'=>e = .returned (.bool (zk n))∧Below w.heap.size w w':=by
 cases hk:inR n.fh 1 8
 ·exact zhb n hk w
 ·have h:=zhw.1 hk
  rcases (by omega:n.fh=1∨n.fh=2∨n.fh=3∨n.fh=4∨n.fh=5∨n.fh=6∨n.fh=7∨n.fh=8) with g|g|g|g|g|g|g|g
  ·exact zgz n g hs1 hs2 w
  ·exact zgi n g hs1 hs2 w
  ·exact zgr n g hs1 hs2 w
  ·exact zhi n g hs1 hs2 w
  ·exact zgf n g hs1 hs2 w
  ·exact zgg n g hs1 hs2 w
  ·exact zhe n g hs1 hs2 w
  ·exact zgs n g hs1 hs2 w
end Go.Proofs.YtmbaajangkmjdaaGreat
