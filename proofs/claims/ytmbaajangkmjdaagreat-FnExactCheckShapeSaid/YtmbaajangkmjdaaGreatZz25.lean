/-
  l11Breaks of the model: whether a code applies to a rule.
  What CheckShape answers.
  CheckShape of the model.
  The checks of CheckShape in the program: a use that is not allowed.
  CheckShape of the program, by its eight checks.
-/
import Derived.Test.YtmbaajangkmjdaaGreatZz18
import Derived.Test.YtmbaajangkmjdaaGreatZz24
import Derived.Test.YtmbaajangkmjdaaGreatZz23
import Derived.Test.YtmbaajangkmjdaaGreatZShapeI7
set_option maxHeartbeats 12800000
set_option maxRecDepth 100000
namespace Go.Proofs.YtmbaajangkmjdaaGreat
open Go.ChangeShapes Go.WideShapes Go.ChangeAt Go.RowKit Go.Deep
def brk (g:DGrammar) (x:DRule) (c:Nat):Bool:=if c=3 then zdy g x else if c=4 then zib g x else if c=5 then zha g x else zdc g x
theorem zlx {lo hi:Nat} {a0 a1:Option Addr} {c0_0 c0_1:Nat} {b2 b4 b5:Option Addr} {c1_0 c1_1 c1_2:Nat} (g:DGrammar) (okg:g.ok) (hszg:g.sz≤1048576) (x:DRule) (okx:x.ok) (hszx:x.sz≤1048576) (w:World) (hhi:hi≤w.heap.size) (hs0:Sl lo hi w 2 g.fl.length (fun k=>DSymbol.ct (g.fl.getD k default)) a0) (hs1:Sl lo hi w 6 g.fm.length (fun k=>DRule.ct (g.fm.getD k default)) a1) (hs2:Sl lo hi w 1 x.fj.length (fun k=>ictS (x.fj.getD k default)) b2) (hs4:Sl lo hi w 9 x.fg.length (fun k=>DEquation.ct (x.fg.getD k default)) b4) (hs5:Sl lo hi w 16 x.fo.length (fun k=>DContribution.ct (x.fo.getD k default)) b5) :
  Calls Tryz.prog 13 #[.agg #[.slice a0 g.fl.length c0_0,.slice a1 g.fm.length c0_1],.agg #[.string x.fa,.string x.fp,.slice b2 x.fj.length c1_0,.bool x.fq,.slice b4 x.fg.length c1_1,.slice b5 x.fo.length c1_2],.int .i64 3] w fun e w'=>e = .returned (.bool (zdy g x))∧Below w.heap.size w w':=by
 have HB:=yq (show Below w.heap.size w ((w.alloc (.cells #[.slice a0 g.fl.length c0_0,.slice a1 g.fm.length c0_1] 32)).alloc (.cells #[.string x.fa,.string x.fp,.slice b2 x.fj.length c1_0,.bool x.fq,.slice b4 x.fg.length c1_1,.slice b5 x.fo.length c1_2] 50)) from ((Below.refl w.heap.size w).alloc (Nat.le_refl _) (.cells #[.slice a0 g.fl.length c0_0,.slice a1 g.fm.length c0_1] 32)).alloc (by simp) (.cells #[.string x.fa,.string x.fp,.slice b2 x.fj.length c1_0,.bool x.fq,.slice b4 x.fg.length c1_1,.slice b5 x.fo.length c1_2] 50))
 have HBG:=yq (show ((w.alloc (.cells #[.slice a0 g.fl.length c0_0,.slice a1 g.fm.length c0_1] 32)).alloc (.cells #[.string x.fa,.string x.fp,.slice b2 x.fj.length c1_0,.bool x.fq,.slice b4 x.fg.length c1_1,.slice b5 x.fo.length c1_2] 50)).heap[w.heap.size]? = some (.cells #[.slice a0 g.fl.length c0_0,.slice a1 g.fm.length c0_1] 32) from zn (by simp) (ze rfl))
 have HBR:=yq (show ((w.alloc (.cells #[.slice a0 g.fl.length c0_0,.slice a1 g.fm.length c0_1] 32)).alloc (.cells #[.string x.fa,.string x.fp,.slice b2 x.fj.length c1_0,.bool x.fq,.slice b4 x.fg.length c1_1,.slice b5 x.fo.length c1_2] 50)).heap[w.heap.size+1]? = some (.cells #[.string x.fa,.string x.fp,.slice b2 x.fj.length c1_0,.bool x.fq,.slice b4 x.fg.length c1_1,.slice b5 x.fo.length c1_2] 50) from ze (by simp))
 have HZ:=yq (show ((w.alloc (.cells #[.slice a0 g.fl.length c0_0,.slice a1 g.fm.length c0_1] 32)).alloc (.cells #[.string x.fa,.string x.fp,.slice b2 x.fj.length c1_0,.bool x.fq,.slice b4 x.fg.length c1_1,.slice b5 x.fo.length c1_2] 50)).heap.size=w.heap.size+2 by simp)
 have HC:=yq (zlc (c0_0:=c0_0) (c0_1:=c0_1) (c1_0:=c1_0) (c1_1:=c1_1) (c1_2:=c1_2) g okg hszg x okx hszx ((w.alloc (.cells #[.slice a0 g.fl.length c0_0,.slice a1 g.fm.length c0_1] 32)).alloc (.cells #[.string x.fa,.string x.fp,.slice b2 x.fj.length c1_0,.bool x.fq,.slice b4 x.fg.length c1_1,.slice b5 x.fo.length c1_2] 50)) (Nat.le_trans hhi HB.out.size) (hs0.later HB.out hhi) (hs1.later HB.out hhi) (hs2.later HB.out hhi) (hs4.later HB.out hhi) (hs5.later HB.out hhi));clear hs0 hs1 hs2 hs4 hs5 hhi okg hszg okx hszx HBG HBR HZ;generalize zdy g x=bb at *
 go_enter Tryz.func13,Tryz.ntmps13
 (go_wp2_with fail);refine HC.out.mono ?_;rintro e w1 ⟨rfl,hb1⟩;have HBF:=yq (HB.out.trans (hb1.mono HB.out.size));clear hb1 HC
 cases bb
 all_goals
  go_wp2;go_ret;exact ⟨rfl,HBF.out⟩
theorem zk8 {lo hi:Nat} {a0 a1:Option Addr} {c0_0 c0_1:Nat} {b2 b4 b5:Option Addr} {c1_0 c1_1 c1_2:Nat} (g:DGrammar) (okg:g.ok) (hszg:g.sz≤1048576) (x:DRule) (okx:x.ok) (hszx:x.sz≤1048576) (w:World) (hhi:hi≤w.heap.size) (hs0:Sl lo hi w 2 g.fl.length (fun k=>DSymbol.ct (g.fl.getD k default)) a0) (hs1:Sl lo hi w 6 g.fm.length (fun k=>DRule.ct (g.fm.getD k default)) a1) (hs2:Sl lo hi w 1 x.fj.length (fun k=>ictS (x.fj.getD k default)) b2) (hs4:Sl lo hi w 9 x.fg.length (fun k=>DEquation.ct (x.fg.getD k default)) b4) (hs5:Sl lo hi w 16 x.fo.length (fun k=>DContribution.ct (x.fo.getD k default)) b5) :
  Calls Tryz.prog 13 #[.agg #[.slice a0 g.fl.length c0_0,.slice a1 g.fm.length c0_1],.agg #[.string x.fa,.string x.fp,.slice b2 x.fj.length c1_0,.bool x.fq,.slice b4 x.fg.length c1_1,.slice b5 x.fo.length c1_2],.int .i64 4] w fun e w'=>e = .returned (.bool (zib g x))∧Below w.heap.size w w':=by
 have HB:=yq (show Below w.heap.size w ((w.alloc (.cells #[.slice a0 g.fl.length c0_0,.slice a1 g.fm.length c0_1] 32)).alloc (.cells #[.string x.fa,.string x.fp,.slice b2 x.fj.length c1_0,.bool x.fq,.slice b4 x.fg.length c1_1,.slice b5 x.fo.length c1_2] 50)) from ((Below.refl w.heap.size w).alloc (Nat.le_refl _) (.cells #[.slice a0 g.fl.length c0_0,.slice a1 g.fm.length c0_1] 32)).alloc (by simp) (.cells #[.string x.fa,.string x.fp,.slice b2 x.fj.length c1_0,.bool x.fq,.slice b4 x.fg.length c1_1,.slice b5 x.fo.length c1_2] 50))
 have HBG:=yq (show ((w.alloc (.cells #[.slice a0 g.fl.length c0_0,.slice a1 g.fm.length c0_1] 32)).alloc (.cells #[.string x.fa,.string x.fp,.slice b2 x.fj.length c1_0,.bool x.fq,.slice b4 x.fg.length c1_1,.slice b5 x.fo.length c1_2] 50)).heap[w.heap.size]? = some (.cells #[.slice a0 g.fl.length c0_0,.slice a1 g.fm.length c0_1] 32) from zn (by simp) (ze rfl))
 have HBR:=yq (show ((w.alloc (.cells #[.slice a0 g.fl.length c0_0,.slice a1 g.fm.length c0_1] 32)).alloc (.cells #[.string x.fa,.string x.fp,.slice b2 x.fj.length c1_0,.bool x.fq,.slice b4 x.fg.length c1_1,.slice b5 x.fo.length c1_2] 50)).heap[w.heap.size+1]? = some (.cells #[.string x.fa,.string x.fp,.slice b2 x.fj.length c1_0,.bool x.fq,.slice b4 x.fg.length c1_1,.slice b5 x.fo.length c1_2] 50) from ze (by simp))
 have HZ:=yq (show ((w.alloc (.cells #[.slice a0 g.fl.length c0_0,.slice a1 g.fm.length c0_1] 32)).alloc (.cells #[.string x.fa,.string x.fp,.slice b2 x.fj.length c1_0,.bool x.fq,.slice b4 x.fg.length c1_1,.slice b5 x.fo.length c1_2] 50)).heap.size=w.heap.size+2 by simp)
 have HC:=yq (zlb (c0_0:=c0_0) (c0_1:=c0_1) (c1_0:=c1_0) (c1_1:=c1_1) (c1_2:=c1_2) g okg hszg x okx hszx ((w.alloc (.cells #[.slice a0 g.fl.length c0_0,.slice a1 g.fm.length c0_1] 32)).alloc (.cells #[.string x.fa,.string x.fp,.slice b2 x.fj.length c1_0,.bool x.fq,.slice b4 x.fg.length c1_1,.slice b5 x.fo.length c1_2] 50)) (Nat.le_trans hhi HB.out.size) (hs0.later HB.out hhi) (hs1.later HB.out hhi) (hs2.later HB.out hhi) (hs4.later HB.out hhi) (hs5.later HB.out hhi));clear hs0 hs1 hs2 hs4 hs5 hhi okg hszg okx hszx HBG HBR HZ;generalize zib g x=bb at *
 go_enter Tryz.func13,Tryz.ntmps13
 (go_wp2_with fail);refine HC.out.mono ?_;rintro e w1 ⟨rfl,hb1⟩;have HBF:=yq (HB.out.trans (hb1.mono HB.out.size));clear hb1 HC
 cases bb
 all_goals
  go_wp2;go_ret;exact ⟨rfl,HBF.out⟩
theorem zk6 {lo hi:Nat} {a0 a1:Option Addr} {c0_0 c0_1:Nat} {b2 b4 b5:Option Addr} {c1_0 c1_1 c1_2:Nat} (g:DGrammar) (okg:g.ok) (hszg:g.sz≤1048576) (x:DRule) (okx:x.ok) (hszx:x.sz≤1048576) (w:World) (hhi:hi≤w.heap.size) (hs0:Sl lo hi w 2 g.fl.length (fun k=>DSymbol.ct (g.fl.getD k default)) a0) (hs1:Sl lo hi w 6 g.fm.length (fun k=>DRule.ct (g.fm.getD k default)) a1) (hs2:Sl lo hi w 1 x.fj.length (fun k=>ictS (x.fj.getD k default)) b2) (hs4:Sl lo hi w 9 x.fg.length (fun k=>DEquation.ct (x.fg.getD k default)) b4) (hs5:Sl lo hi w 16 x.fo.length (fun k=>DContribution.ct (x.fo.getD k default)) b5) :
  Calls Tryz.prog 13 #[.agg #[.slice a0 g.fl.length c0_0,.slice a1 g.fm.length c0_1],.agg #[.string x.fa,.string x.fp,.slice b2 x.fj.length c1_0,.bool x.fq,.slice b4 x.fg.length c1_1,.slice b5 x.fo.length c1_2],.int .i64 5] w fun e w'=>e = .returned (.bool (zha g x))∧Below w.heap.size w w':=by
 have HB:=yq (show Below w.heap.size w ((w.alloc (.cells #[.slice a0 g.fl.length c0_0,.slice a1 g.fm.length c0_1] 32)).alloc (.cells #[.string x.fa,.string x.fp,.slice b2 x.fj.length c1_0,.bool x.fq,.slice b4 x.fg.length c1_1,.slice b5 x.fo.length c1_2] 50)) from ((Below.refl w.heap.size w).alloc (Nat.le_refl _) (.cells #[.slice a0 g.fl.length c0_0,.slice a1 g.fm.length c0_1] 32)).alloc (by simp) (.cells #[.string x.fa,.string x.fp,.slice b2 x.fj.length c1_0,.bool x.fq,.slice b4 x.fg.length c1_1,.slice b5 x.fo.length c1_2] 50))
 have HBG:=yq (show ((w.alloc (.cells #[.slice a0 g.fl.length c0_0,.slice a1 g.fm.length c0_1] 32)).alloc (.cells #[.string x.fa,.string x.fp,.slice b2 x.fj.length c1_0,.bool x.fq,.slice b4 x.fg.length c1_1,.slice b5 x.fo.length c1_2] 50)).heap[w.heap.size]? = some (.cells #[.slice a0 g.fl.length c0_0,.slice a1 g.fm.length c0_1] 32) from zn (by simp) (ze rfl))
 have HBR:=yq (show ((w.alloc (.cells #[.slice a0 g.fl.length c0_0,.slice a1 g.fm.length c0_1] 32)).alloc (.cells #[.string x.fa,.string x.fp,.slice b2 x.fj.length c1_0,.bool x.fq,.slice b4 x.fg.length c1_1,.slice b5 x.fo.length c1_2] 50)).heap[w.heap.size+1]? = some (.cells #[.string x.fa,.string x.fp,.slice b2 x.fj.length c1_0,.bool x.fq,.slice b4 x.fg.length c1_1,.slice b5 x.fo.length c1_2] 50) from ze (by simp))
 have HZ:=yq (show ((w.alloc (.cells #[.slice a0 g.fl.length c0_0,.slice a1 g.fm.length c0_1] 32)).alloc (.cells #[.string x.fa,.string x.fp,.slice b2 x.fj.length c1_0,.bool x.fq,.slice b4 x.fg.length c1_1,.slice b5 x.fo.length c1_2] 50)).heap.size=w.heap.size+2 by simp)
 have HC:=yq (zot (c0_0:=c0_0) (c0_1:=c0_1) (c1_0:=c1_0) (c1_1:=c1_1) (c1_2:=c1_2) g okg hszg x okx hszx ((w.alloc (.cells #[.slice a0 g.fl.length c0_0,.slice a1 g.fm.length c0_1] 32)).alloc (.cells #[.string x.fa,.string x.fp,.slice b2 x.fj.length c1_0,.bool x.fq,.slice b4 x.fg.length c1_1,.slice b5 x.fo.length c1_2] 50)) (Nat.le_trans hhi HB.out.size) (hs0.later HB.out hhi) (hs1.later HB.out hhi) (hs2.later HB.out hhi) (hs4.later HB.out hhi) (hs5.later HB.out hhi));clear hs0 hs1 hs2 hs4 hs5 hhi okg hszg okx hszx HBG HBR HZ;generalize zha g x=bb at *
 go_enter Tryz.func13,Tryz.ntmps13
 (go_wp2_with fail);refine HC.out.mono ?_;rintro e w1 ⟨rfl,hb1⟩;have HBF:=yq (HB.out.trans (hb1.mono HB.out.size));clear hb1 HC
 cases bb
 all_goals
  go_wp2;go_ret;exact ⟨rfl,HBF.out⟩
theorem zkp {lo hi:Nat} {a0 a1:Option Addr} {c0_0 c0_1:Nat} {b2 b4 b5:Option Addr} {c1_0 c1_1 c1_2:Nat} (g:DGrammar) (okg:g.ok) (hszg:g.sz≤1048576) (x:DRule) (okx:x.ok) (hszx:x.sz≤1048576) (w:World) (hhi:hi≤w.heap.size) (hs0:Sl lo hi w 2 g.fl.length (fun k=>DSymbol.ct (g.fl.getD k default)) a0) (hs1:Sl lo hi w 6 g.fm.length (fun k=>DRule.ct (g.fm.getD k default)) a1) (hs2:Sl lo hi w 1 x.fj.length (fun k=>ictS (x.fj.getD k default)) b2) (hs4:Sl lo hi w 9 x.fg.length (fun k=>DEquation.ct (x.fg.getD k default)) b4) (hs5:Sl lo hi w 16 x.fo.length (fun k=>DContribution.ct (x.fo.getD k default)) b5) :
  Calls Tryz.prog 13 #[.agg #[.slice a0 g.fl.length c0_0,.slice a1 g.fm.length c0_1],.agg #[.string x.fa,.string x.fp,.slice b2 x.fj.length c1_0,.bool x.fq,.slice b4 x.fg.length c1_1,.slice b5 x.fo.length c1_2],.int .i64 6] w fun e w'=>e = .returned (.bool (zdc g x))∧Below w.heap.size w w':=by
 have HB:=yq (show Below w.heap.size w ((w.alloc (.cells #[.slice a0 g.fl.length c0_0,.slice a1 g.fm.length c0_1] 32)).alloc (.cells #[.string x.fa,.string x.fp,.slice b2 x.fj.length c1_0,.bool x.fq,.slice b4 x.fg.length c1_1,.slice b5 x.fo.length c1_2] 50)) from ((Below.refl w.heap.size w).alloc (Nat.le_refl _) (.cells #[.slice a0 g.fl.length c0_0,.slice a1 g.fm.length c0_1] 32)).alloc (by simp) (.cells #[.string x.fa,.string x.fp,.slice b2 x.fj.length c1_0,.bool x.fq,.slice b4 x.fg.length c1_1,.slice b5 x.fo.length c1_2] 50))
 have HBG:=yq (show ((w.alloc (.cells #[.slice a0 g.fl.length c0_0,.slice a1 g.fm.length c0_1] 32)).alloc (.cells #[.string x.fa,.string x.fp,.slice b2 x.fj.length c1_0,.bool x.fq,.slice b4 x.fg.length c1_1,.slice b5 x.fo.length c1_2] 50)).heap[w.heap.size]? = some (.cells #[.slice a0 g.fl.length c0_0,.slice a1 g.fm.length c0_1] 32) from zn (by simp) (ze rfl))
 have HBR:=yq (show ((w.alloc (.cells #[.slice a0 g.fl.length c0_0,.slice a1 g.fm.length c0_1] 32)).alloc (.cells #[.string x.fa,.string x.fp,.slice b2 x.fj.length c1_0,.bool x.fq,.slice b4 x.fg.length c1_1,.slice b5 x.fo.length c1_2] 50)).heap[w.heap.size+1]? = some (.cells #[.string x.fa,.string x.fp,.slice b2 x.fj.length c1_0,.bool x.fq,.slice b4 x.fg.length c1_1,.slice b5 x.fo.length c1_2] 50) from ze (by simp))
 have HZ:=yq (show ((w.alloc (.cells #[.slice a0 g.fl.length c0_0,.slice a1 g.fm.length c0_1] 32)).alloc (.cells #[.string x.fa,.string x.fp,.slice b2 x.fj.length c1_0,.bool x.fq,.slice b4 x.fg.length c1_1,.slice b5 x.fo.length c1_2] 50)).heap.size=w.heap.size+2 by simp)
 have HC:=yq (zmm (c0_0:=c0_0) (c0_1:=c0_1) (c1_0:=c1_0) (c1_1:=c1_1) (c1_2:=c1_2) g okg hszg x okx hszx ((w.alloc (.cells #[.slice a0 g.fl.length c0_0,.slice a1 g.fm.length c0_1] 32)).alloc (.cells #[.string x.fa,.string x.fp,.slice b2 x.fj.length c1_0,.bool x.fq,.slice b4 x.fg.length c1_1,.slice b5 x.fo.length c1_2] 50)) (Nat.le_trans hhi HB.out.size) (hs0.later HB.out hhi) (hs1.later HB.out hhi) (hs2.later HB.out hhi) (hs4.later HB.out hhi) (hs5.later HB.out hhi));clear hs0 hs1 hs2 hs4 hs5 hhi okg hszg okx hszx HBG HBR HZ;generalize zdc g x=bb at *
 go_enter Tryz.func13,Tryz.ntmps13
 (go_wp2_with fail);refine HC.out.mono ?_;rintro e w1 ⟨rfl,hb1⟩;have HBF:=yq (HB.out.trans (hb1.mono HB.out.size));clear hb1 HC
 cases bb
 all_goals
  go_wp2;go_ret;exact ⟨rfl,HBF.out⟩
theorem zl4 {lo hi:Nat} {a0 a1:Option Addr} {c0_0 c0_1:Nat} {b2 b4 b5:Option Addr} {c1_0 c1_1 c1_2:Nat} (g:DGrammar) (okg:g.ok) (hszg:g.sz≤1048576) (x:DRule) (okx:x.ok) (hszx:x.sz≤1048576) (c:Nat) (h3:3≤c) (h6:c≤6) (w:World) (hhi:hi≤w.heap.size) (hs0:Sl lo hi w 2 g.fl.length (fun k=>DSymbol.ct (g.fl.getD k default)) a0) (hs1:Sl lo hi w 6 g.fm.length (fun k=>DRule.ct (g.fm.getD k default)) a1) (hs2:Sl lo hi w 1 x.fj.length (fun k=>ictS (x.fj.getD k default)) b2) (hs4:Sl lo hi w 9 x.fg.length (fun k=>DEquation.ct (x.fg.getD k default)) b4) (hs5:Sl lo hi w 16 x.fo.length (fun k=>DContribution.ct (x.fo.getD k default)) b5) :
  Calls Tryz.prog 13 #[.agg #[.slice a0 g.fl.length c0_0,.slice a1 g.fm.length c0_1],.agg #[.string x.fa,.string x.fp,.slice b2 x.fj.length c1_0,.bool x.fq,.slice b4 x.fg.length c1_1,.slice b5 x.fo.length c1_2],.int .i64 (c:Int)] w fun e w'=>e = .returned (.bool (brk g x c))∧Below w.heap.size w w':=by
 rcases (by omega:c=3∨c=4∨c=5∨c=6) with rfl|rfl|rfl|rfl
 ·exact zlx g okg hszg x okx hszx w hhi hs0 hs1 hs2 hs4 hs5
 ·exact zk8 g okg hszg x okx hszx w hhi hs0 hs1 hs2 hs4 hs5
 ·exact zk6 g okg hszg x okx hszx w hhi hs0 hs1 hs2 hs4 hs5
 ·exact zkp g okg hszg x okx hszx w hhi hs0 hs1 hs2 hs4 hs5
noncomputable def za5 (g:DGrammar) (k i:Nat):Bool :=
 if k=0 then !zbn g else if k=1 then zft g i else if k=2 then zhf g i else if k=3 then zeh 1 (g.fl.getD i default).fu else brk g (g.fm.getD i default) (k - 1)
noncomputable def zes (g:DGrammar):Int × Int:=zbd (zbj g (za5 g))
def zb8 (g:DGrammar) (k:Nat):Prop:=∀ q,q < k → ∀ i,i < ((zbj g (za5 g)).getD q default).cnt→((zbj g (za5 g)).getD q default).bad i=false
def zud (g:DGrammar) (k:Nat):Nat:=if k=0∨k=3 then 1 else if k=1 then g.fl.length else g.fm.length
def zue (k:Nat):Int:=if k≤2 then 1 else (k:Int) - 1
theorem zm0 (g:DGrammar) {k:Nat} (h:k < 8):((zbj g (za5 g)).getD k default).cnt=zud g k∧((zbj g (za5 g)).getD k default).code=zue k∧((zbj g (za5 g)).getD k default).bad=za5 g k:=by
 match k,h with
 | 0,_|1,_|2,_|3,_|4,_|5,_|6,_|7,_=>exact ⟨rfl,rfl,rfl⟩
theorem zlw (g:DGrammar):zb8 g 0:=fun _ h=>absurd h (Nat.not_lt_zero _)
theorem zch {g:DGrammar} {k:Nat} (hk:k < 8) (h:zb8 g k) (hn:zbo (za5 g k) (zud g k)):zb8 g (k+1):=fun q hq i hi=>by
 rcases Nat.lt_or_ge q k with h1|h1
 ·exact h q h1 i hi
 ·obtain rfl:q=k:=by omega
  rw [(zm0 g hk).2.2];rw [(zm0 g hk).1] at hi;exact hn i hi
theorem zez {g:DGrammar} {k i:Nat} (hk:k < 8) (h:zb8 g k) (hn:zbo (za5 g k) i) (hi:i < zud g k) (hb:za5 g k i=true):zes g=(zue k,(i:Int)):=by
 have h1:=zgp (L:=zbj g (za5 g)) (k:=k) (i:=i) (show k < 8 from hk) h (by rw [(zm0 g hk).1];exact hi) (by rw [(zm0 g hk).2.2];exact hb) (fun j hj=>by rw [(zm0 g hk).2.2];exact hn j hj)
 rw [(zm0 g hk).2.1] at h1;exact h1
theorem zs4 {g:DGrammar} (h:zb8 g 8):zes g=(0,0):=zfu (L:=zbj g (za5 g)) h
theorem zsc {p : Nat → Bool} (h : p 0 = false) : zbo p 1 := fun j hj => by obtain rfl : j = 0 := by omega
                                                                           exact h
theorem zf1 {g:DGrammar} (h:zbn g=true):zb8 g 1:=zch (by decide) (zlw g) (zsc (show (!zbn g)=false by rw [h];rfl))
theorem zwj {g:DGrammar} (h:zbn g=false):zes g=(1,0):=zez (k:=0) (i:=0) (by decide) (zlw g) (zau _) Nat.zero_lt_one (show (!zbn g)=true by rw [h];rfl)
theorem zx2 {g:DGrammar} (h:zbn g=true) {i:Nat} (hb:zvb g (i:Int)):zes g=(1,(i:Int)):=by
 rcases hb with ⟨j,hj,h1,h2,h3⟩|⟨h0,j,hj,h1,h2,h3⟩|⟨hj,_,_⟩
 ·obtain rfl:i=j:=by omega
  exact zez (k:=1) (by decide) (zf1 h) h2 h1 h3
 ·obtain rfl:i=j:=by omega
  exact zez (k:=2) (by decide) (zch (by decide) (zf1 h) h0) h2 h1 h3
 ·omega
theorem zwa {g:DGrammar} (h:zbn g=true) {z:Int} (hz:z < 0) (hb:zvb g z):zb8 g 3:=by
 rcases hb with ⟨j,hj,_⟩|⟨_,j,hj,_⟩|⟨_,h1,h2⟩
 ·omega
 ·omega
 ·exact zch (by decide) (zch (by decide) (zf1 h) h1) h2
theorem zv4 {g:DGrammar} (h:zb8 g 3) (hb:zeh 1 (g.fl.getD 0 default).fu=true):zes g=(2,0):=zez (k:=3) (i:=0) (by decide) h (zau _) Nat.zero_lt_one hb
theorem zw6 {g:DGrammar} (h:zb8 g 3) (hb:zeh 1 (g.fl.getD 0 default).fu=false):zb8 g 4:=zch (by decide) h (zsc hb)
theorem zxh {g:DGrammar} {c k:Nat} (h3:3≤c) (h6:c≤6) (h:zb8 g (c+1)) (hk:k < g.fm.length) (hn:zbo (fun i=>brk g (g.fm.getD i default) c) k) (hb:brk g (g.fm.getD k default) c=true):zes g=((c:Int),(k:Int)):=by
 have e:za5 g (c+1)=fun i=>brk g (g.fm.getD i default) c:=by
  funext i
  unfold za5
  rw [if_neg (by omega),if_neg (by omega),if_neg (by omega),if_neg (by omega),Nat.add_sub_cancel]
 have h1:=zez (k:=c+1) (i:=k) (by omega) h (by rw [e];exact hn) (by unfold zud;rw [if_neg (by omega),if_neg (by omega)];exact hk) (by rw [e];exact hb)
 rw [h1]
 unfold zue
 rw [if_neg (by omega)]
 refine Prod.ext ?_ rfl
 show ((c+1:Nat):Int) - 1=(c:Int)
 omega
theorem zxy {g:DGrammar} {c:Nat} (h3:3≤c) (h6:c≤6) (h:zb8 g (c+1)) (hn:zbo (fun i=>brk g (g.fm.getD i default) c) g.fm.length):zb8 g (c+1+1):=by
 have e:za5 g (c+1)=fun i=>brk g (g.fm.getD i default) c:=by
  funext i
  unfold za5
  rw [if_neg (by omega),if_neg (by omega),if_neg (by omega),if_neg (by omega),Nat.add_sub_cancel]
 refine zch (by omega) h ?_
 rw [e]
 unfold zud
 rw [if_neg (by omega),if_neg (by omega)]
 exact hn
theorem zva (g:DGrammar):zbn g=(inR g.fl.length 1 4 && inR g.fm.length 1 8):=by
 unfold zbn
 by_cases h:1≤g.fl.length∧g.fl.length≤4
 ·rw [zc5 (by omega) (by omega),Bool.true_and]
  by_cases h2:1≤g.fm.length∧g.fm.length≤8
  ·rw [zc5 (by omega) (by omega)];exact decide_eq_true ⟨h.1,h.2,h2.1,h2.2⟩
  ·rw [zcy (by omega)];exact decide_eq_false (fun q=>h2 ⟨q.2.2.1,q.2.2.2⟩)
 ·rw [zcy (by omega),Bool.false_and];exact decide_eq_false (fun q=>h ⟨q.1,q.2.1⟩)
theorem zs5 {a b:Int} {p:Int × Int} (h:p=(a,b)):Ending.returned (.tuple #[.int .i64 a,.int .i64 b]) = .returned (.tuple #[.int .i64 p.1,.int .i64 p.2]):=by rw [h]
theorem zlq {lo hi:Nat} {a0 a1:Option Addr} {c0_0 c0_1:Nat} (g:DGrammar) (okg:g.ok) (hszg:g.sz≤1048576) (w:World) (hhi:hi≤w.heap.size) (hs0:Sl lo hi w 2 g.fl.length (fun k=>DSymbol.ct (g.fl.getD k default)) a0) (hs1:Sl lo hi w 6 g.fm.length (fun k=>DRule.ct (g.fm.getD k default)) a1) :
  Calls Tryz.prog 5 #[.agg #[.slice a0 g.fl.length c0_0,.slice a1 g.fm.length c0_1]] w fun e w'=>e = .returned (.tuple #[.int .i64 (zes g).1,.int .i64 (zes g).2])∧Below w.heap.size w w':=by
 have HB:=yq (show Below w.heap.size w (w.alloc (.cells #[.slice a0 g.fl.length c0_0,.slice a1 g.fm.length c0_1] 32)) from (Below.refl _ _).alloc (Nat.le_refl _) _)
 have HBG:=yq (show (w.alloc (.cells #[.slice a0 g.fl.length c0_0,.slice a1 g.fm.length c0_1] 32)).heap[w.heap.size]? = some (.cells #[.slice a0 g.fl.length c0_0,.slice a1 g.fm.length c0_1] 32) from ze rfl)
 have HZ:=yq (show (w.alloc (.cells #[.slice a0 g.fl.length c0_0,.slice a1 g.fm.length c0_1] 32)).heap.size=w.heap.size+1 by simp)
 have HHI:=yq hhi
 have HS0:=yq (fun (W:World) (hW:Below w.heap.size w W)=>hs0.later hW hhi)
 have HS1:=yq (fun (W:World) (hW:Below w.heap.size w W)=>hs1.later hW hhi)
 have hnS:g.fl.length≤1048576:=by unfold DGrammar.sz lsz at hszg;omega
 have hnR:g.fm.length≤1048576:=by unfold DGrammar.sz lsz at hszg;omega
 have HAL:=yq (fun (h:0 < g.fl.length)=>show (g.fl.getD 0 default).fu.length≤1048576 from by
  have h2:=zab (f:=DSymbol.sz) g.fl 0 h
  unfold DGrammar.sz at hszg
  have h3:(g.fl.getD 0 default).fu.length≤DSymbol.sz (g.fl.getD 0 default):=by unfold DSymbol.sz lsz;omega
  omega)
 have HI:=yq (fun (n b:Int) (W:World)=>zaf n 1 b W)
 have HBD:=yq (fun (W:World) (hW:Below w.heap.size w W)=>zr3 (c0_0:=c0_0) (c0_1:=c0_1) g okg hszg W (Nat.le_trans HHI.out hW.size) (HS0.out W hW) (HS1.out W hW))
 have HBK:=yq (fun (k:Nat) (hk:k < g.fm.length) (c:Nat) (h3:3≤c) (h6:c≤6) (b2 b4 b5:Option Addr) (c1_0 c1_1 c1_2:Nat) (W:World) (hW:Below w.heap.size w W) (h2:Sl lo hi W 1 (g.fm.getD k default).fj.length (fun j=>ictS ((g.fm.getD k default).fj.getD j default)) b2) (h4:Sl lo hi W 9 (g.fm.getD k default).fg.length (fun j=>DEquation.ct ((g.fm.getD k default).fg.getD j default)) b4) (h5:Sl lo hi W 16 (g.fm.getD k default).fo.length (fun j=>DContribution.ct ((g.fm.getD k default).fo.getD j default)) b5) =>
  zl4 (c0_0:=c0_0) (c0_1:=c0_1) (c1_0:=c1_0) (c1_1:=c1_1) (c1_2:=c1_2) g okg hszg (g.fm.getD k default) (okg.2.at hk) (Nat.le_trans (zab (f:=DRule.sz) g.fm k hk) (show lsz DRule.sz g.fm≤1048576 by unfold DGrammar.sz at hszg;omega)) c h3 h6 W (Nat.le_trans HHI.out hW.size) (HS0.out W hW) (HS1.out W hW) h2 h4 h5)
 have HSO:=yq (zva g)
 have HS1L:=yq (fun (h:zbn g=true)=>show 0 < g.fl.length from by unfold zbn at h;have:=of_decide_eq_true h;omega)
 have HNO:=yq (fun h=>zwj (g:=g) h)
 have HYES:=yq (fun (h:zbn g=true) (i:Nat) (hb:zvb g (i:Int))=>zx2 h hb)
 have HYN:=yq (fun (h:zbn g=true) (z:Int) (hz:z < 0) (hb:zvb g z)=>zwa h hz hb)
 have HMH:=yq (fun (h:zb8 g 3) hb=>zv4 h hb)
 have HMO:=yq (fun (h:zb8 g 3) hb=>zw6 h hb)
 have HBH:=yq (fun (c k:Nat) (h3:3≤c) (h6:c≤6) (h:zb8 g (c+1)) (hk:k < g.fm.length) hn hb=>zxh h3 h6 h hk hn hb)
 have HBO:=yq (fun (c:Nat) (h3:3≤c) (h6:c≤6) (h:zb8 g (c+1)) hn=>zxy h3 h6 h hn)
 have HNN:=yq (fun (h:zb8 g 8)=>zs4 h)
 clear hs0 hs1 hhi okg hszg;generalize zes g=res at *
 go_enter Tryz.func5,Tryz.ntmps5
 (go_wp2_with fail);refine (HI.out _ _ _).mono ?_;rintro e w0 ⟨rfl,hw0⟩
 have HB0:=yq (show Below w.heap.size w w0 from hw0 ▸ HB.out)
 have HG0:=yq (show w0.heap[w.heap.size]? = some (.cells #[.slice a0 g.fl.length c0_0,.slice a1 g.fm.length c0_1] 32) from hw0 ▸ HBG.out)
 have hz0:w.heap.size < w0.heap.size:=by rw [← hw0,HZ.out];omega
 clear hw0 HB HBG HZ;have g0:w0.cell? ⟨w.heap.size,0,none⟩=some (.slice a0 g.fl.length c0_0):=za HG0.out rfl;have g1:w0.cell? ⟨w.heap.size,1,none⟩=some (.slice a1 g.fm.length c0_1):=za HG0.out rfl
 cases hs1:inR g.fl.length 1 4 with
 | false =>
  have FIN:=yq (HNO.out (by rw [HSO.out,hs1];rfl))
  clear hs1;go_wp2;go_ret2;exact ⟨zs5 FIN.out,HB0.out⟩
 | true =>
  (go_wp2_with fail);refine (HI.out _ _ _).mono ?_;rintro e w9 ⟨rfl,rfl⟩
  cases hs2:inR g.fm.length 1 8 with
  | false =>
   have FIN:=yq (HNO.out (by rw [HSO.out,hs1,hs2];rfl))
   clear hs1 hs2;go_wp2;go_ret2;exact ⟨zs5 FIN.out,HB0.out⟩
  | true =>
   have HSOK:=yq (show zbn g=true by rw [HSO.out,hs1,hs2];rfl)
   have hS:=HS1L.out HSOK.out;clear hs1 hs2 HSO HNO HS1L HI;(go_wp2_with fail);refine (HBD.out _ HB0.out).mono ?_;rintro e w1 ⟨⟨z,rfl,hz⟩,hb1⟩;have HBZ:=yq hz;have HB1:=yq (HB0.out.trans (hb1.mono HB0.out.size));have HG1:=yq ((hb1.block _ hz0).trans HG0.out);have hz1:w.heap.size < w1.heap.size:=Nat.lt_of_lt_of_le hz0 hb1.size;clear hz hb1 g0 g1 HBD
   by_cases hzz:0≤z
   ·obtain ⟨i,rfl⟩ : ∃ i:Nat,z=i:=⟨z.toNat,by omega⟩
    have FIN:=yq (HYES.out HSOK.out i HBZ.out);go_wp2;go_ret2;exact ⟨zs5 FIN.out,HB1.out⟩
   ·have HK3:=yq (HYN.out HSOK.out z (by omega) HBZ.out)
    clear HYES HYN HBZ;go_wp2;clear hzz
    go_loopw [5] (fun i wr=>∃ k:Nat,k≤(g.fl.getD 0 default).fu.length∧i = .int .i64 (k:Int)∧zet 1 (g.fl.getD 0 default).fu k∧Below w1.heap.size w1 wr) (fun i _=>(g.fl.getD 0 default).fu.length - (intOf i).toNat)
    case atStart=>exact ⟨0,Nat.zero_le _,rfl,fun _ h=>absurd h (Nat.not_lt_zero _),Below.refl _ _⟩
    case round =>
     obtain ⟨k,hk,rfl,hno,hb⟩:=hrel;have HN:=yq hno;have HBW:=yq hb;have HBT:=yq (HB1.out.trans (hb.mono HB1.out.size));have HGW:=yq ((hb.block _ hz1).trans HG1.out);have hzw:w.heap.size < wr.heap.size:=Nat.lt_of_lt_of_le hz1 hb.size;have hal:=HAL.out hS;clear hno hb;obtain ⟨sb,so,hA0,_,_,hc⟩:=(HS0.out wr HBT.out).at 0 hS;obtain ⟨b1,c1,h0,h1,hsa⟩:=DSymbol.open hc;have g0:wr.cell? ⟨w.heap.size,0,none⟩=some (.slice (some ⟨sb,so,none⟩) g.fl.length c0_0):=hA0 ▸ za HGW.out rfl
     have hSI:(0:Int) < (g.fl.length:Int):=by omega
     rw [Nat.zero_mul,Nat.add_zero] at h1;clear hc h0 hA0
     by_cases hlt:k < (g.fl.getD 0 default).fu.length
     ·have hkI:(0:Int)≤(k:Int)∧(k:Int) < ((g.fl.getD 0 default).fu.length:Int):=by omega
      obtain ⟨ab,ao,rfl,_,_,hc⟩:=hsa.at k hlt;obtain ⟨hc0,hc1,hc2,hc3⟩:=DAttribute.open hc;clear hc hsa hc0 hc1 hc3
      by_cases hm:((g.fl.getD 0 default).fu.getD k default).fv=1
      ·have FIN:=yq (HMH.out HK3.out (znb hlt hm))
       rw [hm] at hc2;clear hm;generalize (g.fl.getD 0 default).fu=at0 at *;go_wp2;go_ret2;exact ⟨zs5 FIN.out,HBT.out⟩
      ·have HN1:=yq (show zet 1 (g.fl.getD 0 default).fu (k+1) from fun j hj=>by
        rcases Nat.lt_or_ge j k with h|h
        ·exact HN.out j h
        ·obtain rfl:j=k:=by omega
         exact hm)
       have e1:(((g.fl.getD 0 default).fu.getD k default).fv == 1)=false:=beq_eq_false_iff_ne.2 hm;generalize ((g.fl.getD 0 default).fu.getD k default).fv=md at *;clear HMH HMO HAL;generalize (g.fl.getD 0 default).fu=at0 at *;go_wp2;go_roundw
       case rel=>exact ⟨k+1,by omega,by go_num,HN1.out,HBW.out⟩
       case measure=>simp [intOf];omega
     ·obtain rfl:k=(g.fl.getD 0 default).fu.length:=by omega
      have HK4:=yq (show zb8 g (3+1) from HMO.out HK3.out (zil HN.out))
      clear HMH HMO HAL hsa HN;generalize (g.fl.getD 0 default).fu=at0 at *;go_wp2;clear g0 h1 HB1 HG1 HK3 HBW hal;have HBA:=HBT;have HGA:=HGW;have hza:=hzw;clear HBT HGW hzw;generalize wr=wa at *
      go_loopw [6] (fun i wr=>∃ c:Nat,3≤c∧c≤7∧i = .int .i64 (c:Int)∧zb8 g (c+1)∧Below wa.heap.size wa wr) (fun i _=>7 - (intOf i).toNat)
      case atStart=>exact ⟨3,Nat.le_refl _,by decide,rfl,HK4.out,Below.refl _ _⟩
      case round =>
       obtain ⟨c,hc3,hc7,rfl,hup,hb⟩:=hrel;have HUP:=yq hup;have HBC:=yq hb;have HBCT:=yq (HBA.out.trans (hb.mono HBA.out.size));have HGC:=yq ((hb.block _ hza).trans HGA.out);have hzc:w.heap.size < wr.heap.size:=Nat.lt_of_lt_of_le hza hb.size;clear hup hb
       by_cases hc6:c≤6
       ·have hcI:(c:Int)≤6:=by omega
        go_wp2;generalize wr=wb at *
        go_loopw [7] (fun i wr=>∃ k:Nat,k≤g.fm.length∧i = .int .i64 (k:Int)∧zbo (fun i=>brk g (g.fm.getD i default) c) k∧Below wb.heap.size wb wr) (fun i _=>g.fm.length - (intOf i).toNat)
        case atStart=>exact ⟨0,Nat.zero_le _,rfl,zau _,Below.refl _ _⟩
        case round =>
         obtain ⟨k,hk,rfl,hno,hb⟩:=hrel;have HN:=yq hno;have HBW:=yq hb;have HBT:=yq (HBCT.out.trans (hb.mono HBCT.out.size));have HGW:=yq ((hb.block _ hzc).trans HGC.out)
         have HZW:=yq (show w.heap.size < wr.heap.size from Nat.lt_of_lt_of_le hzc hb.size)
         have HBWC:=yq (HBC.out.trans (hb.mono HBC.out.size));clear hno hb;have g1:wr.cell? ⟨w.heap.size,1,none⟩=some (.slice a1 g.fm.length c0_1):=za HGW.out rfl
         by_cases hlk:k < g.fm.length
         ·have hkI:(0:Int)≤(k:Int)∧(k:Int) < (g.fm.length:Int):=by omega
          obtain ⟨rb,ro,rfl,_,hrb,hc⟩:=(HS1.out wr HBT.out).at k hlk;obtain ⟨b2,c1_0,b4,c1_1,b5,c1_2,q0,q1,q2,q3,q4,q5,hs2,hs4,hs5⟩:=DRule.open hc
          have HRB:=yq (show rb < wr.heap.size from Nat.lt_of_lt_of_le hrb (Nat.le_trans HHI.out HBT.out.size))
          have HROW:=yq (And.intro q0 (And.intro q1 (And.intro q2 (And.intro q3 (And.intro q4 q5)))))
          have HIW:=yq (show hi≤wr.heap.size from Nat.le_trans HHI.out HBT.out.size)
          have HCC:=yq (fun (W:World) (hW:Below wr.heap.size wr W)=>HBK.out k hlk c hc3 hc6 b2 b4 b5 c1_0 c1_1 c1_2 W (HBT.out.trans (hW.mono HBT.out.size)) (hs2.later hW HIW.out) (hs4.later hW HIW.out) (hs5.later hW HIW.out))
          have HBHK:=yq (fun hb=>HBH.out c k hc3 hc6 HUP.out hlk HN.out hb)
          have HN1:=yq (fun (hb:brk g (g.fm.getD k default) c=false)=>zap HN.out hb)
          clear hc hs2 hs4 hs5 hrb q0 q1 q2 q3 q4 q5 HBK HBH HBO;generalize brk g (g.fm.getD k default) c=bb at *;generalize g.fm.getD k default=x at *;go_wp2;clear g1
          refine zw [([],.none,[]),([],.none,[]),([1],.none,[]),([],.none,[]),([2,3],.none,[]),([4],.none,[]),([],.none,[]),([0,5,6],.none,[])] [0,1,2,3,4,5,6,7] [] (fun _=>False) (fun _=>True) (fun _=>0) (fun jq9 V L H wx=>match jq9 with|0=>V 0 = .agg #[.slice a0 g.fl.length c0_0,.slice (some ⟨rb,ro,none⟩) g.fm.length c0_1]|1=>V 1 = .pointer (some ⟨w.heap.size,1,none⟩)|2=>V 2 = .slice (some ⟨rb,ro,none⟩) g.fm.length c0_1|3=>V 3 = .int .i64 (k:Int)|4=>V 4 = .pointer (some ⟨rb,ro+k * 6,none⟩)|5=>V 5 = .agg #[.string x.fa,.string x.fp,.slice b2 x.fj.length c1_0,.bool x.fq,.slice b4 x.fg.length c1_1,.slice b5 x.fo.length c1_2]|6=>V 6 = .int .i64 (c:Int)|7=>V 7 = .bool bb|_=>True) (by kernel_rfl) (by kernel_rfl) ?obs (fun _ h=>h.elim) trivial (fun _ _ _ _ _=>trivial) ?loc ?lasts ?walk
          case obs =>
           trivial
          case loc =>
           intro k V V' L H wx h0 h1 hG
           match k with
           | 0 =>
            (try dsimp only at hG ⊢);rw [← h0];exact hG
           | 1 =>
            (try dsimp only at hG ⊢);rw [← h0];exact hG
           | 2 =>
            (try dsimp only at hG ⊢);rw [← h0];exact hG
           | 3 =>
            (try dsimp only at hG ⊢);rw [← h0];exact hG
           | 4 =>
            (try dsimp only at hG ⊢);rw [← h0];exact hG
           | 5 =>
            (try dsimp only at hG ⊢);rw [← h0];exact hG
           | 6 =>
            (try dsimp only at hG ⊢);rw [← h0];exact hG
           | 7 =>
            (try dsimp only at hG ⊢);rw [← h0];exact hG
           | n+8=>trivial
          case lasts =>
           intro i hi V L H wx wy hB hH hk
           match i,hi with
           | 0,_=>exact fun h=>h
           | 1,_=>exact fun h=>h
           | 2,_=>exact fun h=>h
           | 3,_=>exact fun h=>h
           | 4,_=>exact fun h=>h
           | 5,_=>exact fun h=>h
           | 6,_=>exact fun h=>h
           | 7,_=>exact fun h=>h
           | n+8,hn=>exact absurd hn (by simp)
          case walk =>
           simp (maxSteps:=4000000) only [zda,Nat.reduceAdd,Act.put,List.setIfInBounds_toArray,List.set_cons_succ,List.set_cons_zero]
           refine ⟨?_,?_,?_,?_,?_,?_,?_,?_,?_⟩
           ·intro V L H w7 hw hk hj hd
            clear hd
            have g0:w7.cell? ⟨w.heap.size,0,none⟩=some (.slice a0 g.fl.length c0_0):=((zd hw).cell (p:=⟨w.heap.size,0,none⟩) (show w.heap.size < wr.heap.size from HZW.out)).trans (za HGW.out rfl)
            have g1:w7.cell? ⟨w.heap.size,1,none⟩=some (.slice (some ⟨rb,ro,none⟩) g.fm.length c0_1):=((zd hw).cell (p:=⟨w.heap.size,1,none⟩) (show w.heap.size < wr.heap.size from HZW.out)).trans (za HGW.out rfl)
            (go_wp2_with fail);exact zc _ rfl ⟨⟨WritesF.refl _ _,hj⟩,zb⟩
           ·intro V L H w7 hw hk hj hd
            clear hd;(go_wp2_with fail);exact zc _ rfl ⟨⟨WritesF.refl _ _,hj⟩,zb⟩
           ·intro V L H w7 hw hk hj hd
            obtain ⟨⟨_,_,_,hv1⟩,-⟩:=hd;rw [hv1];have HV1:=yq hv1;clear hv1
            have g1:w7.cell? ⟨w.heap.size,1,none⟩=some (.slice (some ⟨rb,ro,none⟩) g.fm.length c0_1):=((zd hw).cell (p:=⟨w.heap.size,1,none⟩) (show w.heap.size < wr.heap.size from HZW.out)).trans (za HGW.out rfl)
            (go_wp2_with fail);exact zc _ rfl ⟨⟨WritesF.refl _ _,hj⟩,zb⟩
           ·intro V L H w7 hw hk hj hd
            clear hd;(go_wp2_with fail);exact zc _ rfl ⟨⟨WritesF.refl _ _,hj⟩,zb⟩
           ·intro V L H w7 hw hk hj hd
            obtain ⟨⟨_,_,_,hv2⟩,⟨_,_,_,hv3⟩,-⟩:=hd;rw [hv2,hv3];have HV2:=yq hv2;have HV3:=yq hv3;clear hv2 hv3;(go_wp2_with fail);exact zc _ rfl ⟨⟨WritesF.refl _ _,hj⟩,zb⟩
           ·intro V L H w7 hw hk hj hd
            obtain ⟨⟨_,_,_,hv4⟩,-⟩:=hd;rw [hv4];have HV4:=yq hv4;clear hv4;have r0:w7.cell? ⟨rb,ro+k * 6,none⟩=some (.string x.fa):=((zd hw).cell (p:=⟨rb,ro+k * 6,none⟩) HRB.out).trans HROW.out.1;have r1:w7.cell? ⟨rb,ro+k * 6+1,none⟩=some (.string x.fp):=((zd hw).cell (p:=⟨rb,ro+k * 6+1,none⟩) HRB.out).trans HROW.out.2.1;have r2:w7.cell? ⟨rb,ro+k * 6+2,none⟩=some (.slice b2 x.fj.length c1_0):=((zd hw).cell (p:=⟨rb,ro+k * 6+2,none⟩) HRB.out).trans HROW.out.2.2.1;have r3:w7.cell? ⟨rb,ro+k * 6+3,none⟩=some (.bool x.fq):=((zd hw).cell (p:=⟨rb,ro+k * 6+3,none⟩) HRB.out).trans HROW.out.2.2.2.1;have r4:w7.cell? ⟨rb,ro+k * 6+4,none⟩=some (.slice b4 x.fg.length c1_1):=((zd hw).cell (p:=⟨rb,ro+k * 6+4,none⟩) HRB.out).trans HROW.out.2.2.2.2.1;have r5:w7.cell? ⟨rb,ro+k * 6+5,none⟩=some (.slice b5 x.fo.length c1_2):=((zd hw).cell (p:=⟨rb,ro+k * 6+5,none⟩) HRB.out).trans HROW.out.2.2.2.2.2;(go_wp2_with fail);exact zc _ rfl ⟨⟨WritesF.refl _ _,hj⟩,zb⟩
           ·intro V L H w7 hw hk hj hd
            clear hd;(go_wp2_with fail);exact zc _ rfl ⟨⟨WritesF.refl _ _,hj⟩,zb⟩
           ·intro V L H w7 hw hk hj hd
            obtain ⟨⟨_,_,_,hv0⟩,⟨_,_,_,hv5⟩,⟨_,_,_,hv6⟩,-⟩:=hd;rw [hv0,hv5,hv6];have HV0:=yq hv0;have HV5:=yq hv5;have HV6:=yq hv6;clear hv0 hv5 hv6;(go_wp2_with fail);refine (HCC.out w7 (zd hw)).mono ?_;rintro e w2 ⟨rfl,hb2⟩;(go_wp2_with fail);exact zc _ rfl ⟨⟨(WritesF.refl _ _).later hb2,trivial⟩,zb⟩
           ·intro V L H w7 hw hj hd hap hdead
            obtain ⟨⟨_,_,_,hv0⟩,⟨_,_,_,hv1⟩,⟨_,_,_,hv2⟩,⟨_,_,_,hv3⟩,⟨_,_,_,hv4⟩,⟨_,_,_,hv5⟩,⟨_,_,_,hv6⟩,⟨_,_,_,hv7⟩,-⟩:=hd;rw [hv0,hv1,hv2,hv3,hv4,hv5,hv6,hv7];clear hv0 hv1 hv2 hv3 hv4 hv5 hv6 hv7;have HBN:=yq (HBW.out.trans ((zd hw).mono HBW.out.size));have HBF:=yq (HBT.out.trans ((zd hw).mono HBT.out.size));clear hw hj hap hdead
            cases bb with
            | true =>
             have FIN:=yq (HBHK.out rfl);go_wp2;go_ret2;exact ⟨zs5 FIN.out,HBF.out⟩
            | false =>
             have HN2:=yq (HN1.out rfl);go_wp2;go_roundw
             case rel=>exact ⟨k+1,by omega,by go_num,HN2.out,HBN.out⟩
             case measure=>simp [intOf];omega
         ·obtain rfl:k=g.fm.length:=by omega
          have HUP1:=yq (HBO.out c hc3 hc6 HUP.out HN.out);go_wp2;go_roundw
          case rel=>exact ⟨c+1,by omega,by omega,by go_num,HUP1.out,HBWC.out⟩
          case measure=>simp [intOf];omega
       ·obtain rfl:c=7:=by omega
        have FIN:=yq (HNN.out HUP.out);go_wp2;go_ret2;exact ⟨zs5 FIN.out,HBCT.out⟩
theorem zfn {hi:Nat} {a0 a1:Option Addr} {c0_0 c0_1:Nat} {b2 b4 b5:Option Addr} {c1_0 c1_1 c1_2:Nat} (g:DGrammar) (okg:g.ok) (hszg:g.sz≤1048576) (x:DRule) (okx:x.ok) (hszx:x.sz≤1048576) (w:World) (hhi:hi≤w.heap.size) (hs0:Sf 0 hi w 2 g.fl.length (fun k=>DSymbol.ct (g.fl.getD k default)) a0) (hs1:Sf 0 hi w 6 g.fm.length (fun k=>DRule.ct (g.fm.getD k default)) a1) (hs2:Sf 0 hi w 1 x.fj.length (fun k=>ictS (x.fj.getD k default)) b2) (hs4:Sf 0 hi w 9 x.fg.length (fun k=>DEquation.ct (x.fg.getD k default)) b4) (hs5:Sf 0 hi w 16 x.fo.length (fun k=>DContribution.ct (x.fo.getD k default)) b5) :
  Calls Tryz.prog 32 #[.agg #[.slice a0 g.fl.length c0_0,.slice a1 g.fm.length c0_1],.agg #[.string x.fa,.string x.fp,.slice b2 x.fj.length c1_0,.bool x.fq,.slice b4 x.fg.length c1_1,.slice b5 x.fo.length c1_2]] w fun e w'=>e = .returned (.bool (zdc g x))∧Below w.heap.size w w':=by
 have HB:=yq (show Below w.heap.size w ((w.alloc (.cells #[.slice a0 g.fl.length c0_0,.slice a1 g.fm.length c0_1] 32)).alloc (.cells #[.string x.fa,.string x.fp,.slice b2 x.fj.length c1_0,.bool x.fq,.slice b4 x.fg.length c1_1,.slice b5 x.fo.length c1_2] 50)) from ((Below.refl w.heap.size w).alloc (Nat.le_refl _) (.cells #[.slice a0 g.fl.length c0_0,.slice a1 g.fm.length c0_1] 32)).alloc (by simp) (.cells #[.string x.fa,.string x.fp,.slice b2 x.fj.length c1_0,.bool x.fq,.slice b4 x.fg.length c1_1,.slice b5 x.fo.length c1_2] 50))
 have HBG:=yq (show ((w.alloc (.cells #[.slice a0 g.fl.length c0_0,.slice a1 g.fm.length c0_1] 32)).alloc (.cells #[.string x.fa,.string x.fp,.slice b2 x.fj.length c1_0,.bool x.fq,.slice b4 x.fg.length c1_1,.slice b5 x.fo.length c1_2] 50)).heap[w.heap.size]? = some (.cells #[.slice a0 g.fl.length c0_0,.slice a1 g.fm.length c0_1] 32) from zn (by simp) (ze rfl))
 have HBR:=yq (show ((w.alloc (.cells #[.slice a0 g.fl.length c0_0,.slice a1 g.fm.length c0_1] 32)).alloc (.cells #[.string x.fa,.string x.fp,.slice b2 x.fj.length c1_0,.bool x.fq,.slice b4 x.fg.length c1_1,.slice b5 x.fo.length c1_2] 50)).heap[w.heap.size+1]? = some (.cells #[.string x.fa,.string x.fp,.slice b2 x.fj.length c1_0,.bool x.fq,.slice b4 x.fg.length c1_1,.slice b5 x.fo.length c1_2] 50) from ze (by simp))
 have HZ:=yq (show ((w.alloc (.cells #[.slice a0 g.fl.length c0_0,.slice a1 g.fm.length c0_1] 32)).alloc (.cells #[.string x.fa,.string x.fp,.slice b2 x.fj.length c1_0,.bool x.fq,.slice b4 x.fg.length c1_1,.slice b5 x.fo.length c1_2] 50)).heap.size=w.heap.size+2 by simp)
 have HS0:=yq (fun (W:World) (hW:Below w.heap.size w W)=>hs0.later hW hhi)
 have HS1:=yq (fun (W:World) (hW:Below w.heap.size w W)=>hs1.later hW hhi)
 have HS2:=yq (fun (W:World) (hW:Below w.heap.size w W)=>hs2.later hW hhi)
 have HS4:=yq (fun (W:World) (hW:Below w.heap.size w W)=>hs4.later hW hhi)
 have HS5:=yq (fun (W:World) (hW:Below w.heap.size w W)=>hs5.later hW hhi)
 have HHI:=yq hhi
 have HEX:=yq (fun (W:World) (hW:Below w.heap.size w W)=>zgd (b2:=b2) (c1_0:=c1_0) (c1_1:=c1_1) (c1_2:=c1_2) x hszx W (Nat.le_trans HHI.out hW.size) (HS4.out W hW) (HS5.out W hW))
 have HMU:=yq (fun (oc:DOccurrence) (h:okO oc) (W:World) (hW:Below w.heap.size w W)=>zrq (c0_0:=c0_0) (c0_1:=c0_1) (c1_0:=c1_0) (c1_1:=c1_1) (c1_2:=c1_2) g okg hszg x okx hszx oc h.1 h.2 W (Nat.le_trans HHI.out hW.size) (HS0.out W hW).sl (HS1.out W hW).sl (HS2.out W hW).sl (HS4.out W hW).sl (HS5.out W hW).sl)
 have hne1:x.fg.length≤1048576:=by unfold DRule.sz lsz at hszx;omega
 have hnc1:x.fo.length≤1048576:=by unfold DRule.sz lsz at hszx;omega
 have HLEN:=yq (show (zao x).length≤4194304 from Nat.le_trans (zm5 x x.fo.length) (by omega))
 clear hne1 hnc1
 have HSZ:=yq (fun k (hk:k < (zao x).length)=>zne hszx ((zao x).getD k default) (by rw [List.getD_eq_getElem?_getD,List.getElem?_eq_getElem hk];exact List.getElem_mem hk))
 have HOKE:=yq (fun k (hk:k < (zao x).length)=>zm4 okx ((zao x).getD k default) (by rw [List.getD_eq_getElem?_getD,List.getElem?_eq_getElem hk];exact List.getElem_mem hk))
 have HR:=yq (show zdc g x=anyP (zmu g x) (zao x).length from rfl)
 have HE:=yq (fun (k:Nat)=>show zmu g x k=zev g x ((zao x).getD k default) from rfl)
 clear hs0 hs1 hs2 hs4 hs5 hhi okg hszg okx hszx
 go_enter Tryz.func32,Tryz.ntmps32
 (go_wp2_with fail);refine (HEX.out _ HB.out).mono ?_;rintro e wl ⟨al,cl,rfl,hsl,hbl⟩;have HBL:=yq (HB.out.trans (hbl.mono HB.out.size))
 have HZL:=yq (show w.heap.size+2≤wl.heap.size from HZ.out ▸ hbl.size)
 have HSL:=yq hsl
 have HGL:=yq ((hbl.block w.heap.size (by rw [HZ.out];omega)).trans HBG.out)
 have HRL:=yq ((hbl.block (w.heap.size+1) (by rw [HZ.out];omega)).trans HBR.out)
 clear hsl hbl HEX HB HBG HBR HZ;generalize zao x=lst at *;have hlst:=HLEN.out;go_wp2
 go_loopw [12] (fun i wr=>∃ k:Nat,k≤lst.length∧i = .int .i64 (k:Int)∧zbo (zmu g x) k∧Below wl.heap.size wl wr) (fun i _=>lst.length - (intOf i).toNat)
 case atStart=>exact ⟨0,Nat.zero_le _,rfl,zau _,Below.refl _ _⟩
 case round =>
  obtain ⟨k,hk,rfl,hno,hb⟩:=hrel;have HN:=yq hno;have HBT:=yq (HBL.out.trans (hb.mono HBL.out.size));have HBW:=yq hb;have hzw:w.heap.size+2≤wr.heap.size:=Nat.le_trans HZL.out hb.size
  have HGW:=yq ((hb.block w.heap.size (by have:=HZL.out;omega)).trans HGL.out)
  have HRW:=yq ((hb.block (w.heap.size+1) (by have:=HZL.out;omega)).trans HRL.out)
  have HSW:=yq (HSL.out.later hb (Nat.le_refl _));have HLW:=yq hb.size;clear hno hb
  by_cases hlt:k < lst.length
  ·have hkI:(0:Int)≤(k:Int)∧(k:Int) < (lst.length:Int):=by omega
   obtain ⟨lb,loff,rfl,_,hlb,_,hc⟩:=HSW.out.at k hlt;rw [zb6 hlt] at hc;obtain ⟨a9,c9,hc0,hc1,hc2,hc3,hc4,hc5,hc6,hs9⟩:=DExpr.openS hc;have HEK:=yq (HE.out k);have hszy:=HSZ.out k hlt;have hoky:=HOKE.out k hlt;clear hc HE;generalize lst.getD k default=y at *
   have HBA:=yq (show Below wr.heap.size wr (wr.alloc (.cells #[.int .i64 y.fh,.int .i64 y.fN,.int .i64 y.fb,.int .i64 y.fk,.string y.fd,.string y.fa,.slice a9 y.fc.length c9] 90)) from (Below.refl _ _).alloc (Nat.le_refl _) _)
   have HAU:=yq (zmq (c0_0:=c9) y hszy (wr.alloc (.cells #[.int .i64 y.fh,.int .i64 y.fN,.int .i64 y.fb,.int .i64 y.fk,.string y.fd,.string y.fa,.slice a9 y.fc.length c9] 90)) (Nat.le_trans HLW.out HBA.out.size) (hs9.later HBA.out HLW.out))
   have HUOK:=yq (fun j (hj:j < (zac y).length)=>zve hoky hszy hj)
   have HUL:=yq (ziq hszy)
   have HUR:=yq (show zev g x y=anyP (zrc g x y) (zac y).length from rfl)
   have HUE:=yq (fun (j:Nat)=>show zrc g x y j = !zd3 g x ((zac y).getD j default) from rfl)
   clear hszy hoky hs9;have e0:(wr.alloc (.cells #[.int .i64 y.fh,.int .i64 y.fN,.int .i64 y.fb,.int .i64 y.fk,.string y.fd,.string y.fa,.slice a9 y.fc.length c9] 90)).cell? ⟨wr.heap.size,0,none⟩=some (.int .i64 y.fh):=za (ze rfl) rfl;have e1:(wr.alloc (.cells #[.int .i64 y.fh,.int .i64 y.fN,.int .i64 y.fb,.int .i64 y.fk,.string y.fd,.string y.fa,.slice a9 y.fc.length c9] 90)).cell? ⟨wr.heap.size,1,none⟩=some (.int .i64 y.fN):=za (ze rfl) rfl;have e2:(wr.alloc (.cells #[.int .i64 y.fh,.int .i64 y.fN,.int .i64 y.fb,.int .i64 y.fk,.string y.fd,.string y.fa,.slice a9 y.fc.length c9] 90)).cell? ⟨wr.heap.size,2,none⟩=some (.int .i64 y.fb):=za (ze rfl) rfl;have e3:(wr.alloc (.cells #[.int .i64 y.fh,.int .i64 y.fN,.int .i64 y.fb,.int .i64 y.fk,.string y.fd,.string y.fa,.slice a9 y.fc.length c9] 90)).cell? ⟨wr.heap.size,3,none⟩=some (.int .i64 y.fk):=za (ze rfl) rfl;have e4:(wr.alloc (.cells #[.int .i64 y.fh,.int .i64 y.fN,.int .i64 y.fb,.int .i64 y.fk,.string y.fd,.string y.fa,.slice a9 y.fc.length c9] 90)).cell? ⟨wr.heap.size,4,none⟩=some (.string y.fd):=za (ze rfl) rfl;have e5:(wr.alloc (.cells #[.int .i64 y.fh,.int .i64 y.fN,.int .i64 y.fb,.int .i64 y.fk,.string y.fd,.string y.fa,.slice a9 y.fc.length c9] 90)).cell? ⟨wr.heap.size,5,none⟩=some (.string y.fa):=za (ze rfl) rfl;have e6:(wr.alloc (.cells #[.int .i64 y.fh,.int .i64 y.fN,.int .i64 y.fb,.int .i64 y.fk,.string y.fd,.string y.fa,.slice a9 y.fc.length c9] 90)).cell? ⟨wr.heap.size,6,none⟩=some (.slice a9 y.fc.length c9):=za (ze rfl) rfl
   go_wp2_with (refine wpList_store_rowTo rfl 90 (.tmp 6) (.tmp 15) rfl rfl wr.heap.size _ rfl rfl 90 _ (ze rfl) (by kernel_rfl) rfl (by simp [Value.oneCell']) ?_;rw [zbc rfl])
   refine HAU.out.mono ?_;rintro e w4 ⟨ao,co,rfl,hol,hb4⟩
   have HB4:=yq (show Below wr.heap.size wr w4 from HBA.out.trans (hb4.mono HBA.out.size))
   have HOL:=yq (show Sl 0 w4.heap.size w4 2 (zac y).length (fun k=>DOccurrence.ct ((zac y).getD k default)) ao from Sl.of (hol.lies fun y hy=>⟨Nat.zero_le _,hy.2⟩))
   clear hol hb4 hlb hc0 hc1 hc2 hc3 hc4 hc5 hc6 e0 e1 e2 e3 e4 e5 e6 HAU HBA;have HB4T:=yq (HBT.out.trans (HB4.out.mono HBT.out.size));have HB4W:=yq (HBW.out.trans (HB4.out.mono HBW.out.size));have hz4:w.heap.size+2≤w4.heap.size:=Nat.le_trans hzw HB4.out.size
   have HG4:=yq ((HB4.out.block w.heap.size (by omega)).trans HGW.out)
   have HR4:=yq ((HB4.out.block (w.heap.size+1) (by omega)).trans HRW.out)
   generalize zac y=us at *;have hus:=HUL.out;clear HGW HRW HSW HLW HBT HBW HB4 hzw;go_wp2
   go_loopw [19] (fun i wr=>∃ j:Nat,j≤us.length∧i = .int .i64 (j:Int)∧zbo (zrc g x y) j∧Below w4.heap.size w4 wr) (fun i _=>us.length - (intOf i).toNat)
   case atStart=>exact ⟨0,Nat.zero_le _,rfl,zau _,Below.refl _ _⟩
   case round =>
    obtain ⟨j,hj,rfl,hnj,hb⟩:=hrel;have HNJ:=yq hnj;have HBJ:=yq hb;have HBJT:=yq (HB4T.out.trans (hb.mono HB4T.out.size));have HBJW:=yq (HB4W.out.trans (hb.mono HB4W.out.size));have hzj:w.heap.size+2≤wr.heap.size:=Nat.le_trans hz4 hb.size
    have HGJ:=yq ((hb.block w.heap.size (by omega)).trans HG4.out)
    have HRJ:=yq ((hb.block (w.heap.size+1) (by omega)).trans HR4.out)
    have HSJ:=yq (HOL.out.later hb (Nat.le_refl _));clear hnj hb
    by_cases hlj:j < us.length
    ·have hjI:(0:Int)≤(j:Int)∧(j:Int) < (us.length:Int):=by omega
     obtain ⟨ub,uo,rfl,_,hub,hc⟩:=HSJ.out.at j hlj;obtain ⟨hc0,hc1⟩:=DOccurrence.open hc;have HUK:=yq (HUE.out j);have HOU:=yq (HUOK.out j hlj);clear hc HUE;generalize us.getD j default=u at *
     have HBA:=yq (show Below wr.heap.size wr (wr.alloc (.cells #[.int .i64 u.fb,.string u.fa] 87)) from (Below.refl _ _).alloc (Nat.le_refl _) _)
     have HCM:=yq (HMU.out u HOU.out (wr.alloc (.cells #[.int .i64 u.fb,.string u.fa] 87)) (HBJT.out.trans (HBA.out.mono HBJT.out.size)));generalize zd3 g x u=bb at *
     have g0:(wr.alloc (.cells #[.int .i64 u.fb,.string u.fa] 87)).cell? ⟨w.heap.size,0,none⟩=some (.slice a0 g.fl.length c0_0):=(HBA.out.cell (p:=⟨w.heap.size,0,none⟩) (by show w.heap.size < _;omega)).trans (za HGJ.out rfl)
     have g1:(wr.alloc (.cells #[.int .i64 u.fb,.string u.fa] 87)).cell? ⟨w.heap.size,1,none⟩=some (.slice a1 g.fm.length c0_1):=(HBA.out.cell (p:=⟨w.heap.size,1,none⟩) (by show w.heap.size < _;omega)).trans (za HGJ.out rfl)
     have r0:(wr.alloc (.cells #[.int .i64 u.fb,.string u.fa] 87)).cell? ⟨w.heap.size+1,0,none⟩=some (.string x.fa):=(HBA.out.cell (p:=⟨w.heap.size+1,0,none⟩) (by show w.heap.size+1 < _;omega)).trans (za HRJ.out rfl)
     have r1:(wr.alloc (.cells #[.int .i64 u.fb,.string u.fa] 87)).cell? ⟨w.heap.size+1,1,none⟩=some (.string x.fp):=(HBA.out.cell (p:=⟨w.heap.size+1,1,none⟩) (by show w.heap.size+1 < _;omega)).trans (za HRJ.out rfl)
     have r2:(wr.alloc (.cells #[.int .i64 u.fb,.string u.fa] 87)).cell? ⟨w.heap.size+1,2,none⟩=some (.slice b2 x.fj.length c1_0):=(HBA.out.cell (p:=⟨w.heap.size+1,2,none⟩) (by show w.heap.size+1 < _;omega)).trans (za HRJ.out rfl)
     have r3:(wr.alloc (.cells #[.int .i64 u.fb,.string u.fa] 87)).cell? ⟨w.heap.size+1,3,none⟩=some (.bool x.fq):=(HBA.out.cell (p:=⟨w.heap.size+1,3,none⟩) (by show w.heap.size+1 < _;omega)).trans (za HRJ.out rfl)
     have r4:(wr.alloc (.cells #[.int .i64 u.fb,.string u.fa] 87)).cell? ⟨w.heap.size+1,4,none⟩=some (.slice b4 x.fg.length c1_1):=(HBA.out.cell (p:=⟨w.heap.size+1,4,none⟩) (by show w.heap.size+1 < _;omega)).trans (za HRJ.out rfl)
     have r5:(wr.alloc (.cells #[.int .i64 u.fb,.string u.fa] 87)).cell? ⟨w.heap.size+1,5,none⟩=some (.slice b5 x.fo.length c1_2):=(HBA.out.cell (p:=⟨w.heap.size+1,5,none⟩) (by show w.heap.size+1 < _;omega)).trans (za HRJ.out rfl)
     (go_wp2_with fail);refine HCM.out.mono ?_;rintro e w6 ⟨rfl,hb6⟩
     have HB6:=yq (show Below w4.heap.size w4 w6 from HBJ.out.trans ((HBA.out.trans (hb6.mono HBA.out.size)).mono HBJ.out.size))
     have HB6T:=yq (show Below w.heap.size w w6 from HBJT.out.trans ((HBA.out.trans (hb6.mono HBA.out.size)).mono HBJT.out.size))
     clear hb6 hub hc0 hc1 g0 g1 r0 r1 r2 r3 r4 r5 HBA
     cases bb with
     | false =>
      have FIN:=yq (show zdc g x=true from HR.out.trans (zbm hlt (HEK.out.trans (HUR.out.trans (zbm hlj HUK.out)))))
      go_wp2;go_ret;exact ⟨zh FIN.out.symm,HB6T.out⟩
     | true =>
      have HN1:=yq (zap HNJ.out HUK.out);go_wp2;go_roundw
      case rel=>exact ⟨j+1,by omega,by go_num,HN1.out,HB6.out⟩
      case measure=>simp [intOf];omega
    ·obtain rfl:j=us.length:=by omega
     have HN1:=yq (zap HN.out (HEK.out.trans (HUR.out.trans (zbp HNJ.out))));go_wp2;go_roundw
     case rel=>exact ⟨k+1,by omega,by go_num,HN1.out,HBJW.out⟩
     case measure=>simp [intOf];omega
  ·obtain rfl:k=lst.length:=by omega
   have FIN:=yq (show zdc g x=false from HR.out.trans (zbp HN.out))
   go_wp2;go_ret;exact ⟨zh FIN.out.symm,HBT.out⟩
theorem zqo {hi bg:Nat} {c0_0 c0_1:Nat} {a0 a1:Option Addr} (g:DGrammar) (okg:g.ok) (hszg:g.sz≤1048576) (i:Nat) (hi':i < g.fm.length) (w:World) (hhi:hi≤w.heap.size) (hs0:Sf 0 hi w 2 g.fl.length (fun k=>DSymbol.ct (g.fl.getD k default)) a0) (hs1:Sf 0 hi w 6 g.fm.length (fun k=>DRule.ct (g.fm.getD k default)) a1) (hg:w.heap[bg]? = some (.cells #[.slice a0 g.fl.length c0_0,.slice a1 g.fm.length c0_1] 32)) :
  Calls Tryz.prog 31 #[.int .i64 (i:Int),.pointer (some ⟨bg,0,none⟩)] w fun e w'=>e = .returned (.bool ((zdc g (g.fm.getD i default))))∧Below w.heap.size w w':=by
 have hbg:bg < w.heap.size:=(Array.getElem?_eq_some_iff.1 hg).1;have HBGL:=yq hbg
 have hiI:(0:Int)≤(i:Int)∧(i:Int) < (g.fm.length:Int):=by omega
 obtain ⟨rb,ro,rfl,_,hrb,_,hc⟩:=hs1.at i hi';obtain ⟨b2,c1_0,b4,c1_1,b5,c1_2,h0,h1,h2,h3,h4,h5,hs2,hs4,hs5⟩:=DRule.openS hc;have okx:DRule.ok (g.fm.getD i default):=okg.2.at hi'
 have hszx:DRule.sz (g.fm.getD i default)≤1048576:=Nat.le_trans (zab (f:=DRule.sz) g.fm i hi') (by unfold DGrammar.sz at hszg;omega)
 have HRLT:=yq (show rb < w.heap.size by omega)
 have HGW:=yq hg;have HROW:=yq (And.intro h0 (And.intro h1 (And.intro h2 (And.intro h3 (And.intro h4 h5)))));generalize g.fm.getD i default=x at *
 have HC:=yq (fun (W:World) (hW:Below w.heap.size w W)=>zfn (c0_0:=c0_0) (c0_1:=c0_1) (c1_0:=c1_0) (c1_1:=c1_1) (c1_2:=c1_2) g okg hszg x okx hszx W (Nat.le_trans hhi hW.size) (hs0.later hW hhi) (hs1.later hW hhi) (hs2.later hW hhi) (hs4.later hW hhi) (hs5.later hW hhi))
 clear hg hc hs0 hs1 hs2 hs4 hs5 okg hszg okx hszx hhi hi' h0 h1 h2 h3 h4 h5 hbg hrb;generalize (zdc g x)=bb at *
 go_enter Tryz.func31,Tryz.ntmps31
 go_wp2
 refine zw [([],.none,[]),([],.none,[]),([1],.none,[]),([],.none,[]),([2,3],.none,[]),([4],.none,[]),([0,5],.none,[]),([6],.none,[])] [0,1,2,3,4,5,6,7] [] (fun _=>False) (fun _=>True) (fun _=>0) (fun jq9 V L H wx=>match jq9 with|0=>V 0 = .agg #[.slice a0 g.fl.length c0_0,.slice (some ⟨rb,ro,none⟩) g.fm.length c0_1]|1=>V 1 = .pointer (some ⟨bg,1,none⟩)|2=>V 2 = .slice (some ⟨rb,ro,none⟩) g.fm.length c0_1|3=>V 3 = .int .i64 (i:Int)|4=>V 4 = .pointer (some ⟨rb,ro+i * 6,none⟩)|5=>V 5 = .agg #[.string x.fa,.string x.fp,.slice b2 x.fj.length c1_0,.bool x.fq,.slice b4 x.fg.length c1_1,.slice b5 x.fo.length c1_2]|6=>V 6 = .bool bb|7=>V 7=V 6|_=>True) (by kernel_rfl) (by kernel_rfl) ?obs (fun _ h=>h.elim) trivial (fun _ _ _ _ _=>trivial) ?loc ?lasts ?walk
 case obs =>
  trivial
 case loc =>
  intro k V V' L H wx h0 h1 hG
  match k with
  | 0 =>
   (try dsimp only at hG ⊢);rw [← h0];exact hG
  | 1 =>
   (try dsimp only at hG ⊢);rw [← h0];exact hG
  | 2 =>
   (try dsimp only at hG ⊢);rw [← h0];exact hG
  | 3 =>
   (try dsimp only at hG ⊢);rw [← h0];exact hG
  | 4 =>
   (try dsimp only at hG ⊢);rw [← h0];exact hG
  | 5 =>
   (try dsimp only at hG ⊢);rw [← h0];exact hG
  | 6 =>
   (try dsimp only at hG ⊢);rw [← h0];exact hG
  | 7 =>
   have e6:=h1 6 (by decide)
   (try dsimp only at hG ⊢);rw [← h0,← e6];exact hG
  | n+8=>trivial
 case lasts =>
  intro i hi V L H wx wy hB hH hk
  match i,hi with
  | 0,_=>exact fun h=>h
  | 1,_=>exact fun h=>h
  | 2,_=>exact fun h=>h
  | 3,_=>exact fun h=>h
  | 4,_=>exact fun h=>h
  | 5,_=>exact fun h=>h
  | 6,_=>exact fun h=>h
  | 7,_=>exact fun h=>h
  | n+8,hn=>exact absurd hn (by simp)
 case walk =>
  simp (maxSteps:=4000000) only [zda,Nat.reduceAdd,Act.put,List.setIfInBounds_toArray,List.set_cons_succ,List.set_cons_zero]
  refine ⟨?_,?_,?_,?_,?_,?_,?_,?_,?_⟩
  ·intro V L H w1 hw hk hj hd
   clear hd;have g0:w1.cell? ⟨bg,0,none⟩=some (.slice a0 g.fl.length c0_0):=((zd hw).cell (p:=⟨bg,0,none⟩) HBGL.out).trans (za HGW.out rfl);have g1:w1.cell? ⟨bg,1,none⟩=some (.slice (some ⟨rb,ro,none⟩) g.fm.length c0_1):=((zd hw).cell (p:=⟨bg,1,none⟩) HBGL.out).trans (za HGW.out rfl);(go_wp2_with fail);exact zc _ rfl ⟨⟨WritesF.refl _ _,hj⟩,zb⟩
  ·intro V L H w1 hw hk hj hd
   clear hd;(go_wp2_with fail);exact zc _ rfl ⟨⟨WritesF.refl _ _,hj⟩,zb⟩
  ·intro V L H w1 hw hk hj hd
   obtain ⟨⟨_,_,_,hv1⟩,-⟩:=hd;rw [hv1];have HV1:=yq hv1;clear hv1;have g1:w1.cell? ⟨bg,1,none⟩=some (.slice (some ⟨rb,ro,none⟩) g.fm.length c0_1):=((zd hw).cell (p:=⟨bg,1,none⟩) HBGL.out).trans (za HGW.out rfl);(go_wp2_with fail);exact zc _ rfl ⟨⟨WritesF.refl _ _,hj⟩,zb⟩
  ·intro V L H w1 hw hk hj hd
   clear hd;(go_wp2_with fail);exact zc _ rfl ⟨⟨WritesF.refl _ _,hj⟩,zb⟩
  ·intro V L H w1 hw hk hj hd
   obtain ⟨⟨_,_,_,hv2⟩,⟨_,_,_,hv3⟩,-⟩:=hd;rw [hv2,hv3];have HV2:=yq hv2;have HV3:=yq hv3;clear hv2 hv3;(go_wp2_with fail);exact zc _ rfl ⟨⟨WritesF.refl _ _,hj⟩,zb⟩
  ·intro V L H w1 hw hk hj hd
   obtain ⟨⟨_,_,_,hv4⟩,-⟩:=hd;rw [hv4];have HV4:=yq hv4;clear hv4;have r0:w1.cell? ⟨rb,ro+i * 6,none⟩=some (.string x.fa):=((zd hw).cell (p:=⟨rb,ro+i * 6,none⟩) HRLT.out).trans HROW.out.1;have r1:w1.cell? ⟨rb,ro+i * 6+1,none⟩=some (.string x.fp):=((zd hw).cell (p:=⟨rb,ro+i * 6+1,none⟩) HRLT.out).trans HROW.out.2.1;have r2:w1.cell? ⟨rb,ro+i * 6+2,none⟩=some (.slice b2 x.fj.length c1_0):=((zd hw).cell (p:=⟨rb,ro+i * 6+2,none⟩) HRLT.out).trans HROW.out.2.2.1;have r3:w1.cell? ⟨rb,ro+i * 6+3,none⟩=some (.bool x.fq):=((zd hw).cell (p:=⟨rb,ro+i * 6+3,none⟩) HRLT.out).trans HROW.out.2.2.2.1;have r4:w1.cell? ⟨rb,ro+i * 6+4,none⟩=some (.slice b4 x.fg.length c1_1):=((zd hw).cell (p:=⟨rb,ro+i * 6+4,none⟩) HRLT.out).trans HROW.out.2.2.2.2.1;have r5:w1.cell? ⟨rb,ro+i * 6+5,none⟩=some (.slice b5 x.fo.length c1_2):=((zd hw).cell (p:=⟨rb,ro+i * 6+5,none⟩) HRLT.out).trans HROW.out.2.2.2.2.2;(go_wp2_with fail);exact zc _ rfl ⟨⟨WritesF.refl _ _,hj⟩,zb⟩
  ·intro V L H w1 hw hk hj hd
   obtain ⟨⟨_,_,_,hv0⟩,⟨_,_,_,hv5⟩,-⟩:=hd;rw [hv0,hv5];have HV0:=yq hv0;have HV5:=yq hv5;clear hv0 hv5;(go_wp2_with fail);refine (HC.out w1 (zd hw)).mono ?_;rintro e w2 ⟨rfl,hb2⟩;(go_wp2_with fail);exact zc _ rfl ⟨⟨(WritesF.refl _ _).later hb2,trivial⟩,zb⟩
  ·intro V L H w1 hw hk hj hd
   obtain ⟨⟨_,_,_,hv6⟩,-⟩:=hd;rw [hv6];have HV6:=yq hv6;clear hv6;(go_wp2_with fail)
   exact zc _ rfl ⟨⟨WritesF.refl _ _,hj⟩,zb.trans (HV6.out.symm.trans (zam (by decide)).symm)⟩
  ·intro V L H w1 hw hj hd hap hdead
   obtain ⟨⟨_,_,_,hv0⟩,⟨_,_,_,hv1⟩,⟨_,_,_,hv2⟩,⟨_,_,_,hv3⟩,⟨_,_,_,hv4⟩,⟨_,_,_,hv5⟩,⟨_,_,_,hv6⟩,⟨_,_,_,hv7⟩,-⟩:=hd;have hv7':=hv7.trans hv6;rw [hv0,hv1,hv2,hv3,hv4,hv5,hv6,hv7'];clear hv0 hv1 hv2 hv3 hv4 hv5 hv6 hv7' hv7;have HBF:=yq (zd hw);clear hw hj hap hdead;go_wp2;go_ret;exact ⟨rfl,HBF.out⟩
theorem zlu {hi:Nat} {a0 a1:Option Addr} {c0_0 c0_1:Nat} (g:DGrammar) (okg:g.ok) (hszg:g.sz≤1048576) (hcap0:g.fl.length≤c0_0) (hcap1:g.fm.length≤c0_1) (w:World) (hhi:hi≤w.heap.size) (hs0:Sf 0 hi w 2 g.fl.length (fun k=>DSymbol.ct (g.fl.getD k default)) a0) (hs1:Sf 0 hi w 6 g.fm.length (fun k=>DRule.ct (g.fm.getD k default)) a1) :
  Calls Tryz.prog 7 #[.agg #[.slice a0 g.fl.length c0_0,.slice a1 g.fm.length c0_1]] w fun e w'=>e = .returned (.tuple #[.int .i64 (zes g).1,.int .i64 (zes g).2])∧Below w.heap.size w w':=by
 refine zh3 g (za5 g) w (by unfold DGrammar.sz lsz at hszg;omega) (by unfold DGrammar.sz lsz at hszg;omega) fun k hk i hi' hq _ W hW hbox=>?_
 have hhW:hi≤W.heap.size:=Nat.le_trans hhi hW.size;have hW0:=hs0.later hW hhi;have hW1:=hs1.later hW hhi
 match k,hk,hi',hq with
 | 0,_,_,_=>exact zqn g i W hbox
 | 1,_,hi',_=>exact zq2 g okg hszg i hi' hcap0 W hhW hW0.sl hbox
 | 2,_,hi',_=>exact zrk g okg hszg i hi' hcap1 W hhW hW1 hbox
 | 3,_,hi',hq =>
  have h0:(!zbn g)=false:=hq 0 (by decide) 0 Nat.zero_lt_one
  have h1:zbn g=true:=by
   cases h:zbn g with
   | true=>rfl
   | false=>rw [h] at h0;exact absurd h0 (by decide)
  have h2:1≤g.fl.length:=by unfold zbn at h1;exact (of_decide_eq_true h1).1
  have h3:i < 1:=hi'
  have h4:i < g.fl.length:=by omega
  refine zqp (lo:=0) g i h4 ?_ W hhW hW0.sl hbox;have h5:=zab (f:=DSymbol.sz) g.fl i h4
  have h6:(g.fl.getD i default).fu.length≤DSymbol.sz (g.fl.getD i default):=by unfold DSymbol.sz lsz;omega
  unfold DGrammar.sz at hszg
  omega
 | 4,_,hi',_ =>
  have h:=zrp g okg hszg i hi' W hhW hW0 hW1 hbox;rw [Bool.not_not] at h;exact h
 | 5,_,hi',_=>exact zq6 g okg hszg i hi' W hhW hW0 hW1 hbox
 | 6,_,hi',_=>exact zqm g okg hszg i hi' W hhW hW0 hW1 hbox
 | 7,_,hi',_=>exact zqo g okg hszg i hi' W hhW hW0 hW1 hbox
end Go.Proofs.YtmbaajangkmjdaaGreat
