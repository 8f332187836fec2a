/-
  IsValidRule: the parts of the program's.
  IsValidRule of the program.
  IsValidRule of the model: the positions of an expression.
  IsValidRule of the model.
-/
import Derived.Test.YtmbaajangkmjdaaGreatZz21
set_option maxHeartbeats 6400000
set_option maxRecDepth 100000
namespace Go.Proofs.YtmbaajangkmjdaaGreat
open Go.ChangeShapes Go.WideShapes Go.ChangeAt Go.RowKit Go.Deep
theorem zl0 {a2 a4 a5:Option Addr} {c2 c4 c5:Nat} (r:DRule) (hn:r.fj.length≤1048576) (nd:ENode) (q:Nat) (w:World) (hq:w.heap[q]? = some (.cells #[.string r.fa,.string r.fp,.slice a2 r.fj.length c2,.bool r.fq,.slice a4 r.fg.length c4,.slice a5 r.fo.length c5] 50)) (hql:q < w.heap.size) :
  Calls Tryz.prog 154 #[.agg #[.int .i64 nd.fh,.int .i64 nd.fN,.int .i64 nd.fb,.int .i64 nd.fk,.string nd.fd,.string nd.fa,.int .i64 (nd.fc:Int),.int .i64 (nd.fw:Int)],.pointer (some ⟨q,0,none⟩)] w fun e w'=>e = .returned (.bool (inR nd.fb 0 r.fj.length))∧Below w.heap.size w w':=by
 have HC:=yq (fun (W:World) (_:Below w.heap.size w W)=>zbe (a2:=a2) (a4:=a4) (a5:=a5) (c0_0:=c2) (c0_1:=c4) (c0_2:=c5) r hn nd.fb W)
 generalize inR nd.fb 0 r.fj.length=v0 at *;clear hn
 have B0:=yq (show Below w.heap.size w (World.alloc w (.cells #[.int .i64 nd.fh,.int .i64 nd.fN,.int .i64 nd.fb,.int .i64 nd.fk,.string nd.fd,.string nd.fa,.int .i64 (nd.fc:Int),.int .i64 (nd.fw:Int)] 131)) from ((Below.refl w.heap.size w).alloc (Nat.le_refl _) (.cells #[.int .i64 nd.fh,.int .i64 nd.fN,.int .i64 nd.fb,.int .i64 nd.fk,.string nd.fd,.string nd.fa,.int .i64 (nd.fc:Int),.int .i64 (nd.fw:Int)] 131)))
 have S0:=yq (show (World.alloc w (.cells #[.int .i64 nd.fh,.int .i64 nd.fN,.int .i64 nd.fb,.int .i64 nd.fk,.string nd.fd,.string nd.fa,.int .i64 (nd.fc:Int),.int .i64 (nd.fw:Int)] 131)).heap.size=w.heap.size+1 by simp)
 have X0_0:=yq (show (World.alloc w (.cells #[.int .i64 nd.fh,.int .i64 nd.fN,.int .i64 nd.fb,.int .i64 nd.fk,.string nd.fd,.string nd.fa,.int .i64 (nd.fc:Int),.int .i64 (nd.fw:Int)] 131)).heap[w.heap.size]? = some (.cells #[.int .i64 nd.fh,.int .i64 nd.fN,.int .i64 nd.fb,.int .i64 nd.fk,.string nd.fd,.string nd.fa,.int .i64 (nd.fc:Int),.int .i64 (nd.fw:Int)] 131) from (ze (by simp)))
 have Q0:=yq ((B0.out.block q hql).trans hq)
 go_enter Tryz.func154,Tryz.ntmps154
 have z0_0:=za (w:=(World.alloc w (.cells #[.int .i64 nd.fh,.int .i64 nd.fN,.int .i64 nd.fb,.int .i64 nd.fk,.string nd.fd,.string nd.fa,.int .i64 (nd.fc:Int),.int .i64 (nd.fw:Int)] 131))) (j:=0) (v:=.string r.fa) Q0.out rfl;have z0_1:=za (w:=(World.alloc w (.cells #[.int .i64 nd.fh,.int .i64 nd.fN,.int .i64 nd.fb,.int .i64 nd.fk,.string nd.fd,.string nd.fa,.int .i64 (nd.fc:Int),.int .i64 (nd.fw:Int)] 131))) (j:=1) (v:=.string r.fp) Q0.out rfl;have z0_2:=za (w:=(World.alloc w (.cells #[.int .i64 nd.fh,.int .i64 nd.fN,.int .i64 nd.fb,.int .i64 nd.fk,.string nd.fd,.string nd.fa,.int .i64 (nd.fc:Int),.int .i64 (nd.fw:Int)] 131))) (j:=2) (v:=.slice a2 r.fj.length c2) Q0.out rfl;have z0_3:=za (w:=(World.alloc w (.cells #[.int .i64 nd.fh,.int .i64 nd.fN,.int .i64 nd.fb,.int .i64 nd.fk,.string nd.fd,.string nd.fa,.int .i64 (nd.fc:Int),.int .i64 (nd.fw:Int)] 131))) (j:=3) (v:=.bool r.fq) Q0.out rfl;have z0_4:=za (w:=(World.alloc w (.cells #[.int .i64 nd.fh,.int .i64 nd.fN,.int .i64 nd.fb,.int .i64 nd.fk,.string nd.fd,.string nd.fa,.int .i64 (nd.fc:Int),.int .i64 (nd.fw:Int)] 131))) (j:=4) (v:=.slice a4 r.fg.length c4) Q0.out rfl;have z0_5:=za (w:=(World.alloc w (.cells #[.int .i64 nd.fh,.int .i64 nd.fN,.int .i64 nd.fb,.int .i64 nd.fk,.string nd.fd,.string nd.fa,.int .i64 (nd.fc:Int),.int .i64 (nd.fw:Int)] 131))) (j:=5) (v:=.slice a5 r.fo.length c5) Q0.out rfl;(go_wp2_with fail);refine (HC.out _ B0.out).mono ?_;rintro e w1 ⟨rfl,hb1⟩;clear z0_0 z0_1 z0_2 z0_3 z0_4 z0_5;have B1:=yq (B0.out.trans (hb1.mono B0.out.size))
 have S1:=yq (show w.heap.size+1≤w1.heap.size from Nat.le_trans (by rw [S0.out];exact Nat.le_refl _) hb1.size)
 have X1_0:=yq ((hb1.block (w.heap.size) (by have:=S0.out;omega)).trans X0_0.out)
 have Q1:=yq ((hb1.block q (Nat.lt_of_lt_of_le hql B0.out.size)).trans Q0.out);clear hb1;go_wp2;go_ret;exact ⟨rfl,B1.out⟩
theorem zds {hi c6:Nat} {a6:Option Addr} {a2 a4 a5:Option Addr} {c2 c4 c5:Nat} (r:DRule) (hn:r.fj.length≤1048576) (x:DExpr) (hok:x.ok) (hsz:x.sz≤1048576) (w:World) (hhi:hi≤w.heap.size) (hs6:Sf 0 hi w 7 x.fc.length (ctE x.fc) a6) :
  Calls Tryz.prog 121 #[.agg #[.string r.fa,.string r.fp,.slice a2 r.fj.length c2,.bool r.fq,.slice a4 r.fg.length c4,.slice a5 r.fo.length c5],.agg #[.int .i64 x.fh,.int .i64 x.fN,.int .i64 x.fb,.int .i64 x.fk,.string x.fd,.string x.fa,.slice a6 x.fc.length c6]] w fun e w'=>e = .returned (.bool (zbr r.fj.length x))∧Below w.heap.size w w':=by
 have B0:=yq (((Below.refl w.heap.size w).alloc (Nat.le_refl _) (.cells #[.string r.fa,.string r.fp,.slice a2 r.fj.length c2,.bool r.fq,.slice a4 r.fg.length c4,.slice a5 r.fo.length c5] 50)).alloc (by simp) (.cells #[.int .i64 x.fh,.int .i64 x.fN,.int .i64 x.fb,.int .i64 x.fk,.string x.fd,.string x.fa,.slice a6 x.fc.length c6] 90))
 have S0:=yq (show ((w.alloc (.cells #[.string r.fa,.string r.fp,.slice a2 r.fj.length c2,.bool r.fq,.slice a4 r.fg.length c4,.slice a5 r.fo.length c5] 50)).alloc (.cells #[.int .i64 x.fh,.int .i64 x.fN,.int .i64 x.fb,.int .i64 x.fk,.string x.fd,.string x.fa,.slice a6 x.fc.length c6] 90)).heap.size=w.heap.size+2 by simp)
 have X0_0:=yq (show ((w.alloc (.cells #[.string r.fa,.string r.fp,.slice a2 r.fj.length c2,.bool r.fq,.slice a4 r.fg.length c4,.slice a5 r.fo.length c5] 50)).alloc (.cells #[.int .i64 x.fh,.int .i64 x.fN,.int .i64 x.fb,.int .i64 x.fk,.string x.fd,.string x.fa,.slice a6 x.fc.length c6] 90)).heap[w.heap.size]? = some (.cells #[.string r.fa,.string r.fp,.slice a2 r.fj.length c2,.bool r.fq,.slice a4 r.fg.length c4,.slice a5 r.fo.length c5] 50) from zn (by simp) (ze rfl))
 have X0_1:=yq (show ((w.alloc (.cells #[.string r.fa,.string r.fp,.slice a2 r.fj.length c2,.bool r.fq,.slice a4 r.fg.length c4,.slice a5 r.fo.length c5] 50)).alloc (.cells #[.int .i64 x.fh,.int .i64 x.fN,.int .i64 x.fb,.int .i64 x.fk,.string x.fd,.string x.fa,.slice a6 x.fc.length c6] 90)).heap[w.heap.size+1]? = some (.cells #[.int .i64 x.fh,.int .i64 x.fN,.int .i64 x.fb,.int .i64 x.fk,.string x.fd,.string x.fa,.slice a6 x.fc.length c6] 90) from ze (by simp))
 have HV:=yq (zi4 (c0_0:=c6) x hok hsz ((w.alloc (.cells #[.string r.fa,.string r.fp,.slice a2 r.fj.length c2,.bool r.fq,.slice a4 r.fg.length c4,.slice a5 r.fo.length c5] 50)).alloc (.cells #[.int .i64 x.fh,.int .i64 x.fN,.int .i64 x.fb,.int .i64 x.fk,.string x.fd,.string x.fa,.slice a6 x.fc.length c6] 90)) (Nat.le_trans hhi B0.out.size) (hs6.later B0.out hhi))
 cases hv:za9 x
 ·have FIN:=yq (show zbr r.fj.length x=false by unfold zbr;rw [hv];rfl)
  rw [hv] at HV;clear hv hs6;generalize zbr r.fj.length x=v at *
  go_enter Tryz.func121,Tryz.ntmps121
  (go_wp2_with fail);refine HV.out.mono ?_;rintro e w1 ⟨rfl,hb1⟩;have B1:=yq (B0.out.trans (hb1.mono B0.out.size));clear hb1;go_wp2;go_ret;exact ⟨zh FIN.out.symm,B1.out⟩
 ·have FIN:=yq (zte (n:=r.fj.length) hv)
  rw [hv] at HV;have hl:=zcg x 1;have hcl:=zey x
  have hnl:(zu x 1).length≤1048577:=by omega
  have HN:=yq (fun (W:World) (hW:Below w.heap.size w W)=>zew (c6:=c6) x hsz W (Nat.le_trans hhi hW.size) (hs6.later hW hhi))
  have HA:=yq (fun (W:World) (hW:W.heap[w.heap.size]? = some (.cells #[.string r.fa,.string r.fp,.slice a2 r.fj.length c2,.bool r.fq,.slice a4 r.fg.length c4,.slice a5 r.fo.length c5] 50)) (hWl:w.heap.size < W.heap.size) (c B:Nat) (a:Option Addr) (ho:W.ownsRow B 131 8 (.slice a (zu x 1).length c) (zu x 1).length (zat (zu x 1)))=>zmr (c:=c) (fun nd=>inR nd.fb 0 r.fj.length) w.heap.size (zu x 1) hnl W ho (fun k hk W2 hW2=>zl0 (a2:=a2) (a4:=a4) (a5:=a5) (c2:=c2) (c4:=c4) (c5:=c5) r hn _ w.heap.size W2 ((hW2.block _ hWl).trans hW) (Nat.lt_of_lt_of_le hWl hW2.size)))
  rw [FIN.out] at HA;clear FIN hv hs6 hl hcl hnl;generalize zbr r.fj.length x=v at *;generalize zu x 1=N at *
  go_enter Tryz.func121,Tryz.ntmps121
  (go_wp2_with fail);refine HV.out.mono ?_;rintro e w1 ⟨rfl,hb1⟩;have B1:=yq (B0.out.trans (hb1.mono B0.out.size))
  have S1:=yq (show w.heap.size+2≤w1.heap.size from Nat.le_trans (by rw [S0.out];exact Nat.le_refl _) hb1.size)
  have X1_0:=yq ((hb1.block w.heap.size (by rw [S0.out];omega)).trans X0_0.out)
  have X1_1:=yq ((hb1.block (w.heap.size+1) (by rw [S0.out];omega)).trans X0_1.out)
  clear hb1;have y0:=za (j:=0) (v:=.int .i64 x.fh) X1_1.out rfl;have y1:=za (j:=1) (v:=.int .i64 x.fN) X1_1.out rfl;have y2:=za (j:=2) (v:=.int .i64 x.fb) X1_1.out rfl;have y3:=za (j:=3) (v:=.int .i64 x.fk) X1_1.out rfl;have y4:=za (j:=4) (v:=.string x.fd) X1_1.out rfl;have y5:=za (j:=5) (v:=.string x.fa) X1_1.out rfl;have y6:=za (j:=6) (v:=.slice a6 x.fc.length c6) X1_1.out rfl;(go_wp2_with fail);refine (HN.out w1 B1.out).mono ?_;rintro e w2 ⟨vN,rfl,hown,hb2⟩;obtain ⟨na,nc,rfl⟩:=zdx hown;have B2:=yq (B1.out.trans (hb2.mono B1.out.size))
  have hw2:w.heap.size < w2.heap.size:=by have h1:=hb2.size;have h2:=S1.out;omega
  have HAV:=yq (HA.out w2 ((hb2.block w.heap.size (by have:=S1.out;omega)).trans X1_0.out) hw2 nc _ na hown)
  clear hb2 hown;(go_wp2_with fail);refine HAV.out.mono ?_;rintro e w3 ⟨rfl,hb3⟩;have B3:=yq (B2.out.trans (hb3.mono B2.out.size));clear hb3;go_wp2;go_ret;exact ⟨rfl,B3.out⟩
theorem zfi {hi c8:Nat} {a8:Option Addr} {a2 a4 a5:Option Addr} {c2 c4 c5:Nat} (r:DRule) (hn:r.fj.length≤1048576) (x:DEquation) (hok:x.ok) (hsz:x.sz≤1048576) (w:World) (hhi:hi≤w.heap.size) (hs8:Sf 0 hi w 7 x.fi.fc.length (ctE x.fi.fc) a8) :
  Calls Tryz.prog 82 #[.agg #[.string r.fa,.string r.fp,.slice a2 r.fj.length c2,.bool r.fq,.slice a4 r.fg.length c4,.slice a5 r.fo.length c5],.agg #[.int .i64 x.fAt.fb,.string x.fAt.fa,.int .i64 x.fi.fh,.int .i64 x.fi.fN,.int .i64 x.fi.fb,.int .i64 x.fi.fk,.string x.fi.fd,.string x.fi.fa,.slice a8 x.fi.fc.length c8]] w fun e w'=>e = .returned (.bool (eqOk r x))∧Below w.heap.size w w':=by
 have hz1:x.fAt.fa.size≤1048576:=by unfold DEquation.sz DOccurrence.sz at hsz;omega
 have hz2:x.fi.sz≤1048576:=by unfold DEquation.sz at hsz;omega
 have H0:=yq (fun (W:World) (_:Below w.heap.size w W)=>zbe (a2:=a2) (a4:=a4) (a5:=a5) (c0_0:=c2) (c0_1:=c4) (c0_2:=c5) r hn x.fAt.fb W)
 have H1:=yq (fun (W:World) (_:Below w.heap.size w W)=>zai x.fAt.fa hz1 W)
 have H2:=yq (fun (W:World) (hW:Below w.heap.size w W)=>zds (c6:=c8) (a2:=a2) (a4:=a4) (a5:=a5) (c2:=c2) (c4:=c4) (c5:=c5) r hn x.fi hok.2 hz2 W (Nat.le_trans hhi hW.size) (hs8.later hW hhi))
 unfold eqOk
 clear hs8 hz1 hz2 hok hsz;generalize zbr r.fj.length x.fi=v2 at *;generalize zi x.fAt.fa=v1 at *;generalize inR x.fAt.fb 0 r.fj.length=v0 at *;clear hn
 have B0:=yq (show Below w.heap.size w (World.alloc (World.alloc w (.cells #[.string r.fa,.string r.fp,.slice a2 r.fj.length c2,.bool r.fq,.slice a4 r.fg.length c4,.slice a5 r.fo.length c5] 50)) (.cells #[.int .i64 x.fAt.fb,.string x.fAt.fa,.int .i64 x.fi.fh,.int .i64 x.fi.fN,.int .i64 x.fi.fb,.int .i64 x.fi.fk,.string x.fi.fd,.string x.fi.fa,.slice a8 x.fi.fc.length c8] 95)) from (((Below.refl w.heap.size w).alloc (Nat.le_refl _) (.cells #[.string r.fa,.string r.fp,.slice a2 r.fj.length c2,.bool r.fq,.slice a4 r.fg.length c4,.slice a5 r.fo.length c5] 50)).alloc (by simp) (.cells #[.int .i64 x.fAt.fb,.string x.fAt.fa,.int .i64 x.fi.fh,.int .i64 x.fi.fN,.int .i64 x.fi.fb,.int .i64 x.fi.fk,.string x.fi.fd,.string x.fi.fa,.slice a8 x.fi.fc.length c8] 95)))
 have S0:=yq (show (World.alloc (World.alloc w (.cells #[.string r.fa,.string r.fp,.slice a2 r.fj.length c2,.bool r.fq,.slice a4 r.fg.length c4,.slice a5 r.fo.length c5] 50)) (.cells #[.int .i64 x.fAt.fb,.string x.fAt.fa,.int .i64 x.fi.fh,.int .i64 x.fi.fN,.int .i64 x.fi.fb,.int .i64 x.fi.fk,.string x.fi.fd,.string x.fi.fa,.slice a8 x.fi.fc.length c8] 95)).heap.size=w.heap.size+2 by simp)
 have X0_0:=yq (show (World.alloc (World.alloc w (.cells #[.string r.fa,.string r.fp,.slice a2 r.fj.length c2,.bool r.fq,.slice a4 r.fg.length c4,.slice a5 r.fo.length c5] 50)) (.cells #[.int .i64 x.fAt.fb,.string x.fAt.fa,.int .i64 x.fi.fh,.int .i64 x.fi.fN,.int .i64 x.fi.fb,.int .i64 x.fi.fk,.string x.fi.fd,.string x.fi.fa,.slice a8 x.fi.fc.length c8] 95)).heap[w.heap.size]? = some (.cells #[.string r.fa,.string r.fp,.slice a2 r.fj.length c2,.bool r.fq,.slice a4 r.fg.length c4,.slice a5 r.fo.length c5] 50) from (zn (by simp) (ze (by simp))))
 have X0_1:=yq (show (World.alloc (World.alloc w (.cells #[.string r.fa,.string r.fp,.slice a2 r.fj.length c2,.bool r.fq,.slice a4 r.fg.length c4,.slice a5 r.fo.length c5] 50)) (.cells #[.int .i64 x.fAt.fb,.string x.fAt.fa,.int .i64 x.fi.fh,.int .i64 x.fi.fN,.int .i64 x.fi.fb,.int .i64 x.fi.fk,.string x.fi.fd,.string x.fi.fa,.slice a8 x.fi.fc.length c8] 95)).heap[w.heap.size+1]? = some (.cells #[.int .i64 x.fAt.fb,.string x.fAt.fa,.int .i64 x.fi.fh,.int .i64 x.fi.fN,.int .i64 x.fi.fb,.int .i64 x.fi.fk,.string x.fi.fd,.string x.fi.fa,.slice a8 x.fi.fc.length c8] 95) from (ze (by simp)))
 go_enter Tryz.func82,Tryz.ntmps82
 (go_wp2_with fail);refine (H0.out _ B0.out).mono ?_;rintro e w1 ⟨rfl,hb1⟩;have B1:=yq (B0.out.trans (hb1.mono B0.out.size))
 have S1:=yq (show w.heap.size+2≤w1.heap.size from Nat.le_trans (by rw [S0.out];exact Nat.le_refl _) hb1.size)
 have X1_0:=yq ((hb1.block (w.heap.size) (by have:=S0.out;omega)).trans X0_0.out)
 have X1_1:=yq ((hb1.block (w.heap.size+1) (by have:=S0.out;omega)).trans X0_1.out)
 clear hb1
 cases v0
 ·go_wp2
  go_ret;exact ⟨rfl,B1.out⟩
 ·skip
  have y1_0_0:=za (j:=0) (v:=.string r.fa) X1_0.out rfl;have y1_0_1:=za (j:=1) (v:=.string r.fp) X1_0.out rfl;have y1_0_2:=za (j:=2) (v:=.slice a2 r.fj.length c2) X1_0.out rfl;have y1_0_3:=za (j:=3) (v:=.bool r.fq) X1_0.out rfl;have y1_0_4:=za (j:=4) (v:=.slice a4 r.fg.length c4) X1_0.out rfl;have y1_0_5:=za (j:=5) (v:=.slice a5 r.fo.length c5) X1_0.out rfl;have y1_1_0:=za (j:=0) (v:=.int .i64 x.fAt.fb) X1_1.out rfl;have y1_1_1:=za (j:=1) (v:=.string x.fAt.fa) X1_1.out rfl;have y1_1_2:=za (j:=2) (v:=.int .i64 x.fi.fh) X1_1.out rfl;have y1_1_3:=za (j:=3) (v:=.int .i64 x.fi.fN) X1_1.out rfl;have y1_1_4:=za (j:=4) (v:=.int .i64 x.fi.fb) X1_1.out rfl;have y1_1_5:=za (j:=5) (v:=.int .i64 x.fi.fk) X1_1.out rfl;have y1_1_6:=za (j:=6) (v:=.string x.fi.fd) X1_1.out rfl;have y1_1_7:=za (j:=7) (v:=.string x.fi.fa) X1_1.out rfl;have y1_1_8:=za (j:=8) (v:=.slice a8 x.fi.fc.length c8) X1_1.out rfl;(go_wp2_with fail);refine (H1.out _ B1.out).mono ?_;rintro e w2 ⟨rfl,hb2⟩;clear y1_0_0 y1_0_1 y1_0_2 y1_0_3 y1_0_4 y1_0_5 y1_1_0 y1_1_1 y1_1_2 y1_1_3 y1_1_4 y1_1_5 y1_1_6 y1_1_7 y1_1_8;have B2:=yq (B1.out.trans (hb2.mono B1.out.size))
  have S2:=yq (show w.heap.size+2≤w2.heap.size from Nat.le_trans S1.out hb2.size)
  have X2_0:=yq ((hb2.block (w.heap.size) (by have:=S1.out;omega)).trans X1_0.out)
  have X2_1:=yq ((hb2.block (w.heap.size+1) (by have:=S1.out;omega)).trans X1_1.out)
  clear hb2
  cases v1
  ·go_wp2
   go_ret;exact ⟨rfl,B2.out⟩
  ·skip
   have y2_0_0:=za (j:=0) (v:=.string r.fa) X2_0.out rfl;have y2_0_1:=za (j:=1) (v:=.string r.fp) X2_0.out rfl;have y2_0_2:=za (j:=2) (v:=.slice a2 r.fj.length c2) X2_0.out rfl;have y2_0_3:=za (j:=3) (v:=.bool r.fq) X2_0.out rfl;have y2_0_4:=za (j:=4) (v:=.slice a4 r.fg.length c4) X2_0.out rfl;have y2_0_5:=za (j:=5) (v:=.slice a5 r.fo.length c5) X2_0.out rfl;have y2_1_0:=za (j:=0) (v:=.int .i64 x.fAt.fb) X2_1.out rfl;have y2_1_1:=za (j:=1) (v:=.string x.fAt.fa) X2_1.out rfl;have y2_1_2:=za (j:=2) (v:=.int .i64 x.fi.fh) X2_1.out rfl;have y2_1_3:=za (j:=3) (v:=.int .i64 x.fi.fN) X2_1.out rfl;have y2_1_4:=za (j:=4) (v:=.int .i64 x.fi.fb) X2_1.out rfl;have y2_1_5:=za (j:=5) (v:=.int .i64 x.fi.fk) X2_1.out rfl;have y2_1_6:=za (j:=6) (v:=.string x.fi.fd) X2_1.out rfl;have y2_1_7:=za (j:=7) (v:=.string x.fi.fa) X2_1.out rfl;have y2_1_8:=za (j:=8) (v:=.slice a8 x.fi.fc.length c8) X2_1.out rfl;(go_wp2_with fail);refine (H2.out _ B2.out).mono ?_;rintro e w3 ⟨rfl,hb3⟩;clear y2_0_0 y2_0_1 y2_0_2 y2_0_3 y2_0_4 y2_0_5 y2_1_0 y2_1_1 y2_1_2 y2_1_3 y2_1_4 y2_1_5 y2_1_6 y2_1_7 y2_1_8;have B3:=yq (B2.out.trans (hb3.mono B2.out.size))
   have S3:=yq (show w.heap.size+2≤w3.heap.size from Nat.le_trans S2.out hb3.size)
   have X3_0:=yq ((hb3.block (w.heap.size) (by have:=S2.out;omega)).trans X2_0.out)
   have X3_1:=yq ((hb3.block (w.heap.size+1) (by have:=S2.out;omega)).trans X2_1.out)
   clear hb3;go_wp2;go_ret;exact ⟨rfl,B3.out⟩
theorem zd2 {hi c8 c15:Nat} {a8 a15:Option Addr} {a2 a4 a5:Option Addr} {c2 c4 c5:Nat} (r:DRule) (hn:r.fj.length≤1048576) (x:DContribution) (hok:x.ok) (hsz:x.sz≤1048576) (w:World) (hhi:hi≤w.heap.size) (hs8:Sf 0 hi w 7 x.fe.fc.length (ctE x.fe.fc) a8) (hs15:Sf 0 hi w 7 x.ff.fc.length (ctE x.ff.fc) a15) :
  Calls Tryz.prog 85 #[.agg #[.string r.fa,.string r.fp,.slice a2 r.fj.length c2,.bool r.fq,.slice a4 r.fg.length c4,.slice a5 r.fo.length c5],.agg #[.string x.fd,.string x.fa,.int .i64 x.fe.fh,.int .i64 x.fe.fN,.int .i64 x.fe.fb,.int .i64 x.fe.fk,.string x.fe.fd,.string x.fe.fa,.slice a8 x.fe.fc.length c8,.int .i64 x.ff.fh,.int .i64 x.ff.fN,.int .i64 x.ff.fb,.int .i64 x.ff.fk,.string x.ff.fd,.string x.ff.fa,.slice a15 x.ff.fc.length c15]] w fun e w'=>e = .returned (.bool (coOk r x))∧Below w.heap.size w w':=by
 have hz1:x.fd.size≤1048576:=by unfold DContribution.sz at hsz;omega
 have hz2:x.fa.size≤1048576:=by unfold DContribution.sz at hsz;omega
 have hz3:x.fe.sz≤1048576:=by unfold DContribution.sz at hsz;omega
 have hz4:x.ff.sz≤1048576:=by unfold DContribution.sz at hsz;omega
 have H0:=yq (fun (W:World) (_:Below w.heap.size w W)=>zai x.fd hz1 W)
 have H1:=yq (fun (W:World) (_:Below w.heap.size w W)=>zai x.fa hz2 W)
 have H2:=yq (fun (W:World) (hW:Below w.heap.size w W)=>zds (c6:=c8) (a2:=a2) (a4:=a4) (a5:=a5) (c2:=c2) (c4:=c4) (c5:=c5) r hn x.fe hok.2.2.1 hz3 W (Nat.le_trans hhi hW.size) (hs8.later hW hhi))
 have H3:=yq (fun (W:World) (hW:Below w.heap.size w W)=>zds (c6:=c15) (a2:=a2) (a4:=a4) (a5:=a5) (c2:=c2) (c4:=c4) (c5:=c5) r hn x.ff hok.2.2.2 hz4 W (Nat.le_trans hhi hW.size) (hs15.later hW hhi))
 unfold coOk
 clear hs8 hs15 hz1 hz2 hz3 hz4 hok hsz;generalize zbr r.fj.length x.ff=v3 at *;generalize zbr r.fj.length x.fe=v2 at *;generalize zi x.fa=v1 at *;generalize zi x.fd=v0 at *;clear hn
 have B0:=yq (show Below w.heap.size w (World.alloc (World.alloc w (.cells #[.string r.fa,.string r.fp,.slice a2 r.fj.length c2,.bool r.fq,.slice a4 r.fg.length c4,.slice a5 r.fo.length c5] 50)) (.cells #[.string x.fd,.string x.fa,.int .i64 x.fe.fh,.int .i64 x.fe.fN,.int .i64 x.fe.fb,.int .i64 x.fe.fk,.string x.fe.fd,.string x.fe.fa,.slice a8 x.fe.fc.length c8,.int .i64 x.ff.fh,.int .i64 x.ff.fN,.int .i64 x.ff.fb,.int .i64 x.ff.fk,.string x.ff.fd,.string x.ff.fa,.slice a15 x.ff.fc.length c15] 110)) from (((Below.refl w.heap.size w).alloc (Nat.le_refl _) (.cells #[.string r.fa,.string r.fp,.slice a2 r.fj.length c2,.bool r.fq,.slice a4 r.fg.length c4,.slice a5 r.fo.length c5] 50)).alloc (by simp) (.cells #[.string x.fd,.string x.fa,.int .i64 x.fe.fh,.int .i64 x.fe.fN,.int .i64 x.fe.fb,.int .i64 x.fe.fk,.string x.fe.fd,.string x.fe.fa,.slice a8 x.fe.fc.length c8,.int .i64 x.ff.fh,.int .i64 x.ff.fN,.int .i64 x.ff.fb,.int .i64 x.ff.fk,.string x.ff.fd,.string x.ff.fa,.slice a15 x.ff.fc.length c15] 110)))
 have S0:=yq (show (World.alloc (World.alloc w (.cells #[.string r.fa,.string r.fp,.slice a2 r.fj.length c2,.bool r.fq,.slice a4 r.fg.length c4,.slice a5 r.fo.length c5] 50)) (.cells #[.string x.fd,.string x.fa,.int .i64 x.fe.fh,.int .i64 x.fe.fN,.int .i64 x.fe.fb,.int .i64 x.fe.fk,.string x.fe.fd,.string x.fe.fa,.slice a8 x.fe.fc.length c8,.int .i64 x.ff.fh,.int .i64 x.ff.fN,.int .i64 x.ff.fb,.int .i64 x.ff.fk,.string x.ff.fd,.string x.ff.fa,.slice a15 x.ff.fc.length c15] 110)).heap.size=w.heap.size+2 by simp)
 have X0_0:=yq (show (World.alloc (World.alloc w (.cells #[.string r.fa,.string r.fp,.slice a2 r.fj.length c2,.bool r.fq,.slice a4 r.fg.length c4,.slice a5 r.fo.length c5] 50)) (.cells #[.string x.fd,.string x.fa,.int .i64 x.fe.fh,.int .i64 x.fe.fN,.int .i64 x.fe.fb,.int .i64 x.fe.fk,.string x.fe.fd,.string x.fe.fa,.slice a8 x.fe.fc.length c8,.int .i64 x.ff.fh,.int .i64 x.ff.fN,.int .i64 x.ff.fb,.int .i64 x.ff.fk,.string x.ff.fd,.string x.ff.fa,.slice a15 x.ff.fc.length c15] 110)).heap[w.heap.size]? = some (.cells #[.string r.fa,.string r.fp,.slice a2 r.fj.length c2,.bool r.fq,.slice a4 r.fg.length c4,.slice a5 r.fo.length c5] 50) from (zn (by simp) (ze (by simp))))
 have X0_1:=yq (show (World.alloc (World.alloc w (.cells #[.string r.fa,.string r.fp,.slice a2 r.fj.length c2,.bool r.fq,.slice a4 r.fg.length c4,.slice a5 r.fo.length c5] 50)) (.cells #[.string x.fd,.string x.fa,.int .i64 x.fe.fh,.int .i64 x.fe.fN,.int .i64 x.fe.fb,.int .i64 x.fe.fk,.string x.fe.fd,.string x.fe.fa,.slice a8 x.fe.fc.length c8,.int .i64 x.ff.fh,.int .i64 x.ff.fN,.int .i64 x.ff.fb,.int .i64 x.ff.fk,.string x.ff.fd,.string x.ff.fa,.slice a15 x.ff.fc.length c15] 110)).heap[w.heap.size+1]? = some (.cells #[.string x.fd,.string x.fa,.int .i64 x.fe.fh,.int .i64 x.fe.fN,.int .i64 x.fe.fb,.int .i64 x.fe.fk,.string x.fe.fd,.string x.fe.fa,.slice a8 x.fe.fc.length c8,.int .i64 x.ff.fh,.int .i64 x.ff.fN,.int .i64 x.ff.fb,.int .i64 x.ff.fk,.string x.ff.fd,.string x.ff.fa,.slice a15 x.ff.fc.length c15] 110) from (ze (by simp)))
 go_enter Tryz.func85,Tryz.ntmps85
 (go_wp2_with fail);refine (H0.out _ B0.out).mono ?_;rintro e w1 ⟨rfl,hb1⟩;have B1:=yq (B0.out.trans (hb1.mono B0.out.size))
 have S1:=yq (show w.heap.size+2≤w1.heap.size from Nat.le_trans (by rw [S0.out];exact Nat.le_refl _) hb1.size)
 have X1_0:=yq ((hb1.block (w.heap.size) (by have:=S0.out;omega)).trans X0_0.out)
 have X1_1:=yq ((hb1.block (w.heap.size+1) (by have:=S0.out;omega)).trans X0_1.out)
 clear hb1
 cases v0
 ·go_wp2
  go_ret;exact ⟨rfl,B1.out⟩
 ·skip
  have y1_0_0:=za (j:=0) (v:=.string r.fa) X1_0.out rfl;have y1_0_1:=za (j:=1) (v:=.string r.fp) X1_0.out rfl;have y1_0_2:=za (j:=2) (v:=.slice a2 r.fj.length c2) X1_0.out rfl;have y1_0_3:=za (j:=3) (v:=.bool r.fq) X1_0.out rfl;have y1_0_4:=za (j:=4) (v:=.slice a4 r.fg.length c4) X1_0.out rfl;have y1_0_5:=za (j:=5) (v:=.slice a5 r.fo.length c5) X1_0.out rfl;have y1_1_0:=za (j:=0) (v:=.string x.fd) X1_1.out rfl;have y1_1_1:=za (j:=1) (v:=.string x.fa) X1_1.out rfl;have y1_1_2:=za (j:=2) (v:=.int .i64 x.fe.fh) X1_1.out rfl;have y1_1_3:=za (j:=3) (v:=.int .i64 x.fe.fN) X1_1.out rfl;have y1_1_4:=za (j:=4) (v:=.int .i64 x.fe.fb) X1_1.out rfl;have y1_1_5:=za (j:=5) (v:=.int .i64 x.fe.fk) X1_1.out rfl;have y1_1_6:=za (j:=6) (v:=.string x.fe.fd) X1_1.out rfl;have y1_1_7:=za (j:=7) (v:=.string x.fe.fa) X1_1.out rfl;have y1_1_8:=za (j:=8) (v:=.slice a8 x.fe.fc.length c8) X1_1.out rfl;have y1_1_9:=za (j:=9) (v:=.int .i64 x.ff.fh) X1_1.out rfl;have y1_1_10:=za (j:=10) (v:=.int .i64 x.ff.fN) X1_1.out rfl;have y1_1_11:=za (j:=11) (v:=.int .i64 x.ff.fb) X1_1.out rfl;have y1_1_12:=za (j:=12) (v:=.int .i64 x.ff.fk) X1_1.out rfl;have y1_1_13:=za (j:=13) (v:=.string x.ff.fd) X1_1.out rfl;have y1_1_14:=za (j:=14) (v:=.string x.ff.fa) X1_1.out rfl;have y1_1_15:=za (j:=15) (v:=.slice a15 x.ff.fc.length c15) X1_1.out rfl;(go_wp2_with fail);refine (H1.out _ B1.out).mono ?_;rintro e w2 ⟨rfl,hb2⟩;clear y1_0_0 y1_0_1 y1_0_2 y1_0_3 y1_0_4 y1_0_5 y1_1_0 y1_1_1 y1_1_2 y1_1_3 y1_1_4 y1_1_5 y1_1_6 y1_1_7 y1_1_8 y1_1_9 y1_1_10 y1_1_11 y1_1_12 y1_1_13 y1_1_14 y1_1_15;have B2:=yq (B1.out.trans (hb2.mono B1.out.size))
  have S2:=yq (show w.heap.size+2≤w2.heap.size from Nat.le_trans S1.out hb2.size)
  have X2_0:=yq ((hb2.block (w.heap.size) (by have:=S1.out;omega)).trans X1_0.out)
  have X2_1:=yq ((hb2.block (w.heap.size+1) (by have:=S1.out;omega)).trans X1_1.out)
  clear hb2
  cases v1
  ·go_wp2
   go_ret;exact ⟨rfl,B2.out⟩
  ·skip
   have y2_0_0:=za (j:=0) (v:=.string r.fa) X2_0.out rfl;have y2_0_1:=za (j:=1) (v:=.string r.fp) X2_0.out rfl;have y2_0_2:=za (j:=2) (v:=.slice a2 r.fj.length c2) X2_0.out rfl;have y2_0_3:=za (j:=3) (v:=.bool r.fq) X2_0.out rfl;have y2_0_4:=za (j:=4) (v:=.slice a4 r.fg.length c4) X2_0.out rfl;have y2_0_5:=za (j:=5) (v:=.slice a5 r.fo.length c5) X2_0.out rfl;have y2_1_0:=za (j:=0) (v:=.string x.fd) X2_1.out rfl;have y2_1_1:=za (j:=1) (v:=.string x.fa) X2_1.out rfl;have y2_1_2:=za (j:=2) (v:=.int .i64 x.fe.fh) X2_1.out rfl;have y2_1_3:=za (j:=3) (v:=.int .i64 x.fe.fN) X2_1.out rfl;have y2_1_4:=za (j:=4) (v:=.int .i64 x.fe.fb) X2_1.out rfl;have y2_1_5:=za (j:=5) (v:=.int .i64 x.fe.fk) X2_1.out rfl;have y2_1_6:=za (j:=6) (v:=.string x.fe.fd) X2_1.out rfl;have y2_1_7:=za (j:=7) (v:=.string x.fe.fa) X2_1.out rfl;have y2_1_8:=za (j:=8) (v:=.slice a8 x.fe.fc.length c8) X2_1.out rfl;have y2_1_9:=za (j:=9) (v:=.int .i64 x.ff.fh) X2_1.out rfl;have y2_1_10:=za (j:=10) (v:=.int .i64 x.ff.fN) X2_1.out rfl;have y2_1_11:=za (j:=11) (v:=.int .i64 x.ff.fb) X2_1.out rfl;have y2_1_12:=za (j:=12) (v:=.int .i64 x.ff.fk) X2_1.out rfl;have y2_1_13:=za (j:=13) (v:=.string x.ff.fd) X2_1.out rfl;have y2_1_14:=za (j:=14) (v:=.string x.ff.fa) X2_1.out rfl;have y2_1_15:=za (j:=15) (v:=.slice a15 x.ff.fc.length c15) X2_1.out rfl;(go_wp2_with fail);refine (H2.out _ B2.out).mono ?_;rintro e w3 ⟨rfl,hb3⟩;clear y2_0_0 y2_0_1 y2_0_2 y2_0_3 y2_0_4 y2_0_5 y2_1_0 y2_1_1 y2_1_2 y2_1_3 y2_1_4 y2_1_5 y2_1_6 y2_1_7 y2_1_8 y2_1_9 y2_1_10 y2_1_11 y2_1_12 y2_1_13 y2_1_14 y2_1_15;have B3:=yq (B2.out.trans (hb3.mono B2.out.size))
   have S3:=yq (show w.heap.size+2≤w3.heap.size from Nat.le_trans S2.out hb3.size)
   have X3_0:=yq ((hb3.block (w.heap.size) (by have:=S2.out;omega)).trans X2_0.out)
   have X3_1:=yq ((hb3.block (w.heap.size+1) (by have:=S2.out;omega)).trans X2_1.out)
   clear hb3
   cases v2
   ·go_wp2
    go_ret;exact ⟨rfl,B3.out⟩
   ·skip
    have y3_0_0:=za (j:=0) (v:=.string r.fa) X3_0.out rfl;have y3_0_1:=za (j:=1) (v:=.string r.fp) X3_0.out rfl;have y3_0_2:=za (j:=2) (v:=.slice a2 r.fj.length c2) X3_0.out rfl;have y3_0_3:=za (j:=3) (v:=.bool r.fq) X3_0.out rfl;have y3_0_4:=za (j:=4) (v:=.slice a4 r.fg.length c4) X3_0.out rfl;have y3_0_5:=za (j:=5) (v:=.slice a5 r.fo.length c5) X3_0.out rfl;have y3_1_0:=za (j:=0) (v:=.string x.fd) X3_1.out rfl;have y3_1_1:=za (j:=1) (v:=.string x.fa) X3_1.out rfl;have y3_1_2:=za (j:=2) (v:=.int .i64 x.fe.fh) X3_1.out rfl;have y3_1_3:=za (j:=3) (v:=.int .i64 x.fe.fN) X3_1.out rfl;have y3_1_4:=za (j:=4) (v:=.int .i64 x.fe.fb) X3_1.out rfl;have y3_1_5:=za (j:=5) (v:=.int .i64 x.fe.fk) X3_1.out rfl;have y3_1_6:=za (j:=6) (v:=.string x.fe.fd) X3_1.out rfl;have y3_1_7:=za (j:=7) (v:=.string x.fe.fa) X3_1.out rfl;have y3_1_8:=za (j:=8) (v:=.slice a8 x.fe.fc.length c8) X3_1.out rfl;have y3_1_9:=za (j:=9) (v:=.int .i64 x.ff.fh) X3_1.out rfl;have y3_1_10:=za (j:=10) (v:=.int .i64 x.ff.fN) X3_1.out rfl;have y3_1_11:=za (j:=11) (v:=.int .i64 x.ff.fb) X3_1.out rfl;have y3_1_12:=za (j:=12) (v:=.int .i64 x.ff.fk) X3_1.out rfl;have y3_1_13:=za (j:=13) (v:=.string x.ff.fd) X3_1.out rfl;have y3_1_14:=za (j:=14) (v:=.string x.ff.fa) X3_1.out rfl;have y3_1_15:=za (j:=15) (v:=.slice a15 x.ff.fc.length c15) X3_1.out rfl;(go_wp2_with fail);refine (H3.out _ B3.out).mono ?_;rintro e w4 ⟨rfl,hb4⟩;clear y3_0_0 y3_0_1 y3_0_2 y3_0_3 y3_0_4 y3_0_5 y3_1_0 y3_1_1 y3_1_2 y3_1_3 y3_1_4 y3_1_5 y3_1_6 y3_1_7 y3_1_8 y3_1_9 y3_1_10 y3_1_11 y3_1_12 y3_1_13 y3_1_14 y3_1_15;have B4:=yq (B3.out.trans (hb4.mono B3.out.size))
    have S4:=yq (show w.heap.size+2≤w4.heap.size from Nat.le_trans S3.out hb4.size)
    have X4_0:=yq ((hb4.block (w.heap.size) (by have:=S3.out;omega)).trans X3_0.out)
    have X4_1:=yq ((hb4.block (w.heap.size+1) (by have:=S3.out;omega)).trans X3_1.out)
    clear hb4;go_wp2;go_ret;exact ⟨rfl,B4.out⟩
theorem zh7 {hi c8:Nat} {a8:Option Addr} {a2 a4 a5:Option Addr} {c2 c4 c5:Nat} (r:DRule) (hn:r.fj.length≤1048576) (x:DEquation) (hok:x.ok) (hsz:x.sz≤1048576) (q:Nat) (w:World) (hq:w.heap[q]? = some (.cells #[.string r.fa,.string r.fp,.slice a2 r.fj.length c2,.bool r.fq,.slice a4 r.fg.length c4,.slice a5 r.fo.length c5] 50)) (hql:q < w.heap.size) (hhi:hi≤w.heap.size) (hs8:Sf 0 hi w 7 x.fi.fc.length (ctE x.fi.fc) a8) :
  Calls Tryz.prog 81 #[.agg #[.int .i64 x.fAt.fb,.string x.fAt.fa,.int .i64 x.fi.fh,.int .i64 x.fi.fN,.int .i64 x.fi.fb,.int .i64 x.fi.fk,.string x.fi.fd,.string x.fi.fa,.slice a8 x.fi.fc.length c8],.pointer (some ⟨q,0,none⟩)] w fun e w'=>e = .returned (.bool (eqOk r x))∧Below w.heap.size w w':=by
 have HC:=yq (fun (W:World) (hW:Below w.heap.size w W)=>zfi (c8:=c8) (a2:=a2) (a4:=a4) (a5:=a5) (c2:=c2) (c4:=c4) (c5:=c5) r hn x hok hsz W (Nat.le_trans hhi hW.size) (hs8.later hW hhi))
 clear hs8 hok hsz hn;generalize eqOk r x=v0 at *
 have B0:=yq (show Below w.heap.size w (World.alloc w (.cells #[.int .i64 x.fAt.fb,.string x.fAt.fa,.int .i64 x.fi.fh,.int .i64 x.fi.fN,.int .i64 x.fi.fb,.int .i64 x.fi.fk,.string x.fi.fd,.string x.fi.fa,.slice a8 x.fi.fc.length c8] 95)) from ((Below.refl w.heap.size w).alloc (Nat.le_refl _) (.cells #[.int .i64 x.fAt.fb,.string x.fAt.fa,.int .i64 x.fi.fh,.int .i64 x.fi.fN,.int .i64 x.fi.fb,.int .i64 x.fi.fk,.string x.fi.fd,.string x.fi.fa,.slice a8 x.fi.fc.length c8] 95)))
 have S0:=yq (show (World.alloc w (.cells #[.int .i64 x.fAt.fb,.string x.fAt.fa,.int .i64 x.fi.fh,.int .i64 x.fi.fN,.int .i64 x.fi.fb,.int .i64 x.fi.fk,.string x.fi.fd,.string x.fi.fa,.slice a8 x.fi.fc.length c8] 95)).heap.size=w.heap.size+1 by simp)
 have X0_0:=yq (show (World.alloc w (.cells #[.int .i64 x.fAt.fb,.string x.fAt.fa,.int .i64 x.fi.fh,.int .i64 x.fi.fN,.int .i64 x.fi.fb,.int .i64 x.fi.fk,.string x.fi.fd,.string x.fi.fa,.slice a8 x.fi.fc.length c8] 95)).heap[w.heap.size]? = some (.cells #[.int .i64 x.fAt.fb,.string x.fAt.fa,.int .i64 x.fi.fh,.int .i64 x.fi.fN,.int .i64 x.fi.fb,.int .i64 x.fi.fk,.string x.fi.fd,.string x.fi.fa,.slice a8 x.fi.fc.length c8] 95) from (ze (by simp)))
 have Q0:=yq ((B0.out.block q hql).trans hq)
 go_enter Tryz.func81,Tryz.ntmps81
 have z0_0:=za (w:=(World.alloc w (.cells #[.int .i64 x.fAt.fb,.string x.fAt.fa,.int .i64 x.fi.fh,.int .i64 x.fi.fN,.int .i64 x.fi.fb,.int .i64 x.fi.fk,.string x.fi.fd,.string x.fi.fa,.slice a8 x.fi.fc.length c8] 95))) (j:=0) (v:=.string r.fa) Q0.out rfl;have z0_1:=za (w:=(World.alloc w (.cells #[.int .i64 x.fAt.fb,.string x.fAt.fa,.int .i64 x.fi.fh,.int .i64 x.fi.fN,.int .i64 x.fi.fb,.int .i64 x.fi.fk,.string x.fi.fd,.string x.fi.fa,.slice a8 x.fi.fc.length c8] 95))) (j:=1) (v:=.string r.fp) Q0.out rfl;have z0_2:=za (w:=(World.alloc w (.cells #[.int .i64 x.fAt.fb,.string x.fAt.fa,.int .i64 x.fi.fh,.int .i64 x.fi.fN,.int .i64 x.fi.fb,.int .i64 x.fi.fk,.string x.fi.fd,.string x.fi.fa,.slice a8 x.fi.fc.length c8] 95))) (j:=2) (v:=.slice a2 r.fj.length c2) Q0.out rfl;have z0_3:=za (w:=(World.alloc w (.cells #[.int .i64 x.fAt.fb,.string x.fAt.fa,.int .i64 x.fi.fh,.int .i64 x.fi.fN,.int .i64 x.fi.fb,.int .i64 x.fi.fk,.string x.fi.fd,.string x.fi.fa,.slice a8 x.fi.fc.length c8] 95))) (j:=3) (v:=.bool r.fq) Q0.out rfl;have z0_4:=za (w:=(World.alloc w (.cells #[.int .i64 x.fAt.fb,.string x.fAt.fa,.int .i64 x.fi.fh,.int .i64 x.fi.fN,.int .i64 x.fi.fb,.int .i64 x.fi.fk,.string x.fi.fd,.string x.fi.fa,.slice a8 x.fi.fc.length c8] 95))) (j:=4) (v:=.slice a4 r.fg.length c4) Q0.out rfl;have z0_5:=za (w:=(World.alloc w (.cells #[.int .i64 x.fAt.fb,.string x.fAt.fa,.int .i64 x.fi.fh,.int .i64 x.fi.fN,.int .i64 x.fi.fb,.int .i64 x.fi.fk,.string x.fi.fd,.string x.fi.fa,.slice a8 x.fi.fc.length c8] 95))) (j:=5) (v:=.slice a5 r.fo.length c5) Q0.out rfl;(go_wp2_with fail);refine (HC.out _ B0.out).mono ?_;rintro e w1 ⟨rfl,hb1⟩;clear z0_0 z0_1 z0_2 z0_3 z0_4 z0_5;have B1:=yq (B0.out.trans (hb1.mono B0.out.size))
 have S1:=yq (show w.heap.size+1≤w1.heap.size from Nat.le_trans (by rw [S0.out];exact Nat.le_refl _) hb1.size)
 have X1_0:=yq ((hb1.block (w.heap.size) (by have:=S0.out;omega)).trans X0_0.out)
 have Q1:=yq ((hb1.block q (Nat.lt_of_lt_of_le hql B0.out.size)).trans Q0.out);clear hb1;go_wp2;go_ret;exact ⟨rfl,B1.out⟩
theorem zic {hi c8 c15:Nat} {a8 a15:Option Addr} {a2 a4 a5:Option Addr} {c2 c4 c5:Nat} (r:DRule) (hn:r.fj.length≤1048576) (x:DContribution) (hok:x.ok) (hsz:x.sz≤1048576) (q:Nat) (w:World) (hq:w.heap[q]? = some (.cells #[.string r.fa,.string r.fp,.slice a2 r.fj.length c2,.bool r.fq,.slice a4 r.fg.length c4,.slice a5 r.fo.length c5] 50)) (hql:q < w.heap.size) (hhi:hi≤w.heap.size) (hs8:Sf 0 hi w 7 x.fe.fc.length (ctE x.fe.fc) a8) (hs15:Sf 0 hi w 7 x.ff.fc.length (ctE x.ff.fc) a15) :
  Calls Tryz.prog 84 #[.agg #[.string x.fd,.string x.fa,.int .i64 x.fe.fh,.int .i64 x.fe.fN,.int .i64 x.fe.fb,.int .i64 x.fe.fk,.string x.fe.fd,.string x.fe.fa,.slice a8 x.fe.fc.length c8,.int .i64 x.ff.fh,.int .i64 x.ff.fN,.int .i64 x.ff.fb,.int .i64 x.ff.fk,.string x.ff.fd,.string x.ff.fa,.slice a15 x.ff.fc.length c15],.pointer (some ⟨q,0,none⟩)] w fun e w'=>e = .returned (.bool (coOk r x))∧Below w.heap.size w w':=by
 have HC:=yq (fun (W:World) (hW:Below w.heap.size w W)=>zd2 (c8:=c8) (c15:=c15) (a2:=a2) (a4:=a4) (a5:=a5) (c2:=c2) (c4:=c4) (c5:=c5) r hn x hok hsz W (Nat.le_trans hhi hW.size) (hs8.later hW hhi) (hs15.later hW hhi))
 clear hs8 hs15 hok hsz hn;generalize coOk r x=v0 at *
 have B0:=yq (show Below w.heap.size w (World.alloc w (.cells #[.string x.fd,.string x.fa,.int .i64 x.fe.fh,.int .i64 x.fe.fN,.int .i64 x.fe.fb,.int .i64 x.fe.fk,.string x.fe.fd,.string x.fe.fa,.slice a8 x.fe.fc.length c8,.int .i64 x.ff.fh,.int .i64 x.ff.fN,.int .i64 x.ff.fb,.int .i64 x.ff.fk,.string x.ff.fd,.string x.ff.fa,.slice a15 x.ff.fc.length c15] 110)) from ((Below.refl w.heap.size w).alloc (Nat.le_refl _) (.cells #[.string x.fd,.string x.fa,.int .i64 x.fe.fh,.int .i64 x.fe.fN,.int .i64 x.fe.fb,.int .i64 x.fe.fk,.string x.fe.fd,.string x.fe.fa,.slice a8 x.fe.fc.length c8,.int .i64 x.ff.fh,.int .i64 x.ff.fN,.int .i64 x.ff.fb,.int .i64 x.ff.fk,.string x.ff.fd,.string x.ff.fa,.slice a15 x.ff.fc.length c15] 110)))
 have S0:=yq (show (World.alloc w (.cells #[.string x.fd,.string x.fa,.int .i64 x.fe.fh,.int .i64 x.fe.fN,.int .i64 x.fe.fb,.int .i64 x.fe.fk,.string x.fe.fd,.string x.fe.fa,.slice a8 x.fe.fc.length c8,.int .i64 x.ff.fh,.int .i64 x.ff.fN,.int .i64 x.ff.fb,.int .i64 x.ff.fk,.string x.ff.fd,.string x.ff.fa,.slice a15 x.ff.fc.length c15] 110)).heap.size=w.heap.size+1 by simp)
 have X0_0:=yq (show (World.alloc w (.cells #[.string x.fd,.string x.fa,.int .i64 x.fe.fh,.int .i64 x.fe.fN,.int .i64 x.fe.fb,.int .i64 x.fe.fk,.string x.fe.fd,.string x.fe.fa,.slice a8 x.fe.fc.length c8,.int .i64 x.ff.fh,.int .i64 x.ff.fN,.int .i64 x.ff.fb,.int .i64 x.ff.fk,.string x.ff.fd,.string x.ff.fa,.slice a15 x.ff.fc.length c15] 110)).heap[w.heap.size]? = some (.cells #[.string x.fd,.string x.fa,.int .i64 x.fe.fh,.int .i64 x.fe.fN,.int .i64 x.fe.fb,.int .i64 x.fe.fk,.string x.fe.fd,.string x.fe.fa,.slice a8 x.fe.fc.length c8,.int .i64 x.ff.fh,.int .i64 x.ff.fN,.int .i64 x.ff.fb,.int .i64 x.ff.fk,.string x.ff.fd,.string x.ff.fa,.slice a15 x.ff.fc.length c15] 110) from (ze (by simp)))
 have Q0:=yq ((B0.out.block q hql).trans hq)
 go_enter Tryz.func84,Tryz.ntmps84
 have z0_0:=za (w:=(World.alloc w (.cells #[.string x.fd,.string x.fa,.int .i64 x.fe.fh,.int .i64 x.fe.fN,.int .i64 x.fe.fb,.int .i64 x.fe.fk,.string x.fe.fd,.string x.fe.fa,.slice a8 x.fe.fc.length c8,.int .i64 x.ff.fh,.int .i64 x.ff.fN,.int .i64 x.ff.fb,.int .i64 x.ff.fk,.string x.ff.fd,.string x.ff.fa,.slice a15 x.ff.fc.length c15] 110))) (j:=0) (v:=.string r.fa) Q0.out rfl;have z0_1:=za (w:=(World.alloc w (.cells #[.string x.fd,.string x.fa,.int .i64 x.fe.fh,.int .i64 x.fe.fN,.int .i64 x.fe.fb,.int .i64 x.fe.fk,.string x.fe.fd,.string x.fe.fa,.slice a8 x.fe.fc.length c8,.int .i64 x.ff.fh,.int .i64 x.ff.fN,.int .i64 x.ff.fb,.int .i64 x.ff.fk,.string x.ff.fd,.string x.ff.fa,.slice a15 x.ff.fc.length c15] 110))) (j:=1) (v:=.string r.fp) Q0.out rfl;have z0_2:=za (w:=(World.alloc w (.cells #[.string x.fd,.string x.fa,.int .i64 x.fe.fh,.int .i64 x.fe.fN,.int .i64 x.fe.fb,.int .i64 x.fe.fk,.string x.fe.fd,.string x.fe.fa,.slice a8 x.fe.fc.length c8,.int .i64 x.ff.fh,.int .i64 x.ff.fN,.int .i64 x.ff.fb,.int .i64 x.ff.fk,.string x.ff.fd,.string x.ff.fa,.slice a15 x.ff.fc.length c15] 110))) (j:=2) (v:=.slice a2 r.fj.length c2) Q0.out rfl;have z0_3:=za (w:=(World.alloc w (.cells #[.string x.fd,.string x.fa,.int .i64 x.fe.fh,.int .i64 x.fe.fN,.int .i64 x.fe.fb,.int .i64 x.fe.fk,.string x.fe.fd,.string x.fe.fa,.slice a8 x.fe.fc.length c8,.int .i64 x.ff.fh,.int .i64 x.ff.fN,.int .i64 x.ff.fb,.int .i64 x.ff.fk,.string x.ff.fd,.string x.ff.fa,.slice a15 x.ff.fc.length c15] 110))) (j:=3) (v:=.bool r.fq) Q0.out rfl;have z0_4:=za (w:=(World.alloc w (.cells #[.string x.fd,.string x.fa,.int .i64 x.fe.fh,.int .i64 x.fe.fN,.int .i64 x.fe.fb,.int .i64 x.fe.fk,.string x.fe.fd,.string x.fe.fa,.slice a8 x.fe.fc.length c8,.int .i64 x.ff.fh,.int .i64 x.ff.fN,.int .i64 x.ff.fb,.int .i64 x.ff.fk,.string x.ff.fd,.string x.ff.fa,.slice a15 x.ff.fc.length c15] 110))) (j:=4) (v:=.slice a4 r.fg.length c4) Q0.out rfl;have z0_5:=za (w:=(World.alloc w (.cells #[.string x.fd,.string x.fa,.int .i64 x.fe.fh,.int .i64 x.fe.fN,.int .i64 x.fe.fb,.int .i64 x.fe.fk,.string x.fe.fd,.string x.fe.fa,.slice a8 x.fe.fc.length c8,.int .i64 x.ff.fh,.int .i64 x.ff.fN,.int .i64 x.ff.fb,.int .i64 x.ff.fk,.string x.ff.fd,.string x.ff.fa,.slice a15 x.ff.fc.length c15] 110))) (j:=5) (v:=.slice a5 r.fo.length c5) Q0.out rfl
 (go_wp2_with fail);refine (HC.out _ B0.out).mono ?_;rintro e w1 ⟨rfl,hb1⟩;clear z0_0 z0_1 z0_2 z0_3 z0_4 z0_5;have B1:=yq (B0.out.trans (hb1.mono B0.out.size))
 have S1:=yq (show w.heap.size+1≤w1.heap.size from Nat.le_trans (by rw [S0.out];exact Nat.le_refl _) hb1.size)
 have X1_0:=yq ((hb1.block (w.heap.size) (by have:=S0.out;omega)).trans X0_0.out)
 have Q1:=yq ((hb1.block q (Nat.lt_of_lt_of_le hql B0.out.size)).trans Q0.out);clear hb1;go_wp2;go_ret;exact ⟨rfl,B1.out⟩
theorem zi6 {hi:Nat} {a2 a4 a5:Option Addr} {c0_0 c0_1 c0_2:Nat} (r:DRule) (hok:r.ok) (hsz:r.sz≤1048576) (w:World) (hhi:hi≤w.heap.size) (hs2:Sf 0 hi w 1 r.fj.length (fun k=>ictS (r.fj.getD k default)) a2) (hs4:Sf 0 hi w 9 r.fg.length (fun k=>DEquation.ct (r.fg.getD k default)) a4) (hs5:Sf 0 hi w 16 r.fo.length (fun k=>DContribution.ct (r.fo.getD k default)) a5) :
  Calls Tryz.prog 49 #[.agg #[.string r.fa,.string r.fp,.slice a2 r.fj.length c0_0,.bool r.fq,.slice a4 r.fg.length c0_1,.slice a5 r.fo.length c0_2]] w fun e w'=>e = .returned (.bool (zfx r))∧Below w.heap.size w w':=by
 have hz1:r.fa.size≤1048576:=by unfold DRule.sz at hsz;omega
 have hz2:r.fp.size≤1048576:=by unfold DRule.sz at hsz;omega
 have hzr:lsz ByteArray.size r.fj≤1048576:=by unfold DRule.sz at hsz;omega
 have hze:lsz DEquation.sz r.fg≤1048576:=by unfold DRule.sz at hsz;omega
 have hzc:lsz DContribution.sz r.fo≤1048576:=by unfold DRule.sz at hsz;omega
 have hn:r.fj.length≤1048576:=by unfold lsz at hzr;omega
 have hne:r.fg.length≤1048577:=by unfold lsz at hze;omega
 have hnc:r.fo.length≤1048577:=by unfold lsz at hzc;omega
 have H0:=yq (fun (W:World) (_:Below w.heap.size w W)=>zai r.fa hz1 W)
 have H1:=yq (fun (W:World) (_:Below w.heap.size w W)=>zai r.fp hz2 W)
 have H2:=yq (fun (W:World) (hW:Below w.heap.size w W)=>zmb (c:=c0_0) zi r.fj (by omega) W (Nat.le_trans hhi hW.size) (hs2.later hW hhi) (fun k hk W2 _=>zai _ (Nat.le_trans (zab (f:=ByteArray.size) r.fj k hk) hzr) W2))
 have H3:=yq (fun (W:World) (hW:Below w.heap.size w W) (hb:W.heap[w.heap.size]? = some (.cells #[.string r.fa,.string r.fp,.slice a2 r.fj.length c0_0,.bool r.fq,.slice a4 r.fg.length c0_1,.slice a5 r.fo.length c0_2] 50)) (hbl:w.heap.size < W.heap.size)=>zqe (c:=c0_1) (eqOk r) w.heap.size r.fg hne W (Nat.le_trans hhi hW.size) (hs4.later hW hhi) (fun k hk a8 c8 W2 hW2 hs8=>zh7 (a2:=a2) (a4:=a4) (a5:=a5) (c2:=c0_0) (c4:=c0_1) (c5:=c0_2) r hn _ (hok.2.2.2.2.1.at hk) (Nat.le_trans (zab (f:=DEquation.sz) r.fg k hk) hze) w.heap.size W2 ((hW2.block _ hbl).trans hb) (Nat.lt_of_lt_of_le hbl hW2.size) (Nat.le_trans (Nat.le_trans hhi hW.size) hW2.size) hs8))
 have H4:=yq (fun (W:World) (hW:Below w.heap.size w W) (hb:W.heap[w.heap.size]? = some (.cells #[.string r.fa,.string r.fp,.slice a2 r.fj.length c0_0,.bool r.fq,.slice a4 r.fg.length c0_1,.slice a5 r.fo.length c0_2] 50)) (hbl:w.heap.size < W.heap.size)=>zoy (c:=c0_2) (coOk r) w.heap.size r.fo hnc W (Nat.le_trans hhi hW.size) (hs5.later hW hhi) (fun k hk a8 c8 a15 c15 W2 hW2 hs8 hs15=>zic (a2:=a2) (a4:=a4) (a5:=a5) (c2:=c0_0) (c4:=c0_1) (c5:=c0_2) r hn _ (hok.2.2.2.2.2.at hk) (Nat.le_trans (zab (f:=DContribution.sz) r.fo k hk) hzc) w.heap.size W2 ((hW2.block _ hbl).trans hb) (Nat.lt_of_lt_of_le hbl hW2.size) (Nat.le_trans (Nat.le_trans hhi hW.size) hW2.size) hs8 hs15))
 unfold zfx
 clear hs2 hs4 hs5 hz1 hz2 hzr hze hzc hok hsz;generalize r.fo.all (coOk r)=v4 at *;generalize r.fg.all (eqOk r)=v3 at *;generalize r.fj.all zi=v2 at *;generalize zi r.fp=v1 at *;generalize zi r.fa=v0 at *
 rcases (by omega:3 < r.fj.length∨(r.fj.length≤3∧2 < r.fo.length)∨(r.fj.length≤3∧r.fo.length≤2)) with h3|⟨h3,h2⟩|⟨h3,h2⟩
 ·rw [decide_eq_false (p:=r.fj.length≤3) (by omega),Bool.and_false,Bool.false_and,Bool.false_and,Bool.false_and,Bool.false_and]
  have q3:(3:Int) < (r.fj.length:Int):=by omega
  clear h3
  have B0:=yq (show Below w.heap.size w (World.alloc w (.cells #[.string r.fa,.string r.fp,.slice a2 r.fj.length c0_0,.bool r.fq,.slice a4 r.fg.length c0_1,.slice a5 r.fo.length c0_2] 50)) from ((Below.refl w.heap.size w).alloc (Nat.le_refl _) (.cells #[.string r.fa,.string r.fp,.slice a2 r.fj.length c0_0,.bool r.fq,.slice a4 r.fg.length c0_1,.slice a5 r.fo.length c0_2] 50)))
  have S0:=yq (show (World.alloc w (.cells #[.string r.fa,.string r.fp,.slice a2 r.fj.length c0_0,.bool r.fq,.slice a4 r.fg.length c0_1,.slice a5 r.fo.length c0_2] 50)).heap.size=w.heap.size+1 by simp)
  have X0_0:=yq (show (World.alloc w (.cells #[.string r.fa,.string r.fp,.slice a2 r.fj.length c0_0,.bool r.fq,.slice a4 r.fg.length c0_1,.slice a5 r.fo.length c0_2] 50)).heap[w.heap.size]? = some (.cells #[.string r.fa,.string r.fp,.slice a2 r.fj.length c0_0,.bool r.fq,.slice a4 r.fg.length c0_1,.slice a5 r.fo.length c0_2] 50) from (ze (by simp)))
  go_enter Tryz.func49,Tryz.ntmps49
  (go_wp2_with fail);refine (H0.out _ B0.out).mono ?_;rintro e w1 ⟨rfl,hb1⟩;have B1:=yq (B0.out.trans (hb1.mono B0.out.size))
  have S1:=yq (show w.heap.size+1≤w1.heap.size from Nat.le_trans (by rw [S0.out];exact Nat.le_refl _) hb1.size)
  have X1_0:=yq ((hb1.block (w.heap.size) (by have:=S0.out;omega)).trans X0_0.out)
  clear hb1
  cases v0
  ·go_wp2
   go_ret;exact ⟨rfl,B1.out⟩
  ·skip
   have y1_0_0:=za (j:=0) (v:=.string r.fa) X1_0.out rfl;have y1_0_1:=za (j:=1) (v:=.string r.fp) X1_0.out rfl;have y1_0_2:=za (j:=2) (v:=.slice a2 r.fj.length c0_0) X1_0.out rfl;have y1_0_3:=za (j:=3) (v:=.bool r.fq) X1_0.out rfl;have y1_0_4:=za (j:=4) (v:=.slice a4 r.fg.length c0_1) X1_0.out rfl;have y1_0_5:=za (j:=5) (v:=.slice a5 r.fo.length c0_2) X1_0.out rfl;(go_wp2_with fail);refine (H1.out _ B1.out).mono ?_;rintro e w2 ⟨rfl,hb2⟩;clear y1_0_0 y1_0_1 y1_0_2 y1_0_3 y1_0_4 y1_0_5;have B2:=yq (B1.out.trans (hb2.mono B1.out.size))
   have S2:=yq (show w.heap.size+1≤w2.heap.size from Nat.le_trans S1.out hb2.size)
   have X2_0:=yq ((hb2.block (w.heap.size) (by have:=S1.out;omega)).trans X1_0.out)
   clear hb2;have y2_0_0:=za (j:=0) (v:=.string r.fa) X2_0.out rfl;have y2_0_1:=za (j:=1) (v:=.string r.fp) X2_0.out rfl;have y2_0_2:=za (j:=2) (v:=.slice a2 r.fj.length c0_0) X2_0.out rfl;have y2_0_3:=za (j:=3) (v:=.bool r.fq) X2_0.out rfl;have y2_0_4:=za (j:=4) (v:=.slice a4 r.fg.length c0_1) X2_0.out rfl;have y2_0_5:=za (j:=5) (v:=.slice a5 r.fo.length c0_2) X2_0.out rfl
   cases v1
   ·go_wp2
    go_ret;exact ⟨rfl,B2.out⟩
   ·go_wp2
    go_ret;exact ⟨rfl,B2.out⟩
 ·rw [decide_eq_false (p:=r.fo.length≤2) (by omega),Bool.and_false,Bool.false_and,Bool.false_and,Bool.false_and]
  have q3:(r.fj.length:Int)≤3:=by omega
  have q2:(2:Int) < (r.fo.length:Int):=by omega
  clear h3 h2
  have B0:=yq (show Below w.heap.size w (World.alloc w (.cells #[.string r.fa,.string r.fp,.slice a2 r.fj.length c0_0,.bool r.fq,.slice a4 r.fg.length c0_1,.slice a5 r.fo.length c0_2] 50)) from ((Below.refl w.heap.size w).alloc (Nat.le_refl _) (.cells #[.string r.fa,.string r.fp,.slice a2 r.fj.length c0_0,.bool r.fq,.slice a4 r.fg.length c0_1,.slice a5 r.fo.length c0_2] 50)))
  have S0:=yq (show (World.alloc w (.cells #[.string r.fa,.string r.fp,.slice a2 r.fj.length c0_0,.bool r.fq,.slice a4 r.fg.length c0_1,.slice a5 r.fo.length c0_2] 50)).heap.size=w.heap.size+1 by simp)
  have X0_0:=yq (show (World.alloc w (.cells #[.string r.fa,.string r.fp,.slice a2 r.fj.length c0_0,.bool r.fq,.slice a4 r.fg.length c0_1,.slice a5 r.fo.length c0_2] 50)).heap[w.heap.size]? = some (.cells #[.string r.fa,.string r.fp,.slice a2 r.fj.length c0_0,.bool r.fq,.slice a4 r.fg.length c0_1,.slice a5 r.fo.length c0_2] 50) from (ze (by simp)))
  go_enter Tryz.func49,Tryz.ntmps49
  (go_wp2_with fail);refine (H0.out _ B0.out).mono ?_;rintro e w1 ⟨rfl,hb1⟩;have B1:=yq (B0.out.trans (hb1.mono B0.out.size))
  have S1:=yq (show w.heap.size+1≤w1.heap.size from Nat.le_trans (by rw [S0.out];exact Nat.le_refl _) hb1.size)
  have X1_0:=yq ((hb1.block (w.heap.size) (by have:=S0.out;omega)).trans X0_0.out)
  clear hb1
  cases v0
  ·go_wp2
   go_ret;exact ⟨rfl,B1.out⟩
  ·skip
   have y1_0_0:=za (j:=0) (v:=.string r.fa) X1_0.out rfl;have y1_0_1:=za (j:=1) (v:=.string r.fp) X1_0.out rfl;have y1_0_2:=za (j:=2) (v:=.slice a2 r.fj.length c0_0) X1_0.out rfl;have y1_0_3:=za (j:=3) (v:=.bool r.fq) X1_0.out rfl;have y1_0_4:=za (j:=4) (v:=.slice a4 r.fg.length c0_1) X1_0.out rfl;have y1_0_5:=za (j:=5) (v:=.slice a5 r.fo.length c0_2) X1_0.out rfl;(go_wp2_with fail);refine (H1.out _ B1.out).mono ?_;rintro e w2 ⟨rfl,hb2⟩;clear y1_0_0 y1_0_1 y1_0_2 y1_0_3 y1_0_4 y1_0_5;have B2:=yq (B1.out.trans (hb2.mono B1.out.size))
   have S2:=yq (show w.heap.size+1≤w2.heap.size from Nat.le_trans S1.out hb2.size)
   have X2_0:=yq ((hb2.block (w.heap.size) (by have:=S1.out;omega)).trans X1_0.out)
   clear hb2;have y2_0_0:=za (j:=0) (v:=.string r.fa) X2_0.out rfl;have y2_0_1:=za (j:=1) (v:=.string r.fp) X2_0.out rfl;have y2_0_2:=za (j:=2) (v:=.slice a2 r.fj.length c0_0) X2_0.out rfl;have y2_0_3:=za (j:=3) (v:=.bool r.fq) X2_0.out rfl;have y2_0_4:=za (j:=4) (v:=.slice a4 r.fg.length c0_1) X2_0.out rfl;have y2_0_5:=za (j:=5) (v:=.slice a5 r.fo.length c0_2) X2_0.out rfl
   cases v1
   ·go_wp2
    go_ret;exact ⟨rfl,B2.out⟩
   ·go_wp2
    go_ret;exact ⟨rfl,B2.out⟩
 ·rw [decide_eq_true h3,decide_eq_true h2]
  have q3:(r.fj.length:Int)≤3:=by omega
  have q2:(r.fo.length:Int)≤2:=by omega
  clear h3 h2
  have B0:=yq (show Below w.heap.size w (World.alloc w (.cells #[.string r.fa,.string r.fp,.slice a2 r.fj.length c0_0,.bool r.fq,.slice a4 r.fg.length c0_1,.slice a5 r.fo.length c0_2] 50)) from ((Below.refl w.heap.size w).alloc (Nat.le_refl _) (.cells #[.string r.fa,.string r.fp,.slice a2 r.fj.length c0_0,.bool r.fq,.slice a4 r.fg.length c0_1,.slice a5 r.fo.length c0_2] 50)))
  have S0:=yq (show (World.alloc w (.cells #[.string r.fa,.string r.fp,.slice a2 r.fj.length c0_0,.bool r.fq,.slice a4 r.fg.length c0_1,.slice a5 r.fo.length c0_2] 50)).heap.size=w.heap.size+1 by simp)
  have X0_0:=yq (show (World.alloc w (.cells #[.string r.fa,.string r.fp,.slice a2 r.fj.length c0_0,.bool r.fq,.slice a4 r.fg.length c0_1,.slice a5 r.fo.length c0_2] 50)).heap[w.heap.size]? = some (.cells #[.string r.fa,.string r.fp,.slice a2 r.fj.length c0_0,.bool r.fq,.slice a4 r.fg.length c0_1,.slice a5 r.fo.length c0_2] 50) from (ze (by simp)))
  go_enter Tryz.func49,Tryz.ntmps49
  (go_wp2_with fail);refine (H0.out _ B0.out).mono ?_;rintro e w1 ⟨rfl,hb1⟩;have B1:=yq (B0.out.trans (hb1.mono B0.out.size))
  have S1:=yq (show w.heap.size+1≤w1.heap.size from Nat.le_trans (by rw [S0.out];exact Nat.le_refl _) hb1.size)
  have X1_0:=yq ((hb1.block (w.heap.size) (by have:=S0.out;omega)).trans X0_0.out)
  clear hb1
  cases v0
  ·go_wp2
   go_ret;exact ⟨rfl,B1.out⟩
  ·skip
   have y1_0_0:=za (j:=0) (v:=.string r.fa) X1_0.out rfl;have y1_0_1:=za (j:=1) (v:=.string r.fp) X1_0.out rfl;have y1_0_2:=za (j:=2) (v:=.slice a2 r.fj.length c0_0) X1_0.out rfl;have y1_0_3:=za (j:=3) (v:=.bool r.fq) X1_0.out rfl;have y1_0_4:=za (j:=4) (v:=.slice a4 r.fg.length c0_1) X1_0.out rfl;have y1_0_5:=za (j:=5) (v:=.slice a5 r.fo.length c0_2) X1_0.out rfl;(go_wp2_with fail);refine (H1.out _ B1.out).mono ?_;rintro e w2 ⟨rfl,hb2⟩;clear y1_0_0 y1_0_1 y1_0_2 y1_0_3 y1_0_4 y1_0_5;have B2:=yq (B1.out.trans (hb2.mono B1.out.size))
   have S2:=yq (show w.heap.size+1≤w2.heap.size from Nat.le_trans S1.out hb2.size)
   have X2_0:=yq ((hb2.block (w.heap.size) (by have:=S1.out;omega)).trans X1_0.out)
   clear hb2
   cases v1
   ·go_wp2
    go_ret;exact ⟨rfl,B2.out⟩
   ·skip
    have y2_0_0:=za (j:=0) (v:=.string r.fa) X2_0.out rfl;have y2_0_1:=za (j:=1) (v:=.string r.fp) X2_0.out rfl;have y2_0_2:=za (j:=2) (v:=.slice a2 r.fj.length c0_0) X2_0.out rfl;have y2_0_3:=za (j:=3) (v:=.bool r.fq) X2_0.out rfl;have y2_0_4:=za (j:=4) (v:=.slice a4 r.fg.length c0_1) X2_0.out rfl;have y2_0_5:=za (j:=5) (v:=.slice a5 r.fo.length c0_2) X2_0.out rfl;(go_wp2_with fail);refine (H2.out _ B2.out).mono ?_;rintro e w3 ⟨rfl,hb3⟩;clear y2_0_0 y2_0_1 y2_0_2 y2_0_3 y2_0_4 y2_0_5;have B3:=yq (B2.out.trans (hb3.mono B2.out.size))
    have S3:=yq (show w.heap.size+1≤w3.heap.size from Nat.le_trans S2.out hb3.size)
    have X3_0:=yq ((hb3.block (w.heap.size) (by have:=S2.out;omega)).trans X2_0.out)
    clear hb3
    cases v2
    ·go_wp2
     go_ret;exact ⟨rfl,B3.out⟩
    ·skip
     have y3_0_0:=za (j:=0) (v:=.string r.fa) X3_0.out rfl;have y3_0_1:=za (j:=1) (v:=.string r.fp) X3_0.out rfl;have y3_0_2:=za (j:=2) (v:=.slice a2 r.fj.length c0_0) X3_0.out rfl;have y3_0_3:=za (j:=3) (v:=.bool r.fq) X3_0.out rfl;have y3_0_4:=za (j:=4) (v:=.slice a4 r.fg.length c0_1) X3_0.out rfl;have y3_0_5:=za (j:=5) (v:=.slice a5 r.fo.length c0_2) X3_0.out rfl;(go_wp2_with fail)
     refine (H3.out _ B3.out X3_0.out (by have:=S3.out;omega)).mono ?_
     rintro e w4 ⟨rfl,hb4⟩;clear y3_0_0 y3_0_1 y3_0_2 y3_0_3 y3_0_4 y3_0_5;have B4:=yq (B3.out.trans (hb4.mono B3.out.size))
     have S4:=yq (show w.heap.size+1≤w4.heap.size from Nat.le_trans S3.out hb4.size)
     have X4_0:=yq ((hb4.block (w.heap.size) (by have:=S3.out;omega)).trans X3_0.out)
     clear hb4
     cases v3
     ·go_wp2
      go_ret;exact ⟨rfl,B4.out⟩
     ·skip
      have y4_0_0:=za (j:=0) (v:=.string r.fa) X4_0.out rfl;have y4_0_1:=za (j:=1) (v:=.string r.fp) X4_0.out rfl;have y4_0_2:=za (j:=2) (v:=.slice a2 r.fj.length c0_0) X4_0.out rfl;have y4_0_3:=za (j:=3) (v:=.bool r.fq) X4_0.out rfl;have y4_0_4:=za (j:=4) (v:=.slice a4 r.fg.length c0_1) X4_0.out rfl;have y4_0_5:=za (j:=5) (v:=.slice a5 r.fo.length c0_2) X4_0.out rfl;(go_wp2_with fail)
      refine (H4.out _ B4.out X4_0.out (by have:=S4.out;omega)).mono ?_
      rintro e w5 ⟨rfl,hb5⟩;clear y4_0_0 y4_0_1 y4_0_2 y4_0_3 y4_0_4 y4_0_5;have B5:=yq (B4.out.trans (hb5.mono B4.out.size))
      have S5:=yq (show w.heap.size+1≤w5.heap.size from Nat.le_trans S4.out hb5.size)
      have X5_0:=yq ((hb5.block (w.heap.size) (by have:=S4.out;omega)).trans X4_0.out)
      clear hb5;go_wp2;go_ret;exact ⟨rfl,B5.out⟩
theorem zo9 {α : Type} [Inhabited α] {p : α → Bool} {l:List α} (h:zah p l l.length):l.any p=false:=by
 rw [List.any_eq_false];intro a ha;obtain ⟨k,hk,rfl⟩:=List.getElem_of_mem ha
 have:=h k hk
 rw [List.getD_eq_getElem?_getD,List.getElem?_eq_getElem hk] at this
 simpa using this
theorem zt5 {α : Type} [Inhabited α] {p : α → Bool} {l:List α} {k:Nat} (hk:k < l.length) (h:p (l.getD k default)=true):l.any p=true:=by
 rw [List.getD_eq_getElem?_getD,List.getElem?_eq_getElem hk] at h;exact List.any_eq_true.2 ⟨l[k],List.getElem_mem _,h⟩
theorem zlt {α : Type} [Inhabited α] {p : α → Bool} {l:List α} (h:zah (fun x=>!p x) l l.length):l.all p=true:=by
 rw [← zfb,zo9 h];rfl
theorem zq9 {α : Type} [Inhabited α] {p : α → Bool} {l:List α} {k:Nat} (hk:k < l.length) (h:p (l.getD k default)=false):l.all p=false:=by
 rw [← zfb,zt5 (p:=fun x=>!p x) hk (by show (!p _)=true;rw [h];rfl)];rfl
def zfc (n:Nat) (x:DExpr):Prop:=∀ ⦃lo hi c6:Nat⦄ ⦃a6:Option Addr⦄ (_hsz:x.sz≤1048576) (w:World) (_hhi:hi≤w.heap.size) (_hs6:Sl lo hi w 7 x.fc.length (ctE x.fc) a6),
 Calls Tryz.prog 104 #[.agg #[.int .i64 x.fh,.int .i64 x.fN,.int .i64 x.fb,.int .i64 x.fk,.string x.fd,.string x.fa,.slice a6 x.fc.length c6],.int .i64 (n:Int)] w fun e w'=>e = .returned (.bool (!posX n x))∧Below w.heap.size w w'
theorem zk2 (n:Nat) (x:DExpr) (ih : ∀ a ∈ x.fc,zfc n a):zfc n x:=by
 intro lo hi c6 a6 hsz w hhi hs6
 have hn:x.fc.length≤1048576:=by have h:=hsz;rw [DExpr.sz_eq] at h;unfold lsz at h;omega
 have HZ:=yq hsz;have IH:=yq ih;have HS:=yq hs6;have HW0:=yq ((Below.refl w.heap.size w).alloc (Nat.le_refl _) (.cells #[.int .i64 x.fh,.int .i64 x.fN,.int .i64 x.fb,.int .i64 x.fk,.string x.fd,.string x.fa,.slice a6 x.fc.length c6] 90));clear hsz ih hs6
 go_enter Tryz.func104,Tryz.ntmps104
 go_wp2
 go_loopw [5] (fun i wr=>∃ k:Nat,k≤x.fc.length∧i = .int .i64 (k:Int)∧zah (posX n) x.fc k∧Below (w.heap.size+1) (w.alloc (.cells #[.int .i64 x.fh,.int .i64 x.fN,.int .i64 x.fb,.int .i64 x.fk,.string x.fd,.string x.fa,.slice a6 x.fc.length c6] 90)) wr) (fun i _=>x.fc.length - (intOf i).toNat)
 case atStart=>exact ⟨0,Nat.zero_le _,rfl,zx _ _,Below.refl _ _⟩
 case round =>
  obtain ⟨k,hk,rfl,hno,hbl⟩:=hrel;have HB:=yq hbl
  have p6:wr.cell? ⟨w.heap.size,6,none⟩=some (.slice a6 x.fc.length c6):=(hbl.cell (p:=⟨w.heap.size,6,none⟩) (Nat.lt_succ_self _)).trans (by go_simp)
  have p2:wr.cell? ⟨w.heap.size,2,none⟩=some (.int .i64 x.fb):=(hbl.cell (p:=⟨w.heap.size,2,none⟩) (Nat.lt_succ_self _)).trans (by go_simp)
  have hbw:Below w.heap.size w wr:=HW0.out.trans (hbl.mono (Nat.le_succ _));have HBW:=yq hbw
  have hsz1:w.heap.size+1≤wr.heap.size:=Nat.le_trans (by simp) hbl.size
  clear hbl
  by_cases hlt:k < x.fc.length
  ·obtain ⟨rb,ro,rfl,_,hrb,hc⟩:=(HS.out.later (hbw.mono hhi) (Nat.le_refl _)).at k hlt
   rw [zb6 hlt] at hc;obtain ⟨a9,c9,hc0,hc1,hc2,hc3,hc4,hc5,hc6,hs9⟩:=DExpr.open hc;have hszk:=zab (f:=DExpr.sz) x.fc k hlt;have hszx:=HZ.out;rw [DExpr.sz_eq] at hszx;have IK:=yq (IH.out _ (zbg hlt))
   have HC:=yq (IK.out (c6:=c9) (by omega) wr (Nat.le_trans hhi hbw.size) hs9)
   have HNO:=yq hno;clear hs9 hszk hszx hno hbw hc p2
   cases hr:posX n (x.fc.getD k default)
   ·have HPS:=yq (zt HNO.out hr)
    rw [hr] at HC;clear hr;generalize x.fc.getD k default=y at *;(go_wp2_with fail);refine HC.out.mono ?_;rintro e w1 ⟨rfl,hb1⟩;have HB1:=yq (HB.out.trans (hb1.mono hsz1));clear hb1;go_wp2;go_roundw
    case rel=>exact ⟨k+1,by omega,by go_num,HPS.out,HB1.out⟩
    case measure=>simp [intOf];omega
   ·have FIN:=yq (show (!posX n x)=false by rw [ztx,zt5 hlt hr,Bool.or_true];rfl)
    rw [hr] at HC;clear hr;generalize x.fc.getD k default=y at *;(go_wp2_with fail);refine HC.out.mono ?_;rintro e w1 ⟨rfl,hb1⟩;have HB1:=yq (HBW.out.trans (hb1.mono HBW.out.size));clear hb1;go_wp2;go_ret;exact ⟨zh FIN.out.symm,HB1.out⟩
  ·obtain rfl:k=x.fc.length:=by omega
   clear hbw
   have FIN:=yq (show decide (x.fb≤(n:Int)) = !posX n x by rw [ztx,zo9 hno,Bool.or_false,← decide_not];exact decide_eq_decide.2 (by omega))
   clear hno;go_wp2;go_ret;exact ⟨zh FIN.out,HBW.out⟩
theorem zou (n:Nat) (x:DExpr):zfc n x:=DExpr.ind (P:=zfc n) (zk2 n) x
theorem zf5 {lo hi c6:Nat} {a6:Option Addr} (n:Nat) (x:DExpr) (hok:x.ok) (hsz:x.sz≤1048576) (w:World) (hhi:hi≤w.heap.size) (hs6:Sl lo hi w 7 x.fc.length (ctE x.fc) a6) :
  Calls Tryz.prog 65 #[.agg #[.int .i64 x.fh,.int .i64 x.fN,.int .i64 x.fb,.int .i64 x.fk,.string x.fd,.string x.fa,.slice a6 x.fc.length c6],.int .i64 (n:Int)] w fun e w'=>e = .returned (.bool (zbr n x))∧Below w.heap.size w w':=by
 have B0:=yq ((Below.refl w.heap.size w).alloc (Nat.le_refl _) (.cells #[.int .i64 x.fh,.int .i64 x.fN,.int .i64 x.fb,.int .i64 x.fk,.string x.fd,.string x.fa,.slice a6 x.fc.length c6] 90))
 have S0:=yq (show (w.alloc (.cells #[.int .i64 x.fh,.int .i64 x.fN,.int .i64 x.fb,.int .i64 x.fk,.string x.fd,.string x.fa,.slice a6 x.fc.length c6] 90)).heap.size=w.heap.size+1 by simp)
 have X0:=yq (show (w.alloc (.cells #[.int .i64 x.fh,.int .i64 x.fN,.int .i64 x.fb,.int .i64 x.fk,.string x.fd,.string x.fa,.slice a6 x.fc.length c6] 90)).heap[w.heap.size]? = some (.cells #[.int .i64 x.fh,.int .i64 x.fN,.int .i64 x.fb,.int .i64 x.fk,.string x.fd,.string x.fa,.slice a6 x.fc.length c6] 90) from ze rfl)
 have HV:=yq (zjh (c0_0:=c6) x hok hsz (w.alloc (.cells #[.int .i64 x.fh,.int .i64 x.fN,.int .i64 x.fb,.int .i64 x.fk,.string x.fd,.string x.fa,.slice a6 x.fc.length c6] 90)) (Nat.le_trans hhi B0.out.size) (hs6.later B0.out hhi))
 have HP:=yq (fun (W:World) (hW:Below w.heap.size w W)=>zou n x (c6:=c6) hsz W (Nat.le_trans hhi hW.size) (hs6.later hW hhi))
 unfold zbr
 clear hs6 hok hsz;generalize posX n x=v1 at *;generalize za9 x=v0 at *
 go_enter Tryz.func65,Tryz.ntmps65
 (go_wp2_with fail);refine HV.out.mono ?_;rintro e w1 ⟨rfl,hb1⟩;have B1:=yq (B0.out.trans (hb1.mono B0.out.size))
 have X1:=yq ((hb1.block w.heap.size (by rw [S0.out];omega)).trans X0.out)
 clear hb1;have y0:=za (j:=0) (v:=.int .i64 x.fh) X1.out rfl;have y1:=za (j:=1) (v:=.int .i64 x.fN) X1.out rfl;have y2:=za (j:=2) (v:=.int .i64 x.fb) X1.out rfl;have y3:=za (j:=3) (v:=.int .i64 x.fk) X1.out rfl;have y4:=za (j:=4) (v:=.string x.fd) X1.out rfl;have y5:=za (j:=5) (v:=.string x.fa) X1.out rfl;have y6:=za (j:=6) (v:=.slice a6 x.fc.length c6) X1.out rfl
 cases v0
 ·go_wp2
  go_ret;exact ⟨rfl,B1.out⟩
 ·go_wp2_with fail
  refine (HP.out w1 B1.out).mono ?_;rintro e w2 ⟨rfl,hb2⟩;have B2:=yq (B1.out.trans (hb2.mono B1.out.size));clear hb2;go_wp2;go_ret;exact ⟨rfl,B2.out⟩
theorem zjo {lo hi:Nat} {a2 a4 a5:Option Addr} {c0_0 c0_1 c0_2:Nat} (r:DRule) (hok:r.ok) (hsz:r.sz≤1048576) (w:World) (hhi:hi≤w.heap.size) (hs2:Sl lo hi w 1 r.fj.length (fun k=>ictS (r.fj.getD k default)) a2) (hs4:Sl lo hi w 9 r.fg.length (fun k=>DEquation.ct (r.fg.getD k default)) a4) (hs5:Sl lo hi w 16 r.fo.length (fun k=>DContribution.ct (r.fo.getD k default)) a5) :
  Calls Tryz.prog 39 #[.agg #[.string r.fa,.string r.fp,.slice a2 r.fj.length c0_0,.bool r.fq,.slice a4 r.fg.length c0_1,.slice a5 r.fo.length c0_2]] w fun e w'=>e = .returned (.bool (zfx r))∧Below w.heap.size w w':=by
 have hz1:r.fa.size≤1048576:=by unfold DRule.sz at hsz;omega
 have hz2:r.fp.size≤1048576:=by unfold DRule.sz at hsz;omega
 have hzr:lsz ByteArray.size r.fj≤1048576:=by unfold DRule.sz at hsz;omega
 have hze:lsz DEquation.sz r.fg≤1048576:=by unfold DRule.sz at hsz;omega
 have hzc:lsz DContribution.sz r.fo≤1048576:=by unfold DRule.sz at hsz;omega
 have hn:r.fj.length≤1048576:=by unfold lsz at hzr;omega
 have hne:r.fg.length≤1048577:=by unfold lsz at hze;omega
 have hnc:r.fo.length≤1048577:=by unfold lsz at hzc;omega
 have H0:=yq (fun (W:World) (_:Below w.heap.size w W)=>zag r.fa hz1 W)
 have H1:=yq (fun (W:World) (_:Below w.heap.size w W)=>zag r.fp hz2 W)
 have HNS:=yq (fun k (hk:k < r.fj.length) (W:World)=>zag (r.fj.getD k default) (Nat.le_trans (zab (f:=ByteArray.size) r.fj k hk) hzr) W)
 have HZE:=yq (fun k (hk:k < r.fg.length)=>Nat.le_trans (zab (f:=DEquation.sz) r.fg k hk) hze)
 have HZC:=yq (fun k (hk:k < r.fo.length)=>Nat.le_trans (zab (f:=DContribution.sz) r.fo k hk) hzc)
 have HOE:=yq (fun k (hk:k < r.fg.length)=>hok.2.2.2.2.1.at hk)
 have HOC:=yq (fun k (hk:k < r.fo.length)=>hok.2.2.2.2.2.at hk)
 have HS2:=yq hs2;have HS4:=yq hs4;have HS5:=yq hs5
 have R:=yq (show zfx r=(zi r.fa && zi r.fp && decide (r.fj.length≤3) && decide (r.fo.length≤2) && r.fj.all zi && r.fg.all (eqOk r) && r.fo.all (coOk r)) from rfl)
 clear hs2 hs4 hs5 hz1 hz2 hzr hze hzc hok hsz;generalize zfx r=res at *;generalize hC:r.fo.all (coOk r)=C at *;generalize hQ:r.fg.all (eqOk r)=Q at *;generalize hA:r.fj.all zi=A at *;have HC_:=yq hC;have HQ_:=yq hQ;have HA_:=yq hA;clear hC hQ hA;generalize zi r.fp=v1 at *;generalize zi r.fa=v0 at *
 rcases (by omega:3 < r.fj.length∨(r.fj.length≤3∧2 < r.fo.length)∨(r.fj.length≤3∧r.fo.length≤2)) with h3|⟨h3,h2⟩|⟨h3,h2⟩
 ·rw [decide_eq_false (p:=r.fj.length≤3) (by omega),Bool.and_false,Bool.false_and,Bool.false_and,Bool.false_and,Bool.false_and] at R
  have q3:(3:Int) < (r.fj.length:Int):=by omega
  clear h3
  have B0:=yq (show Below w.heap.size w (World.alloc w (.cells #[.string r.fa,.string r.fp,.slice a2 r.fj.length c0_0,.bool r.fq,.slice a4 r.fg.length c0_1,.slice a5 r.fo.length c0_2] 50)) from ((Below.refl w.heap.size w).alloc (Nat.le_refl _) (.cells #[.string r.fa,.string r.fp,.slice a2 r.fj.length c0_0,.bool r.fq,.slice a4 r.fg.length c0_1,.slice a5 r.fo.length c0_2] 50)))
  have S0:=yq (show (World.alloc w (.cells #[.string r.fa,.string r.fp,.slice a2 r.fj.length c0_0,.bool r.fq,.slice a4 r.fg.length c0_1,.slice a5 r.fo.length c0_2] 50)).heap.size=w.heap.size+1 by simp)
  have X0_0:=yq (show (World.alloc w (.cells #[.string r.fa,.string r.fp,.slice a2 r.fj.length c0_0,.bool r.fq,.slice a4 r.fg.length c0_1,.slice a5 r.fo.length c0_2] 50)).heap[w.heap.size]? = some (.cells #[.string r.fa,.string r.fp,.slice a2 r.fj.length c0_0,.bool r.fq,.slice a4 r.fg.length c0_1,.slice a5 r.fo.length c0_2] 50) from (ze (by simp)))
  go_enter Tryz.func39,Tryz.ntmps39
  (go_wp2_with fail);refine (H0.out _ B0.out).mono ?_;rintro e w1 ⟨rfl,hb1⟩;have B1:=yq (B0.out.trans (hb1.mono B0.out.size))
  have S1:=yq (show w.heap.size+1≤w1.heap.size from Nat.le_trans (by rw [S0.out];exact Nat.le_refl _) hb1.size)
  have X1_0:=yq ((hb1.block (w.heap.size) (by have:=S0.out;omega)).trans X0_0.out)
  clear hb1
  cases v0
  ·go_wp2
   go_ret
   exact ⟨zh (show _=res by simp [R.out]),B1.out⟩
  ·skip
   have y1_0_0:=za (j:=0) (v:=.string r.fa) X1_0.out rfl;have y1_0_1:=za (j:=1) (v:=.string r.fp) X1_0.out rfl;have y1_0_2:=za (j:=2) (v:=.slice a2 r.fj.length c0_0) X1_0.out rfl;have y1_0_3:=za (j:=3) (v:=.bool r.fq) X1_0.out rfl;have y1_0_4:=za (j:=4) (v:=.slice a4 r.fg.length c0_1) X1_0.out rfl;have y1_0_5:=za (j:=5) (v:=.slice a5 r.fo.length c0_2) X1_0.out rfl;(go_wp2_with fail);refine (H1.out _ B1.out).mono ?_;rintro e w2 ⟨rfl,hb2⟩;clear y1_0_0 y1_0_1 y1_0_2 y1_0_3 y1_0_4 y1_0_5;have B2:=yq (B1.out.trans (hb2.mono B1.out.size))
   have S2:=yq (show w.heap.size+1≤w2.heap.size from Nat.le_trans S1.out hb2.size)
   have X2_0:=yq ((hb2.block (w.heap.size) (by have:=S1.out;omega)).trans X1_0.out)
   clear hb2;have y2_0_0:=za (j:=0) (v:=.string r.fa) X2_0.out rfl;have y2_0_1:=za (j:=1) (v:=.string r.fp) X2_0.out rfl;have y2_0_2:=za (j:=2) (v:=.slice a2 r.fj.length c0_0) X2_0.out rfl;have y2_0_3:=za (j:=3) (v:=.bool r.fq) X2_0.out rfl;have y2_0_4:=za (j:=4) (v:=.slice a4 r.fg.length c0_1) X2_0.out rfl;have y2_0_5:=za (j:=5) (v:=.slice a5 r.fo.length c0_2) X2_0.out rfl
   cases v1
   ·go_wp2
    go_ret
    exact ⟨zh (show _=res by simp [R.out]),B2.out⟩
   ·go_wp2
    go_ret
    exact ⟨zh (show _=res by simp [R.out]),B2.out⟩
 ·rw [decide_eq_false (p:=r.fo.length≤2) (by omega),Bool.and_false,Bool.false_and,Bool.false_and,Bool.false_and] at R
  have q3:(r.fj.length:Int)≤3:=by omega
  have q2:(2:Int) < (r.fo.length:Int):=by omega
  clear h3 h2
  have B0:=yq (show Below w.heap.size w (World.alloc w (.cells #[.string r.fa,.string r.fp,.slice a2 r.fj.length c0_0,.bool r.fq,.slice a4 r.fg.length c0_1,.slice a5 r.fo.length c0_2] 50)) from ((Below.refl w.heap.size w).alloc (Nat.le_refl _) (.cells #[.string r.fa,.string r.fp,.slice a2 r.fj.length c0_0,.bool r.fq,.slice a4 r.fg.length c0_1,.slice a5 r.fo.length c0_2] 50)))
  have S0:=yq (show (World.alloc w (.cells #[.string r.fa,.string r.fp,.slice a2 r.fj.length c0_0,.bool r.fq,.slice a4 r.fg.length c0_1,.slice a5 r.fo.length c0_2] 50)).heap.size=w.heap.size+1 by simp)
  have X0_0:=yq (show (World.alloc w (.cells #[.string r.fa,.string r.fp,.slice a2 r.fj.length c0_0,.bool r.fq,.slice a4 r.fg.length c0_1,.slice a5 r.fo.length c0_2] 50)).heap[w.heap.size]? = some (.cells #[.string r.fa,.string r.fp,.slice a2 r.fj.length c0_0,.bool r.fq,.slice a4 r.fg.length c0_1,.slice a5 r.fo.length c0_2] 50) from (ze (by simp)))
  go_enter Tryz.func39,Tryz.ntmps39
  (go_wp2_with fail);refine (H0.out _ B0.out).mono ?_;rintro e w1 ⟨rfl,hb1⟩;have B1:=yq (B0.out.trans (hb1.mono B0.out.size))
  have S1:=yq (show w.heap.size+1≤w1.heap.size from Nat.le_trans (by rw [S0.out];exact Nat.le_refl _) hb1.size)
  have X1_0:=yq ((hb1.block (w.heap.size) (by have:=S0.out;omega)).trans X0_0.out)
  clear hb1
  cases v0
  ·go_wp2
   go_ret
   exact ⟨zh (show _=res by simp [R.out]),B1.out⟩
  ·skip
   have y1_0_0:=za (j:=0) (v:=.string r.fa) X1_0.out rfl;have y1_0_1:=za (j:=1) (v:=.string r.fp) X1_0.out rfl;have y1_0_2:=za (j:=2) (v:=.slice a2 r.fj.length c0_0) X1_0.out rfl;have y1_0_3:=za (j:=3) (v:=.bool r.fq) X1_0.out rfl;have y1_0_4:=za (j:=4) (v:=.slice a4 r.fg.length c0_1) X1_0.out rfl;have y1_0_5:=za (j:=5) (v:=.slice a5 r.fo.length c0_2) X1_0.out rfl;(go_wp2_with fail);refine (H1.out _ B1.out).mono ?_;rintro e w2 ⟨rfl,hb2⟩;clear y1_0_0 y1_0_1 y1_0_2 y1_0_3 y1_0_4 y1_0_5;have B2:=yq (B1.out.trans (hb2.mono B1.out.size))
   have S2:=yq (show w.heap.size+1≤w2.heap.size from Nat.le_trans S1.out hb2.size)
   have X2_0:=yq ((hb2.block (w.heap.size) (by have:=S1.out;omega)).trans X1_0.out)
   clear hb2;have y2_0_0:=za (j:=0) (v:=.string r.fa) X2_0.out rfl;have y2_0_1:=za (j:=1) (v:=.string r.fp) X2_0.out rfl;have y2_0_2:=za (j:=2) (v:=.slice a2 r.fj.length c0_0) X2_0.out rfl;have y2_0_3:=za (j:=3) (v:=.bool r.fq) X2_0.out rfl;have y2_0_4:=za (j:=4) (v:=.slice a4 r.fg.length c0_1) X2_0.out rfl;have y2_0_5:=za (j:=5) (v:=.slice a5 r.fo.length c0_2) X2_0.out rfl
   cases v1
   ·go_wp2
    go_ret
    exact ⟨zh (show _=res by simp [R.out]),B2.out⟩
   ·go_wp2
    go_ret
    exact ⟨zh (show _=res by simp [R.out]),B2.out⟩
 ·rw [decide_eq_true h3,decide_eq_true h2] at R
  have q3:(r.fj.length:Int)≤3:=by omega
  have q2:(r.fo.length:Int)≤2:=by omega
  clear h3 h2
  have B0:=yq (show Below w.heap.size w (World.alloc w (.cells #[.string r.fa,.string r.fp,.slice a2 r.fj.length c0_0,.bool r.fq,.slice a4 r.fg.length c0_1,.slice a5 r.fo.length c0_2] 50)) from ((Below.refl w.heap.size w).alloc (Nat.le_refl _) (.cells #[.string r.fa,.string r.fp,.slice a2 r.fj.length c0_0,.bool r.fq,.slice a4 r.fg.length c0_1,.slice a5 r.fo.length c0_2] 50)))
  have S0:=yq (show (World.alloc w (.cells #[.string r.fa,.string r.fp,.slice a2 r.fj.length c0_0,.bool r.fq,.slice a4 r.fg.length c0_1,.slice a5 r.fo.length c0_2] 50)).heap.size=w.heap.size+1 by simp)
  have X0_0:=yq (show (World.alloc w (.cells #[.string r.fa,.string r.fp,.slice a2 r.fj.length c0_0,.bool r.fq,.slice a4 r.fg.length c0_1,.slice a5 r.fo.length c0_2] 50)).heap[w.heap.size]? = some (.cells #[.string r.fa,.string r.fp,.slice a2 r.fj.length c0_0,.bool r.fq,.slice a4 r.fg.length c0_1,.slice a5 r.fo.length c0_2] 50) from (ze (by simp)))
  go_enter Tryz.func39,Tryz.ntmps39
  (go_wp2_with fail);refine (H0.out _ B0.out).mono ?_;rintro e w1 ⟨rfl,hb1⟩;have B1:=yq (B0.out.trans (hb1.mono B0.out.size))
  have S1:=yq (show w.heap.size+1≤w1.heap.size from Nat.le_trans (by rw [S0.out];exact Nat.le_refl _) hb1.size)
  have X1_0:=yq ((hb1.block (w.heap.size) (by have:=S0.out;omega)).trans X0_0.out)
  clear hb1
  cases v0
  ·go_wp2
   go_ret
   exact ⟨zh (show _=res by simp [R.out]),B1.out⟩
  ·skip
   have y1_0_0:=za (j:=0) (v:=.string r.fa) X1_0.out rfl;have y1_0_1:=za (j:=1) (v:=.string r.fp) X1_0.out rfl;have y1_0_2:=za (j:=2) (v:=.slice a2 r.fj.length c0_0) X1_0.out rfl;have y1_0_3:=za (j:=3) (v:=.bool r.fq) X1_0.out rfl;have y1_0_4:=za (j:=4) (v:=.slice a4 r.fg.length c0_1) X1_0.out rfl;have y1_0_5:=za (j:=5) (v:=.slice a5 r.fo.length c0_2) X1_0.out rfl;(go_wp2_with fail);refine (H1.out _ B1.out).mono ?_;rintro e w2 ⟨rfl,hb2⟩;clear y1_0_0 y1_0_1 y1_0_2 y1_0_3 y1_0_4 y1_0_5;have B2:=yq (B1.out.trans (hb2.mono B1.out.size))
   have S2:=yq (show w.heap.size+1≤w2.heap.size from Nat.le_trans S1.out hb2.size)
   have X2_0:=yq ((hb2.block (w.heap.size) (by have:=S1.out;omega)).trans X1_0.out)
   clear hb2;have y2_0_0:=za (j:=0) (v:=.string r.fa) X2_0.out rfl;have y2_0_1:=za (j:=1) (v:=.string r.fp) X2_0.out rfl;have y2_0_2:=za (j:=2) (v:=.slice a2 r.fj.length c0_0) X2_0.out rfl;have y2_0_3:=za (j:=3) (v:=.bool r.fq) X2_0.out rfl;have y2_0_4:=za (j:=4) (v:=.slice a4 r.fg.length c0_1) X2_0.out rfl;have y2_0_5:=za (j:=5) (v:=.slice a5 r.fo.length c0_2) X2_0.out rfl
   cases v1
   ·go_wp2
    go_ret
    exact ⟨zh (show _=res by simp [R.out]),B2.out⟩
   ·skip
    have p2:=za (w:=w2) (j:=2) (v:=.slice a2 r.fj.length c0_0) X2_0.out rfl;have p4:=za (w:=w2) (j:=4) (v:=.slice a4 r.fg.length c0_1) X2_0.out rfl;have p5:=za (w:=w2) (j:=5) (v:=.slice a5 r.fo.length c0_2) X2_0.out rfl;go_wp2
    go_loopw [4] (fun i wr=>∃ k:Nat,k≤r.fj.length∧i = .int .i64 (k:Int)∧zah (fun x=>!zi x) r.fj k∧Below (w.heap.size+1) w2 wr) (fun i _=>r.fj.length - (intOf i).toNat)
    case atStart=>exact ⟨0,Nat.zero_le _,rfl,zx _ _,Below.refl _ _⟩
    case round =>
     clear p2 p4 p5;obtain ⟨k,hk,rfl,hno,hbl⟩:=hrel;have HB:=yq hbl;have hbw:Below w.heap.size w wr:=B2.out.trans (hbl.mono (Nat.le_succ _));have HBW:=yq hbw;have hsz1:w.heap.size+1≤wr.heap.size:=Nat.le_trans S2.out hbl.size;have HX:=yq ((hbl.block w.heap.size (Nat.lt_succ_self _)).trans X2_0.out);have HNO:=yq hno;have p2:=za (w:=wr) (j:=2) (v:=.slice a2 r.fj.length c0_0) HX.out rfl;have p4:=za (w:=wr) (j:=4) (v:=.slice a4 r.fg.length c0_1) HX.out rfl;clear hbl hno
     by_cases hlt:k < r.fj.length
     ·have HN:=yq (HNS.out k hlt wr)
      obtain ⟨rb,ro,rfl,_,_,hc⟩:=(HS2.out.later (hbw.mono hhi) (Nat.le_refl _)).at k hlt
      obtain ⟨u,hu,hl⟩:=hc 0 (by decide)
      obtain rfl:=zr hl;rw [Nat.mul_one,Nat.add_zero] at hu;clear hc hl hbw p4
      cases hr:zi (r.fj.getD k default)
      ·have FIN:=yq (show res=false by rw [R.out,← HA_.out,zq9 hlt hr];simp)
       rw [hr] at HN;clear hr;generalize r.fj.getD k default=s at *;(go_wp2_with fail);refine HN.out.mono ?_;rintro e w3 ⟨rfl,hb⟩;have B3:=yq (HBW.out.trans (hb.mono HBW.out.size));clear hb;go_wp2;go_ret;exact ⟨zh FIN.out.symm,B3.out⟩
      ·have HPS:=yq (zt (p:=fun x=>!zi x) HNO.out (by show (!zi _)=false;rw [hr];rfl))
       rw [hr] at HN;clear hr;generalize r.fj.getD k default=s at *;(go_wp2_with fail);refine HN.out.mono ?_;rintro e w3 ⟨rfl,hb⟩;have B3:=yq (HB.out.trans (hb.mono hsz1));clear hb;go_wp2;go_roundw
       case rel=>exact ⟨k+1,by omega,by go_num,HPS.out,B3.out⟩
       case measure=>simp [intOf];omega
     ·obtain rfl:k=r.fj.length:=by omega
      have hAt:A=true:=HA_.out.symm.trans (zlt HNO.out);subst hAt;have Bwa:=HBW;have Swa:=yq hsz1;have Xwa:=HX;clear hbw p2 HB HBW hsz1 HX HNO;generalize wr=wa at *;go_wp2
      go_loopw [5] (fun i wr=>∃ k:Nat,k≤r.fg.length∧i = .int .i64 (k:Int)∧zah (fun x=>!eqOk r x) r.fg k∧Below (w.heap.size+1) wa wr) (fun i _=>r.fg.length - (intOf i).toNat)
      case atStart=>exact ⟨0,Nat.zero_le _,rfl,zx _ _,Below.refl _ _⟩
      case round =>
       clear p4;obtain ⟨k,hk,rfl,hno,hbl⟩:=hrel;have HB:=yq hbl;have hbw:Below w.heap.size w wr:=Bwa.out.trans (hbl.mono (Nat.le_succ _));have HBW:=yq hbw;have hsz1:w.heap.size+1≤wr.heap.size:=Nat.le_trans Swa.out hbl.size;have HX:=yq ((hbl.block w.heap.size (Nat.lt_succ_self _)).trans Xwa.out);have HNO:=yq hno;have p4:=za (w:=wr) (j:=4) (v:=.slice a4 r.fg.length c0_1) HX.out rfl;have p5:=za (w:=wr) (j:=5) (v:=.slice a5 r.fo.length c0_2) HX.out rfl;clear hbl hno
       by_cases hlt:k < r.fg.length
       ·clear p5
        obtain ⟨rb,ro,rfl,_,_,hc⟩:=(HS4.out.later (hbw.mono hhi) (Nat.le_refl _)).at k hlt;obtain ⟨a8,c8,hc0,hc1,hc2,hc3,hc4,hc5,hc6,hc7,hc8,hs8⟩:=DEquation.open hc;have hzk:=HZE.out k hlt;have hokk:=HOE.out k hlt
        have HFAIL:=yq (fun h=>zq9 (p:=eqOk r) hlt h)
        have HGO:=yq (fun (h:eqOk r (r.fg.getD k default)=true)=>zt (p:=fun x=>!eqOk r x) HNO.out (by show (!eqOk r _)=false;rw [h];rfl))
        generalize r.fg.getD k default=y at *
        have hy1:y.fAt.fa.size≤1048576:=by unfold DEquation.sz DOccurrence.sz at hzk;omega
        have hy2:y.fi.sz≤1048576:=by unfold DEquation.sz at hzk;omega
        have G1:=yq (fun (W:World) (_:Below w.heap.size w W)=>zag y.fAt.fa hy1 W)
        have G0:=yq (fun (W:World) (_:Below w.heap.size w W)=>zaf y.fAt.fb 0 r.fj.length W)
        have hhr:hi≤wr.heap.size:=Nat.le_trans hhi hbw.size;have HS8:=yq hs8
        have G2:=yq (fun (W:World) (hW:Below w.heap.size w W) (hW2:Below wr.heap.size wr W)=>zf5 (c6:=c8) r.fj.length y.fi hokk.2 hy2 W (Nat.le_trans hhi hW.size) (HS8.out.later (hW2.mono hhr) (Nat.le_refl _)))
        have E:=yq (show eqOk r y=(inR y.fAt.fb 0 r.fj.length && zi y.fAt.fa && zbr r.fj.length y.fi) from rfl)
        clear hs8 hzk hokk hbw hc hy1 hy2;generalize zbr r.fj.length y.fi=e2 at *;generalize zi y.fAt.fa=e1 at *;generalize inR y.fAt.fb 0 r.fj.length=e0 at *
        have BR0:=yq (show Below wr.heap.size wr (wr.alloc (.cells #[.int .i64 y.fAt.fb,.string y.fAt.fa,.int .i64 y.fi.fh,.int .i64 y.fi.fN,.int .i64 y.fi.fb,.int .i64 y.fi.fk,.string y.fi.fd,.string y.fi.fa,.slice a8 y.fi.fc.length c8] 95)) from (Below.refl wr.heap.size wr).alloc (Nat.le_refl _) _)
        have BE0:=yq (show Below w.heap.size w (wr.alloc (.cells #[.int .i64 y.fAt.fb,.string y.fAt.fa,.int .i64 y.fi.fh,.int .i64 y.fi.fN,.int .i64 y.fi.fb,.int .i64 y.fi.fk,.string y.fi.fd,.string y.fi.fa,.slice a8 y.fi.fc.length c8] 95)) from HBW.out.alloc HBW.out.size _)
        have BL0:=yq (show Below (w.heap.size+1) wa (wr.alloc (.cells #[.int .i64 y.fAt.fb,.string y.fAt.fa,.int .i64 y.fi.fh,.int .i64 y.fi.fN,.int .i64 y.fi.fb,.int .i64 y.fi.fk,.string y.fi.fd,.string y.fi.fa,.slice a8 y.fi.fc.length c8] 95)) from HB.out.alloc hsz1 _)
        have SE0:=yq (show wr.heap.size+1≤(wr.alloc (.cells #[.int .i64 y.fAt.fb,.string y.fAt.fa,.int .i64 y.fi.fh,.int .i64 y.fi.fN,.int .i64 y.fi.fb,.int .i64 y.fi.fk,.string y.fi.fd,.string y.fi.fa,.slice a8 y.fi.fc.length c8] 95)).heap.size by simp)
        have XE0:=yq (show (wr.alloc (.cells #[.int .i64 y.fAt.fb,.string y.fAt.fa,.int .i64 y.fi.fh,.int .i64 y.fi.fN,.int .i64 y.fi.fb,.int .i64 y.fi.fk,.string y.fi.fd,.string y.fi.fa,.slice a8 y.fi.fc.length c8] 95)).heap[wr.heap.size]? = some (.cells #[.int .i64 y.fAt.fb,.string y.fAt.fa,.int .i64 y.fi.fh,.int .i64 y.fi.fN,.int .i64 y.fi.fb,.int .i64 y.fi.fk,.string y.fi.fd,.string y.fi.fa,.slice a8 y.fi.fc.length c8] 95) from ze rfl)
        (go_wp2_with fail);refine (G1.out _ BE0.out).mono ?_;rintro e w3_1 ⟨rfl,hb⟩
        have BR1:=yq (BR0.out.trans (hb.mono (by have:=SE0.out;omega)))
        have BE1:=yq (BE0.out.trans (hb.mono BE0.out.size))
        have BL1:=yq (BL0.out.trans (hb.mono (by have:=SE0.out;omega)))
        have SE1:=yq (Nat.le_trans SE0.out hb.size)
        have XE1:=yq ((hb.block wr.heap.size (by have:=SE0.out;omega)).trans XE0.out)
        clear hb
        cases e1
        ·go_wp2
         go_ret
         exact ⟨zh (show _=res by rw [R.out,← HQ_.out,HFAIL.out (by rw [E.out];simp)];simp),BE1.out⟩
        ·skip
         have e0:=za (w:=w3_1) (j:=0) (v:=.int .i64 y.fAt.fb) XE1.out rfl;have e1:=za (w:=w3_1) (j:=1) (v:=.string y.fAt.fa) XE1.out rfl;have e2:=za (w:=w3_1) (j:=2) (v:=.int .i64 y.fi.fh) XE1.out rfl;have e3:=za (w:=w3_1) (j:=3) (v:=.int .i64 y.fi.fN) XE1.out rfl;have e4:=za (w:=w3_1) (j:=4) (v:=.int .i64 y.fi.fb) XE1.out rfl;have e5:=za (w:=w3_1) (j:=5) (v:=.int .i64 y.fi.fk) XE1.out rfl;have e6:=za (w:=w3_1) (j:=6) (v:=.string y.fi.fd) XE1.out rfl;have e7:=za (w:=w3_1) (j:=7) (v:=.string y.fi.fa) XE1.out rfl;have e8:=za (w:=w3_1) (j:=8) (v:=.slice a8 y.fi.fc.length c8) XE1.out rfl;(go_wp2_with fail);refine (G0.out _ BE1.out).mono ?_;rintro e w3_2 ⟨rfl,hsame⟩;subst hsame;clear e0 e1 e2 e3 e4 e5 e6 e7 e8;have BR2:=BR1;have BE2:=BE1;have BL2:=BL1;have SE2:=SE1;have XE2:=XE1
         cases e0
         ·go_wp2
          go_ret
          exact ⟨zh (show _=res by rw [R.out,← HQ_.out,HFAIL.out (by rw [E.out];simp)];simp),BE2.out⟩
         ·skip
          have e0:=za (w:=w3_1) (j:=0) (v:=.int .i64 y.fAt.fb) XE2.out rfl;have e1:=za (w:=w3_1) (j:=1) (v:=.string y.fAt.fa) XE2.out rfl;have e2:=za (w:=w3_1) (j:=2) (v:=.int .i64 y.fi.fh) XE2.out rfl;have e3:=za (w:=w3_1) (j:=3) (v:=.int .i64 y.fi.fN) XE2.out rfl;have e4:=za (w:=w3_1) (j:=4) (v:=.int .i64 y.fi.fb) XE2.out rfl;have e5:=za (w:=w3_1) (j:=5) (v:=.int .i64 y.fi.fk) XE2.out rfl;have e6:=za (w:=w3_1) (j:=6) (v:=.string y.fi.fd) XE2.out rfl;have e7:=za (w:=w3_1) (j:=7) (v:=.string y.fi.fa) XE2.out rfl;have e8:=za (w:=w3_1) (j:=8) (v:=.slice a8 y.fi.fc.length c8) XE2.out rfl;(go_wp2_with fail);refine (G2.out _ BE2.out BR2.out).mono ?_;rintro e w3_3 ⟨rfl,hb⟩;clear e0 e1 e2 e3 e4 e5 e6 e7 e8
          have BR3:=yq (BR2.out.trans (hb.mono (by have:=SE2.out;omega)))
          have BE3:=yq (BE2.out.trans (hb.mono BE2.out.size))
          have BL3:=yq (BL2.out.trans (hb.mono (by have:=SE2.out;omega)))
          have SE3:=yq (Nat.le_trans SE2.out hb.size)
          have XE3:=yq ((hb.block wr.heap.size (by have:=SE2.out;omega)).trans XE2.out)
          clear hb
          cases e2
          ·go_wp2
           go_ret
           exact ⟨zh (show _=res by rw [R.out,← HQ_.out,HFAIL.out (by rw [E.out];simp)];simp),BE3.out⟩
          ·skip
           go_wp2;go_roundw
           case rel=>exact ⟨k+1,by omega,by go_num,HGO.out (by rw [E.out];simp),BL3.out⟩
           case measure=>simp [intOf];omega
       ·obtain rfl:k=r.fg.length:=by omega
        have hQt:Q=true:=HQ_.out.symm.trans (zlt HNO.out);subst hQt;have Bwb:=HBW;have Swb:=yq hsz1;have Xwb:=HX;clear hbw HB HBW hsz1 HX HNO;generalize wr=wb at *;go_wp2
        go_loopw [7] (fun i wr=>∃ k:Nat,k≤r.fo.length∧i = .int .i64 (k:Int)∧zah (fun x=>!coOk r x) r.fo k∧Below (w.heap.size+1) wb wr) (fun i _=>r.fo.length - (intOf i).toNat)
        case atStart=>exact ⟨0,Nat.zero_le _,rfl,zx _ _,Below.refl _ _⟩
        case round =>
         clear p5;obtain ⟨k,hk,rfl,hno,hbl⟩:=hrel;have HB:=yq hbl;have hbw:Below w.heap.size w wr:=Bwb.out.trans (hbl.mono (Nat.le_succ _));have HBW:=yq hbw;have hsz1:w.heap.size+1≤wr.heap.size:=Nat.le_trans Swb.out hbl.size;have HX:=yq ((hbl.block w.heap.size (Nat.lt_succ_self _)).trans Xwb.out);have HNO:=yq hno;have p5:=za (w:=wr) (j:=5) (v:=.slice a5 r.fo.length c0_2) HX.out rfl;clear hbl hno
         by_cases hlt:k < r.fo.length
         ·skip
          obtain ⟨rb,ro,rfl,_,_,hc⟩:=(HS5.out.later (hbw.mono hhi) (Nat.le_refl _)).at k hlt;obtain ⟨a8,c8,a15,c15,hc0,hc1,hc2,hc3,hc4,hc5,hc6,hc7,hc8,hc9,hc10,hc11,hc12,hc13,hc14,hc15,hs8,hs15⟩:=DContribution.open hc;have hzk:=HZC.out k hlt;have hokk:=HOC.out k hlt
          have HFAIL:=yq (fun h=>zq9 (p:=coOk r) hlt h)
          have HGO:=yq (fun (h:coOk r (r.fo.getD k default)=true)=>zt (p:=fun x=>!coOk r x) HNO.out (by show (!coOk r _)=false;rw [h];rfl))
          generalize r.fo.getD k default=y at *
          have hy1:y.fd.size≤1048576:=by unfold DContribution.sz at hzk;omega
          have hy2:y.fa.size≤1048576:=by unfold DContribution.sz at hzk;omega
          have hy3:y.fe.sz≤1048576:=by unfold DContribution.sz at hzk;omega
          have hy4:y.ff.sz≤1048576:=by unfold DContribution.sz at hzk;omega
          have G0:=yq (fun (W:World) (_:Below w.heap.size w W)=>zag y.fd hy1 W)
          have G1:=yq (fun (W:World) (_:Below w.heap.size w W)=>zag y.fa hy2 W)
          have hhr:hi≤wr.heap.size:=Nat.le_trans hhi hbw.size;have HS8:=yq hs8;have HS15:=yq hs15
          have G2:=yq (fun (W:World) (hW:Below w.heap.size w W) (hW2:Below wr.heap.size wr W)=>zf5 (c6:=c8) r.fj.length y.fe hokk.2.2.1 hy3 W (Nat.le_trans hhi hW.size) (HS8.out.later (hW2.mono hhr) (Nat.le_refl _)))
          have G3:=yq (fun (W:World) (hW:Below w.heap.size w W) (hW2:Below wr.heap.size wr W)=>zf5 (c6:=c15) r.fj.length y.ff hokk.2.2.2 hy4 W (Nat.le_trans hhi hW.size) (HS15.out.later (hW2.mono hhr) (Nat.le_refl _)))
          have E:=yq (show coOk r y=(zi y.fd && zi y.fa && zbr r.fj.length y.fe && zbr r.fj.length y.ff) from rfl)
          clear hs8 hs15 hzk hokk hbw hc hy1 hy2 hy3 hy4;generalize zbr r.fj.length y.ff=e3 at *;generalize zbr r.fj.length y.fe=e2 at *;generalize zi y.fa=e1 at *;generalize zi y.fd=e0 at *
          have BR0:=yq (show Below wr.heap.size wr (wr.alloc (.cells #[.string y.fd,.string y.fa,.int .i64 y.fe.fh,.int .i64 y.fe.fN,.int .i64 y.fe.fb,.int .i64 y.fe.fk,.string y.fe.fd,.string y.fe.fa,.slice a8 y.fe.fc.length c8,.int .i64 y.ff.fh,.int .i64 y.ff.fN,.int .i64 y.ff.fb,.int .i64 y.ff.fk,.string y.ff.fd,.string y.ff.fa,.slice a15 y.ff.fc.length c15] 110)) from (Below.refl wr.heap.size wr).alloc (Nat.le_refl _) _)
          have BE0:=yq (show Below w.heap.size w (wr.alloc (.cells #[.string y.fd,.string y.fa,.int .i64 y.fe.fh,.int .i64 y.fe.fN,.int .i64 y.fe.fb,.int .i64 y.fe.fk,.string y.fe.fd,.string y.fe.fa,.slice a8 y.fe.fc.length c8,.int .i64 y.ff.fh,.int .i64 y.ff.fN,.int .i64 y.ff.fb,.int .i64 y.ff.fk,.string y.ff.fd,.string y.ff.fa,.slice a15 y.ff.fc.length c15] 110)) from HBW.out.alloc HBW.out.size _)
          have BL0:=yq (show Below (w.heap.size+1) wb (wr.alloc (.cells #[.string y.fd,.string y.fa,.int .i64 y.fe.fh,.int .i64 y.fe.fN,.int .i64 y.fe.fb,.int .i64 y.fe.fk,.string y.fe.fd,.string y.fe.fa,.slice a8 y.fe.fc.length c8,.int .i64 y.ff.fh,.int .i64 y.ff.fN,.int .i64 y.ff.fb,.int .i64 y.ff.fk,.string y.ff.fd,.string y.ff.fa,.slice a15 y.ff.fc.length c15] 110)) from HB.out.alloc hsz1 _)
          have SE0:=yq (show wr.heap.size+1≤(wr.alloc (.cells #[.string y.fd,.string y.fa,.int .i64 y.fe.fh,.int .i64 y.fe.fN,.int .i64 y.fe.fb,.int .i64 y.fe.fk,.string y.fe.fd,.string y.fe.fa,.slice a8 y.fe.fc.length c8,.int .i64 y.ff.fh,.int .i64 y.ff.fN,.int .i64 y.ff.fb,.int .i64 y.ff.fk,.string y.ff.fd,.string y.ff.fa,.slice a15 y.ff.fc.length c15] 110)).heap.size by simp)
          have XE0:=yq (show (wr.alloc (.cells #[.string y.fd,.string y.fa,.int .i64 y.fe.fh,.int .i64 y.fe.fN,.int .i64 y.fe.fb,.int .i64 y.fe.fk,.string y.fe.fd,.string y.fe.fa,.slice a8 y.fe.fc.length c8,.int .i64 y.ff.fh,.int .i64 y.ff.fN,.int .i64 y.ff.fb,.int .i64 y.ff.fk,.string y.ff.fd,.string y.ff.fa,.slice a15 y.ff.fc.length c15] 110)).heap[wr.heap.size]? = some (.cells #[.string y.fd,.string y.fa,.int .i64 y.fe.fh,.int .i64 y.fe.fN,.int .i64 y.fe.fb,.int .i64 y.fe.fk,.string y.fe.fd,.string y.fe.fa,.slice a8 y.fe.fc.length c8,.int .i64 y.ff.fh,.int .i64 y.ff.fN,.int .i64 y.ff.fb,.int .i64 y.ff.fk,.string y.ff.fd,.string y.ff.fa,.slice a15 y.ff.fc.length c15] 110) from ze rfl)
          (go_wp2_with fail);refine (G0.out _ BE0.out).mono ?_;rintro e w3_1 ⟨rfl,hb⟩
          have BR1:=yq (BR0.out.trans (hb.mono (by have:=SE0.out;omega)))
          have BE1:=yq (BE0.out.trans (hb.mono BE0.out.size))
          have BL1:=yq (BL0.out.trans (hb.mono (by have:=SE0.out;omega)))
          have SE1:=yq (Nat.le_trans SE0.out hb.size)
          have XE1:=yq ((hb.block wr.heap.size (by have:=SE0.out;omega)).trans XE0.out)
          clear hb
          cases e0
          ·go_wp2
           go_ret
           exact ⟨zh (show _=res by rw [R.out,← HC_.out,HFAIL.out (by rw [E.out];simp)];simp),BE1.out⟩
          ·skip
           have e0:=za (w:=w3_1) (j:=0) (v:=.string y.fd) XE1.out rfl;have e1:=za (w:=w3_1) (j:=1) (v:=.string y.fa) XE1.out rfl;have e2:=za (w:=w3_1) (j:=2) (v:=.int .i64 y.fe.fh) XE1.out rfl;have e3:=za (w:=w3_1) (j:=3) (v:=.int .i64 y.fe.fN) XE1.out rfl;have e4:=za (w:=w3_1) (j:=4) (v:=.int .i64 y.fe.fb) XE1.out rfl;have e5:=za (w:=w3_1) (j:=5) (v:=.int .i64 y.fe.fk) XE1.out rfl;have e6:=za (w:=w3_1) (j:=6) (v:=.string y.fe.fd) XE1.out rfl;have e7:=za (w:=w3_1) (j:=7) (v:=.string y.fe.fa) XE1.out rfl;have e8:=za (w:=w3_1) (j:=8) (v:=.slice a8 y.fe.fc.length c8) XE1.out rfl;have e9:=za (w:=w3_1) (j:=9) (v:=.int .i64 y.ff.fh) XE1.out rfl;have e10:=za (w:=w3_1) (j:=10) (v:=.int .i64 y.ff.fN) XE1.out rfl;have e11:=za (w:=w3_1) (j:=11) (v:=.int .i64 y.ff.fb) XE1.out rfl;have e12:=za (w:=w3_1) (j:=12) (v:=.int .i64 y.ff.fk) XE1.out rfl;have e13:=za (w:=w3_1) (j:=13) (v:=.string y.ff.fd) XE1.out rfl;have e14:=za (w:=w3_1) (j:=14) (v:=.string y.ff.fa) XE1.out rfl;have e15:=za (w:=w3_1) (j:=15) (v:=.slice a15 y.ff.fc.length c15) XE1.out rfl;(go_wp2_with fail);refine (G1.out _ BE1.out).mono ?_;rintro e w3_2 ⟨rfl,hb⟩;clear e0 e1 e2 e3 e4 e5 e6 e7 e8 e9 e10 e11 e12 e13 e14 e15
           have BR2:=yq (BR1.out.trans (hb.mono (by have:=SE1.out;omega)))
           have BE2:=yq (BE1.out.trans (hb.mono BE1.out.size))
           have BL2:=yq (BL1.out.trans (hb.mono (by have:=SE1.out;omega)))
           have SE2:=yq (Nat.le_trans SE1.out hb.size)
           have XE2:=yq ((hb.block wr.heap.size (by have:=SE1.out;omega)).trans XE1.out)
           clear hb
           cases e1
           ·go_wp2
            go_ret
            exact ⟨zh (show _=res by rw [R.out,← HC_.out,HFAIL.out (by rw [E.out];simp)];simp),BE2.out⟩
           ·skip
            have e0:=za (w:=w3_2) (j:=0) (v:=.string y.fd) XE2.out rfl;have e1:=za (w:=w3_2) (j:=1) (v:=.string y.fa) XE2.out rfl;have e2:=za (w:=w3_2) (j:=2) (v:=.int .i64 y.fe.fh) XE2.out rfl;have e3:=za (w:=w3_2) (j:=3) (v:=.int .i64 y.fe.fN) XE2.out rfl;have e4:=za (w:=w3_2) (j:=4) (v:=.int .i64 y.fe.fb) XE2.out rfl;have e5:=za (w:=w3_2) (j:=5) (v:=.int .i64 y.fe.fk) XE2.out rfl;have e6:=za (w:=w3_2) (j:=6) (v:=.string y.fe.fd) XE2.out rfl;have e7:=za (w:=w3_2) (j:=7) (v:=.string y.fe.fa) XE2.out rfl;have e8:=za (w:=w3_2) (j:=8) (v:=.slice a8 y.fe.fc.length c8) XE2.out rfl;have e9:=za (w:=w3_2) (j:=9) (v:=.int .i64 y.ff.fh) XE2.out rfl;have e10:=za (w:=w3_2) (j:=10) (v:=.int .i64 y.ff.fN) XE2.out rfl;have e11:=za (w:=w3_2) (j:=11) (v:=.int .i64 y.ff.fb) XE2.out rfl;have e12:=za (w:=w3_2) (j:=12) (v:=.int .i64 y.ff.fk) XE2.out rfl;have e13:=za (w:=w3_2) (j:=13) (v:=.string y.ff.fd) XE2.out rfl;have e14:=za (w:=w3_2) (j:=14) (v:=.string y.ff.fa) XE2.out rfl;have e15:=za (w:=w3_2) (j:=15) (v:=.slice a15 y.ff.fc.length c15) XE2.out rfl;(go_wp2_with fail);refine (G2.out _ BE2.out BR2.out).mono ?_;rintro e w3_3 ⟨rfl,hb⟩;clear e0 e1 e2 e3 e4 e5 e6 e7 e8 e9 e10 e11 e12 e13 e14 e15
            have BR3:=yq (BR2.out.trans (hb.mono (by have:=SE2.out;omega)))
            have BE3:=yq (BE2.out.trans (hb.mono BE2.out.size))
            have BL3:=yq (BL2.out.trans (hb.mono (by have:=SE2.out;omega)))
            have SE3:=yq (Nat.le_trans SE2.out hb.size)
            have XE3:=yq ((hb.block wr.heap.size (by have:=SE2.out;omega)).trans XE2.out)
            clear hb
            cases e2
            ·go_wp2
             go_ret
             exact ⟨zh (show _=res by rw [R.out,← HC_.out,HFAIL.out (by rw [E.out];simp)];simp),BE3.out⟩
            ·skip
             have e0:=za (w:=w3_3) (j:=0) (v:=.string y.fd) XE3.out rfl;have e1:=za (w:=w3_3) (j:=1) (v:=.string y.fa) XE3.out rfl;have e2:=za (w:=w3_3) (j:=2) (v:=.int .i64 y.fe.fh) XE3.out rfl;have e3:=za (w:=w3_3) (j:=3) (v:=.int .i64 y.fe.fN) XE3.out rfl;have e4:=za (w:=w3_3) (j:=4) (v:=.int .i64 y.fe.fb) XE3.out rfl;have e5:=za (w:=w3_3) (j:=5) (v:=.int .i64 y.fe.fk) XE3.out rfl;have e6:=za (w:=w3_3) (j:=6) (v:=.string y.fe.fd) XE3.out rfl;have e7:=za (w:=w3_3) (j:=7) (v:=.string y.fe.fa) XE3.out rfl;have e8:=za (w:=w3_3) (j:=8) (v:=.slice a8 y.fe.fc.length c8) XE3.out rfl;have e9:=za (w:=w3_3) (j:=9) (v:=.int .i64 y.ff.fh) XE3.out rfl;have e10:=za (w:=w3_3) (j:=10) (v:=.int .i64 y.ff.fN) XE3.out rfl;have e11:=za (w:=w3_3) (j:=11) (v:=.int .i64 y.ff.fb) XE3.out rfl;have e12:=za (w:=w3_3) (j:=12) (v:=.int .i64 y.ff.fk) XE3.out rfl;have e13:=za (w:=w3_3) (j:=13) (v:=.string y.ff.fd) XE3.out rfl;have e14:=za (w:=w3_3) (j:=14) (v:=.string y.ff.fa) XE3.out rfl;have e15:=za (w:=w3_3) (j:=15) (v:=.slice a15 y.ff.fc.length c15) XE3.out rfl;(go_wp2_with fail);refine (G3.out _ BE3.out BR3.out).mono ?_;rintro e w3_4 ⟨rfl,hb⟩;clear e0 e1 e2 e3 e4 e5 e6 e7 e8 e9 e10 e11 e12 e13 e14 e15
             have BR4:=yq (BR3.out.trans (hb.mono (by have:=SE3.out;omega)))
             have BE4:=yq (BE3.out.trans (hb.mono BE3.out.size))
             have BL4:=yq (BL3.out.trans (hb.mono (by have:=SE3.out;omega)))
             have SE4:=yq (Nat.le_trans SE3.out hb.size)
             have XE4:=yq ((hb.block wr.heap.size (by have:=SE3.out;omega)).trans XE3.out)
             clear hb
             cases e3
             ·go_wp2
              go_ret
              exact ⟨zh (show _=res by rw [R.out,← HC_.out,HFAIL.out (by rw [E.out];simp)];simp),BE4.out⟩
             ·skip
              go_wp2;go_roundw
              case rel=>exact ⟨k+1,by omega,by go_num,HGO.out (by rw [E.out];simp),BL4.out⟩
              case measure=>simp [intOf];omega
         ·obtain rfl:k=r.fo.length:=by omega
          have hCt:C=true:=HC_.out.symm.trans (zlt HNO.out);subst hCt;go_wp2;go_ret
          exact ⟨zh (show _=res by rw [R.out];rfl),HBW.out⟩
end Go.Proofs.YtmbaajangkmjdaaGreat
