/-
  The checks of CheckShape in the program: a symbol that is valid and has a name of its own.
-/
import Derived.Test.YtmbaajangkmjdaaGreatZz11
import Derived.Test.YtmbaajangkmjdaaGreatZz9
import Derived.Test.YtmbaajangkmjdaaGreatZShapeP
import Derived.Test.YtmbaajangkmjdaaGreatZz10
import Derived.Great.BuildSlice
import Derived.Deep.WholeRow
set_option maxHeartbeats 12800000
set_option maxRecDepth 100000
namespace Go.Proofs.YtmbaajangkmjdaaGreat
open Go.ChangeShapes Go.WideShapes Go.ChangeAt Go.RowKit Go.Deep
theorem zuz {lo hi n m len : Nat} {w : World} {f : Nat → Nat → Ct} {a : Option Addr} (h : Sl lo hi w n len f a) (hm : m ≤ len) : Sl lo hi w n m f a := fun cap => by
  have h' := h cap
  cases h' with
  | nil n f a cap => obtain rfl : m = 0 := by omega
                     exact .nil n f a cap
  | row n len f b off cap u hlo hhi hc hl => exact .row n m f b off cap u hlo hhi (fun k hk j hj => hc k (by omega) j hj) fun k hk j hj => hl k (by omega) j hj
theorem zm3 {α : Type} [Inhabited α] (l:List α) {i k:Nat} (h:k < i):(l.take i).getD k default=l.getD k default:=by
 rw [List.getD_eq_getElem?_getD,List.getD_eq_getElem?_getD,List.getElem?_take_of_lt h]
theorem zt6 {α : Type} (f : α → Nat) (l:List α) (i:Nat):lsz f (l.take i)≤lsz f l:=by
 induction l generalizing i with
 | nil=>rw [List.take_nil];exact Nat.le_refl _
 | cons a l ih =>
  cases i with
  | zero=>show lsz f []≤_;unfold lsz;simp
  | succ i =>
   have:=ih i
   unfold lsz at *
   rw [List.take_succ_cons,List.map_cons,List.map_cons,List.sum_cons,List.sum_cons,List.length_cons,List.length_cons]
   omega
theorem zbc {w:World} {c c':Array Value} {t:TypeId} {g:Nat} (h:g=w.heap.size):(w.alloc (.cells c t)).setRow g c'=w.alloc (.cells c' t):=by subst h;exact World.setRow_alloc_new _ _ _ _
def zkl (s:DSymbol) (l:List DSymbol):Bool:=symV s.fa s.fu && !symB l s.fa
theorem zi9 {lo hi c1 c9:Nat} {b1 a9:Option Addr} (s:DSymbol) (oks:s.ok) (hszs:s.sz≤1048576) (l:List DSymbol) (hz:lsz DSymbol.sz l≤1048576) (n:Nat) (hn:n=l.length) (w:World) (hhi:hi≤w.heap.size) (hs1:Sl lo hi w 4 s.fu.length (fun k=>DAttribute.ct (s.fu.getD k default)) b1) (hs9:Sl lo hi w 2 n (fun k=>DSymbol.ct (l.getD k default)) a9) :
  Calls Tryz.prog 20 #[.agg #[.string s.fa,.slice b1 s.fu.length c1],.slice a9 n c9] w fun e w'=>e = .returned (.bool (zkl s l))∧Below w.heap.size w w':=by
 subst hn
 have HB:=yq (show Below w.heap.size w (w.alloc (.cells #[.string s.fa,.slice b1 s.fu.length c1] 42)) from (Below.refl _ _).alloc (Nat.le_refl _) _)
 have HBS:=yq (show (w.alloc (.cells #[.string s.fa,.slice b1 s.fu.length c1] 42)).heap[w.heap.size]? = some (.cells #[.string s.fa,.slice b1 s.fu.length c1] 42) from ze rfl)
 have HZ:=yq (show (w.alloc (.cells #[.string s.fa,.slice b1 s.fu.length c1] 42)).heap.size=w.heap.size+1 by simp)
 have HHI:=yq hhi
 have HSN:=yq (fun (W:World) (hW:Below w.heap.size w W)=>zbw (c0:=c9) (c1:=0) (n1:=0) (a1:=none) l hz s.fa W (Nat.le_trans HHI.out hW.size) (hs9.later hW hhi))
 have HVS:=yq (fun (W:World) (hW:Below w.heap.size w W)=>zgt (c0_0:=c1) s oks hszs W (Nat.le_trans HHI.out hW.size) (hs1.later hW hhi))
 have HR:=yq (show zkl s l=(symV s.fa s.fu && !symB l s.fa) from rfl)
 clear hs1 hs9 hz oks hszs hhi;generalize zkl s l=res at *;generalize symV s.fa s.fu=bv at *;generalize symB l s.fa=bf at *;generalize symS l s.fa=ss at *
 go_enter Tryz.func20,Tryz.ntmps20
 (go_wp2_with fail);refine (HSN.out _ HB.out).mono ?_;rintro e w1 ⟨⟨ra,rc,rfl,-⟩,hb1⟩;have HB1:=yq (HB.out.trans (hb1.mono HB.out.size))
 have hz1:w.heap.size < w1.heap.size:=Nat.lt_of_lt_of_le (by rw [HZ.out];omega) hb1.size
 have HBS1:=yq ((hb1.block w.heap.size (by rw [HZ.out];omega)).trans HBS.out)
 have HB2:=yq (HB1.out.trans (((Below.refl w1.heap.size w1).alloc (Nat.le_refl _) (.cells #[.string ss.fa,.slice ra ss.fu.length rc] 42)).mono HB1.out.size));have s0:(w1.alloc (.cells #[.string ss.fa,.slice ra ss.fu.length rc] 42)).cell? ⟨w.heap.size,0,none⟩=some (.string s.fa):=(((Below.refl w1.heap.size w1).alloc (Nat.le_refl _) (.cells #[.string ss.fa,.slice ra ss.fu.length rc] 42)).cell (p:=⟨w.heap.size,0,none⟩) hz1).trans (za HBS1.out rfl);have s1:(w1.alloc (.cells #[.string ss.fa,.slice ra ss.fu.length rc] 42)).cell? ⟨w.heap.size,1,none⟩=some (.slice b1 s.fu.length c1):=(((Below.refl w1.heap.size w1).alloc (Nat.le_refl _) (.cells #[.string ss.fa,.slice ra ss.fu.length rc] 42)).cell (p:=⟨w.heap.size,1,none⟩) hz1).trans (za HBS1.out rfl);have s9:w1.cell? ⟨w.heap.size,0,none⟩=some (.string s.fa):=za HBS1.out rfl;clear hb1
 go_wp2_with (refine wpList_store_rowTo rfl 42 (.tmp 5) (.tmp 13) rfl rfl w1.heap.size _ rfl rfl 42 _ (ze rfl) (by kernel_rfl) rfl (by simp [Value.oneCell']) ?_;rw [zbc rfl])
 refine (HVS.out _ HB2.out).mono ?_;rintro e w2 ⟨rfl,hb2⟩;have HB3:=yq (HB2.out.trans (hb2.mono HB2.out.size));clear hb2
 cases bv<;>cases bf
 all_goals
  go_wp2;go_ret;exact ⟨zh HR.out.symm,HB3.out⟩
theorem zq2 {lo hi bg c0_0 c0_1:Nat} {a0 a1:Option Addr} (g:DGrammar) (okg:g.ok) (hszg:g.sz≤1048576) (i:Nat) (hi':i < g.fl.length) (hcap:g.fl.length≤c0_0) (w:World) (hhi:hi≤w.heap.size) (hs0:Sl lo hi w 2 g.fl.length (fun k=>DSymbol.ct (g.fl.getD k default)) a0) (hg:w.heap[bg]? = some (.cells #[.slice a0 g.fl.length c0_0,.slice a1 g.fm.length c0_1] 32)) :
  Calls Tryz.prog 19 #[.int .i64 (i:Int),.pointer (some ⟨bg,0,none⟩)] w fun e w'=>e = .returned (.bool (!zkl (g.fl.getD i default) (g.fl.take i)))∧Below w.heap.size w w':=by
 have hbg:bg < w.heap.size:=(Array.getElem?_eq_some_iff.1 hg).1;have HBGL:=yq hbg
 have HCAP:=yq (show i≤c0_0 by omega)
 have hiI:(0:Int)≤(i:Int)∧(i:Int) < (g.fl.length:Int):=by omega
 have hti:i=(g.fl.take i).length:=by rw [List.length_take];omega
 have HT:=yq ((zuz (m:=i) hs0 (Nat.le_of_lt hi')).congr (g:=fun k=>DSymbol.ct ((g.fl.take i).getD k default)) fun k hk j _=>by rw [zm3 _ hk])
 obtain ⟨rb,ro,rfl,_,hrb,hc⟩:=hs0.at i hi';obtain ⟨b1,c1,h0,h1,hsa⟩:=DSymbol.open hc;have okx:DSymbol.ok (g.fl.getD i default):=okg.1.at hi'
 have hszx:DSymbol.sz (g.fl.getD i default)≤1048576:=Nat.le_trans (zab (f:=DSymbol.sz) g.fl i hi') (by unfold DGrammar.sz at hszg;omega)
 have hzt:lsz DSymbol.sz (g.fl.take i)≤1048576:=Nat.le_trans (zt6 _ _ _) (by unfold DGrammar.sz at hszg;omega)
 have HRLT:=yq (show rb < w.heap.size by omega)
 have HGW:=yq hg;have HROW:=yq (And.intro h0 (h1))
 have HC:=yq (fun (W:World) (hW:Below w.heap.size w W)=>zi9 (c1:=c1) (c9:=c0_0) (g.fl.getD i default) okx hszx (g.fl.take i) hzt i hti W (Nat.le_trans hhi hW.size) (hsa.later hW hhi) (HT.out.later hW hhi))
 clear HT hti hzt okx hszx hg hc hsa hs0 hhi hi' hbg hrb okg hszg hcap h0 h1;generalize zkl (g.fl.getD i default) (g.fl.take i)=bb at *;generalize (g.fl.getD i default)=x at *;obtain ⟨i9,hi9,-⟩:=info_parts zl1
 go_enter Tryz.func19,Tryz.ntmps19
 go_wp2
 refine zw [([],.none,[]),([0],.none,[]),([],.none,[]),([1,2],.none,[]),([3],.none,[]),([],.none,[]),([5],.none,[]),([],.none,[]),([6,7],.none,[]),([4,8],.none,[]),([9],.none,[]),([10],.none,[])] [0,1,2,3,4,5,6,7,8,9,10,11] [] (fun _=>False) (fun _=>True) (fun _=>0) (fun jq9 V L H wx=>match jq9 with|0=>V 0 = .pointer (some ⟨bg,0,none⟩)|1=>V 1 = .slice (some ⟨rb,ro,none⟩) g.fl.length c0_0|2=>V 2 = .int .i64 (i:Int)|3=>V 3 = .pointer (some ⟨rb,ro+i * 2,none⟩)|4=>V 4 = .agg #[.string x.fa,.slice b1 x.fu.length c1]|5=>V 5 = .pointer (some ⟨bg,0,none⟩)|6=>V 6 = .slice (some ⟨rb,ro,none⟩) g.fl.length c0_0|7=>V 7 = .int .i64 (i:Int)|8=>V 8 = .slice (some ⟨rb,ro,none⟩) i c0_0|9=>V 9 = .bool bb|10=>V 10 = .bool (!bb)|11=>V 11=V 10|_=>True) (by kernel_rfl) (by kernel_rfl) ?obs (fun _ h=>h.elim) trivial (fun _ _ _ _ _=>trivial) ?loc ?lasts ?walk
 case obs =>
  trivial
 case loc =>
  intro k V V' L H wx h0 h1 hG
  match k with
  | 0 =>
   (try dsimp only at hG ⊢);rw [← h0];exact hG
  | 1 =>
   (try dsimp only at hG ⊢);rw [← h0];exact hG
  | 2 =>
   (try dsimp only at hG ⊢);rw [← h0];exact hG
  | 3 =>
   (try dsimp only at hG ⊢);rw [← h0];exact hG
  | 4 =>
   (try dsimp only at hG ⊢);rw [← h0];exact hG
  | 5 =>
   (try dsimp only at hG ⊢);rw [← h0];exact hG
  | 6 =>
   (try dsimp only at hG ⊢);rw [← h0];exact hG
  | 7 =>
   (try dsimp only at hG ⊢);rw [← h0];exact hG
  | 8 =>
   (try dsimp only at hG ⊢);rw [← h0];exact hG
  | 9 =>
   (try dsimp only at hG ⊢);rw [← h0];exact hG
  | 10 =>
   (try dsimp only at hG ⊢);rw [← h0];exact hG
  | 11 =>
   have e10:=h1 10 (by decide)
   (try dsimp only at hG ⊢);rw [← h0,← e10];exact hG
  | n+12=>trivial
 case lasts =>
  intro i hi V L H wx wy hB hH hk
  match i,hi with
  | 0,_=>exact fun h=>h
  | 1,_=>exact fun h=>h
  | 2,_=>exact fun h=>h
  | 3,_=>exact fun h=>h
  | 4,_=>exact fun h=>h
  | 5,_=>exact fun h=>h
  | 6,_=>exact fun h=>h
  | 7,_=>exact fun h=>h
  | 8,_=>exact fun h=>h
  | 9,_=>exact fun h=>h
  | 10,_=>exact fun h=>h
  | 11,_=>exact fun h=>h
  | n+12,hn=>exact absurd hn (by simp)
 case walk =>
  simp (maxSteps:=4000000) only [zda,Nat.reduceAdd,Act.put,List.setIfInBounds_toArray,List.set_cons_succ,List.set_cons_zero]
  refine ⟨?_,?_,?_,?_,?_,?_,?_,?_,?_,?_,?_,?_,?_⟩
  ·intro V L H w1 hw hk hj hd
   clear hd;(go_wp2_with fail);exact zc _ rfl ⟨⟨WritesF.refl _ _,hj⟩,zb⟩
  ·intro V L H w1 hw hk hj hd
   obtain ⟨⟨_,_,_,hv0⟩,-⟩:=hd;rw [hv0];have HV0:=yq hv0;clear hv0;have g0:w1.cell? ⟨bg,0,none⟩=some (.slice (some ⟨rb,ro,none⟩) g.fl.length c0_0):=((zd hw).cell (p:=⟨bg,0,none⟩) HBGL.out).trans (za HGW.out rfl);(go_wp2_with fail);exact zc _ rfl ⟨⟨WritesF.refl _ _,hj⟩,zb⟩
  ·intro V L H w1 hw hk hj hd
   clear hd;(go_wp2_with fail);exact zc _ rfl ⟨⟨WritesF.refl _ _,hj⟩,zb⟩
  ·intro V L H w1 hw hk hj hd
   obtain ⟨⟨_,_,_,hv1⟩,⟨_,_,_,hv2⟩,-⟩:=hd;rw [hv1,hv2];have HV1:=yq hv1;have HV2:=yq hv2;clear hv1 hv2;(go_wp2_with fail);exact zc _ rfl ⟨⟨WritesF.refl _ _,hj⟩,zb⟩
  ·intro V L H w1 hw hk hj hd
   obtain ⟨⟨_,_,_,hv3⟩,-⟩:=hd;rw [hv3];have HV3:=yq hv3;clear hv3;have r0:w1.cell? ⟨rb,ro+i * 2,none⟩=some (.string x.fa):=((zd hw).cell (p:=⟨rb,ro+i * 2,none⟩) HRLT.out).trans HROW.out.1;have r1:w1.cell? ⟨rb,ro+i * 2+1,none⟩=some (.slice b1 x.fu.length c1):=((zd hw).cell (p:=⟨rb,ro+i * 2+1,none⟩) HRLT.out).trans HROW.out.2;(go_wp2_with fail);exact zc _ rfl ⟨⟨WritesF.refl _ _,hj⟩,zb⟩
  ·intro V L H w1 hw hk hj hd
   clear hd;(go_wp2_with fail);exact zc _ rfl ⟨⟨WritesF.refl _ _,hj⟩,zb⟩
  ·intro V L H w1 hw hk hj hd
   obtain ⟨⟨_,_,_,hv5⟩,-⟩:=hd;rw [hv5];have HV5:=yq hv5;clear hv5;have g0:w1.cell? ⟨bg,0,none⟩=some (.slice (some ⟨rb,ro,none⟩) g.fl.length c0_0):=((zd hw).cell (p:=⟨bg,0,none⟩) HBGL.out).trans (za HGW.out rfl);(go_wp2_with fail);exact zc _ rfl ⟨⟨WritesF.refl _ _,hj⟩,zb⟩
  ·intro V L H w1 hw hk hj hd
   clear hd;(go_wp2_with fail);exact zc _ rfl ⟨⟨WritesF.refl _ _,hj⟩,zb⟩
  ·intro V L H w1 hw hk hj hd
   obtain ⟨⟨_,_,_,hv6⟩,⟨_,_,_,hv7⟩,-⟩:=hd;rw [hv6,hv7];have HV6:=yq hv6;have HV7:=yq hv7;clear hv6 hv7
   go_wp2_with (refine ze4 _ rfl (.tmp 10) (.tmp 11) 29 42 rfl i9 Tryz.underlying29 hi9 rb ro g.fl.length c0_0 i HCAP.out rfl rfl ?_)
   exact zc _ rfl ⟨⟨WritesF.refl _ _,hj⟩,zb⟩
  ·intro V L H w1 hw hk hj hd
   obtain ⟨⟨_,_,_,hv4⟩,⟨_,_,_,hv8⟩,-⟩:=hd;rw [hv4,hv8];have HV4:=yq hv4;have HV8:=yq hv8;clear hv4 hv8;(go_wp2_with fail);refine (HC.out w1 (zd hw)).mono ?_;rintro e w2 ⟨rfl,hb2⟩;(go_wp2_with fail);exact zc _ rfl ⟨⟨(WritesF.refl _ _).later hb2,trivial⟩,zb⟩
  ·intro V L H w1 hw hk hj hd
   obtain ⟨⟨_,_,_,hv9⟩,-⟩:=hd;rw [hv9];have HV9:=yq hv9;clear hv9;(go_wp2_with fail);exact zc _ rfl ⟨⟨WritesF.refl _ _,hj⟩,zb⟩
  ·intro V L H w1 hw hk hj hd
   obtain ⟨⟨_,_,_,hv10⟩,-⟩:=hd;rw [hv10];have HV10:=yq hv10;clear hv10;(go_wp2_with fail)
   exact zc _ rfl ⟨⟨WritesF.refl _ _,hj⟩,zb.trans (HV10.out.symm.trans (zam (by decide)).symm)⟩
  ·intro V L H w1 hw hj hd hap hdead
   obtain ⟨⟨_,_,_,hv0⟩,⟨_,_,_,hv1⟩,⟨_,_,_,hv2⟩,⟨_,_,_,hv3⟩,⟨_,_,_,hv4⟩,⟨_,_,_,hv5⟩,⟨_,_,_,hv6⟩,⟨_,_,_,hv7⟩,⟨_,_,_,hv8⟩,⟨_,_,_,hv9⟩,⟨_,_,_,hv10⟩,⟨_,_,_,hv11⟩,-⟩:=hd;have hv11':=hv11.trans hv10;rw [hv0,hv1,hv2,hv3,hv4,hv5,hv6,hv7,hv8,hv9,hv10,hv11'];clear hv0 hv1 hv2 hv3 hv4 hv5 hv6 hv7 hv8 hv9 hv10 hv11' hv11;have HBF:=yq (zd hw);clear hw hj hap hdead;go_wp2;go_ret;exact ⟨rfl,HBF.out⟩
end Go.Proofs.YtmbaajangkmjdaaGreat
