/-
  spec.l4Copy: an expression copied, in memory of its own.
-/
import Derived.Test.YtmbaajangkmjdaaGreatZz3
import Derived.Great.BuildSlice
import Derived.Deep.WholeRow
set_option maxHeartbeats 3200000
set_option maxRecDepth 100000
namespace Go.Proofs.YtmbaajangkmjdaaGreat
open Go.ChangeShapes Go.WideShapes Go.ChangeAt Go.RowKit Go.Deep
theorem zth {w:World} {F:Nat→Prop} {n:Nat} {c:Nat→Ct} {u:Nat→Value} (hl : ∀ j,j < n→c j = .lit (u j)) (h:Own w F (c n) (u n)):OwnR w F (n+1) c u :=
 OwnR.append (F1:=fun _=>False) (F2:=F) (OwnR.lits hl) (OwnR.one h) (fun _ h _=>h.elim) (fun _ h=>h.elim) (fun _ h=>h)
theorem zus {w:World} {F:Nat→Prop} {x:DExpr} {a:Option Addr} {c:Nat} (h:Own w F (.sl 7 x.fc.length (ctE x.fc)) (.slice a x.fc.length c)):OwnR w F 7 x.ct (fun j=>([.int .i64 x.fh,.int .i64 x.fN,.int .i64 x.fb,.int .i64 x.fk,.string x.fd,.string x.fa,.slice a x.fc.length c]:List Value).getD j .nilFunc) :=
 zth (n:=6) (fun j hj=>match j,hj with|0,_=>rfl|1,_=>rfl|2,_=>rfl|3,_=>rfl|4,_=>rfl|5,_=>rfl) h
def zo5 (x:DExpr):Prop:=∀ ⦃lo hi c6:Nat⦄ ⦃a6:Option Addr⦄ (_hsz:x.sz≤1048576) (w:World) (_hhi:hi≤w.heap.size) (_hs6:Sl lo hi w 7 x.fc.length (ctE x.fc) a6),
 Calls Tryz.prog 106 #[.agg #[.int .i64 x.fh,.int .i64 x.fN,.int .i64 x.fb,.int .i64 x.fk,.string x.fd,.string x.fa,.slice a6 x.fc.length c6]] w fun e w'=>∃ a c,e = .returned (.agg #[.int .i64 x.fh,.int .i64 x.fN,.int .i64 x.fb,.int .i64 x.fk,.string x.fd,.string x.fa,.slice a x.fc.length c])∧Own w' (fun y=>w.heap.size≤y∧y < w'.heap.size) (.sl 7 x.fc.length (ctE x.fc)) (.slice a x.fc.length c)∧Below w.heap.size w w'
theorem znx (x:DExpr) (ih : ∀ a ∈ x.fc,zo5 a):zo5 x:=by
 intro lo hi c6 a6 hsz w hhi hs6
 have hn:x.fc.length≤1048576:=by have h:=hsz;rw [DExpr.sz_eq] at h;unfold lsz at h;omega
 have HZ:=yq hsz;have IH:=yq ih;have HS:=yq hs6
 have HB0:=yq (((Below.refl w.heap.size w).alloc (Nat.le_refl _) (.cells #[.int .i64 x.fh,.int .i64 x.fN,.int .i64 x.fb,.int .i64 x.fk,.string x.fd,.string x.fa,.slice a6 x.fc.length c6] 90)).alloc (by simp) (.cells #[.int .i64 0,.int .i64 0,.int .i64 0,.int .i64 0,.string ⟨#[]⟩,.string ⟨#[]⟩,.slice none 0 0] 90))
 have HSZ:=yq (show ((w.alloc (.cells #[.int .i64 x.fh,.int .i64 x.fN,.int .i64 x.fb,.int .i64 x.fk,.string x.fd,.string x.fa,.slice a6 x.fc.length c6] 90)).alloc (.cells #[.int .i64 0,.int .i64 0,.int .i64 0,.int .i64 0,.string ⟨#[]⟩,.string ⟨#[]⟩,.slice none 0 0] 90)).heap.size=w.heap.size+2 by simp)
 have HX6:=yq (show ((w.alloc (.cells #[.int .i64 x.fh,.int .i64 x.fN,.int .i64 x.fb,.int .i64 x.fk,.string x.fd,.string x.fa,.slice a6 x.fc.length c6] 90)).alloc (.cells #[.int .i64 0,.int .i64 0,.int .i64 0,.int .i64 0,.string ⟨#[]⟩,.string ⟨#[]⟩,.slice none 0 0] 90)).cell? ⟨w.heap.size,6,none⟩=some (.slice a6 x.fc.length c6) by go_simp)
 have HBX:=yq (show ((w.alloc (.cells #[.int .i64 x.fh,.int .i64 x.fN,.int .i64 x.fb,.int .i64 x.fk,.string x.fd,.string x.fa,.slice a6 x.fc.length c6] 90)).alloc (.cells #[.int .i64 0,.int .i64 0,.int .i64 0,.int .i64 0,.string ⟨#[]⟩,.string ⟨#[]⟩,.slice none 0 0] 90)).heap[w.heap.size]? = some (.cells #[.int .i64 x.fh,.int .i64 x.fN,.int .i64 x.fb,.int .i64 x.fk,.string x.fd,.string x.fa,.slice a6 x.fc.length c6] 90) from zn (by simp) (ze rfl))
 have HBZ:=yq (show ((w.alloc (.cells #[.int .i64 x.fh,.int .i64 x.fN,.int .i64 x.fb,.int .i64 x.fk,.string x.fd,.string x.fa,.slice a6 x.fc.length c6] 90)).alloc (.cells #[.int .i64 0,.int .i64 0,.int .i64 0,.int .i64 0,.string ⟨#[]⟩,.string ⟨#[]⟩,.slice none 0 0] 90)).heap[w.heap.size+1]? = some (.cells #[.int .i64 0,.int .i64 0,.int .i64 0,.int .i64 0,.string ⟨#[]⟩,.string ⟨#[]⟩,.slice none 0 0] 90) from ze (by simp))
 have HO0:=yq (show (((w.alloc (.cells #[.int .i64 x.fh,.int .i64 x.fN,.int .i64 x.fb,.int .i64 x.fk,.string x.fd,.string x.fa,.slice a6 x.fc.length c6] 90)).alloc (.cells #[.int .i64 0,.int .i64 0,.int .i64 0,.int .i64 0,.string ⟨#[]⟩,.string ⟨#[]⟩,.slice none 0 0] 90)).alloc (.cells #[] 90)).ownsRow (w.heap.size+2) 90 7 (.slice (some ⟨w.heap.size+2,0,none⟩) 0 0) 0 [] from by have h:=World.ownsRow_made (w:=((w.alloc (.cells #[.int .i64 x.fh,.int .i64 x.fN,.int .i64 x.fb,.int .i64 x.fk,.string x.fd,.string x.fa,.slice a6 x.fc.length c6] 90)).alloc (.cells #[.int .i64 0,.int .i64 0,.int .i64 0,.int .i64 0,.string ⟨#[]⟩,.string ⟨#[]⟩,.slice none 0 0] 90))) (e:=90) (size:=7) #[] 0 (Nat.le_refl _) (Nat.zero_le _) (by simp);rw [HSZ.out] at h;exact h)
 obtain ⟨i0,hi',hz0,hz1,hz2⟩:=info_parts zk3;clear hsz ih hs6
 go_enter Tryz.func106,Tryz.ntmps106
 go_wp2
 go_loopw [3,4] (fun v i wr=>∃ (k:Nat) (xs:List Value),k≤x.fc.length∧i = .int .i64 (k:Int)∧wr.ownsRow (w.heap.size+2) 90 7 v k xs∧Rows (w.heap.size+2) wr 7 v.ownBlock k (ctE x.fc) xs∧Below (w.heap.size+2) ((w.alloc (.cells #[.int .i64 x.fh,.int .i64 x.fN,.int .i64 x.fb,.int .i64 x.fk,.string x.fd,.string x.fa,.slice a6 x.fc.length c6] 90)).alloc (.cells #[.int .i64 0,.int .i64 0,.int .i64 0,.int .i64 0,.string ⟨#[]⟩,.string ⟨#[]⟩,.slice none 0 0] 90)) wr) (fun _ i _=>x.fc.length - (intOf i).toNat)
 case atStart=>exact ⟨0,[],Nat.zero_le _,rfl,HO0.out,Rows.zero,(Below.refl _ _).alloc (by simp) _⟩
 case round =>
  obtain ⟨k,xs,hk,rfl,hown,hrows,hbl⟩:=hrel;have HO:=yq hown;have HR:=yq hrows;have HBL:=yq hbl
  have hszr:w.heap.size+2≤wr.heap.size:=by have h:=hbl.size;rw [HSZ.out] at h;exact h
  have p6:wr.cell? ⟨w.heap.size,6,none⟩=some (.slice a6 x.fc.length c6):=(hbl.cell (p:=⟨w.heap.size,6,none⟩) (by show w.heap.size < _;omega)).trans HX6.out
  have hbw:Below w.heap.size w wr:=HB0.out.trans (hbl.mono (by omega))
  have HBW:=yq hbw;clear hown hrows hbl
  by_cases hlt:k < x.fc.length
  ·obtain ⟨rb,ro,rfl,_,hrb,hc⟩:=(HS.out.later (hbw.mono hhi) (Nat.le_refl _)).at k hlt
   have HCT:=yq (zb6 hlt);rw [zb6 hlt] at hc;obtain ⟨a9,c9,hc0,hc1,hc2,hc3,hc4,hc5,hc6,hs9⟩:=DExpr.open hc;have hszk:=zab (f:=DExpr.sz) x.fc k hlt;have hszx:=HZ.out;rw [DExpr.sz_eq] at hszx;have IK:=yq (IH.out _ (zbg hlt))
   have HC:=yq (fun (W:World) (hW:Below wr.heap.size wr W)=>IK.out (c6:=c9) (by omega) W (Nat.le_trans hhi (Nat.le_trans HBW.out.size hW.size)) (hs9.later (hW.mono (Nat.le_trans hhi HBW.out.size)) (Nat.le_refl _)))
   clear hbw hc hs9 hszk hszx IK;generalize x.fc.getD k default=y at *;(go_wp2_with fail);refine (HC.out _ (Below.refl _ _)).mono ?_;rintro e w1 ⟨a',c',rfl,ho1,hb1⟩;have HO1:=yq (zl (HO.out) hb1);have HB1:=yq hb1;have HOW:=yq ho1;have hszw:w.heap.size+2≤w1.heap.size:=Nat.le_trans hszr hb1.size;clear hb1 ho1 p6 hc0 hc1 hc2 hc3 hc4 hc5 hc6 HC
   go_wp2_with (at_builtin;refine zp rfl (.tmp 13) (.tmp 20) 88 rfl (w.heap.size+2) 90 i0 (.agg #[.int .i64 0,.int .i64 0,.int .i64 0,.int .i64 0,.string ⟨#[]⟩,.string ⟨#[]⟩,.slice none 0 0]) 7 88 Tryz.underlying88 hi' hz0 hz1 hz2 rfl (by decide) _ _ _ rfl (zl HO1.out ((Below.refl _ _).alloc (Nat.le_refl _) _)) ⟨w1.heap.size,0,none⟩ 1 1 [.int .i64 y.fh,.int .i64 y.fN,.int .i64 y.fb,.int .i64 y.fk,.string y.fd,.string y.fa,.slice a' y.fc.length c'] rfl rfl zgv (by intro u hu;simp at hu;rcases hu with rfl|rfl|rfl|rfl|rfl|rfl|rfl<;>rfl) yl (by omega) ye ?_;intro v' w2 hown' hgrow hat)
   have HRA:=yq (zus (x:=y) (HOW.out.kept (Kept.of_below_all ((Below.refl _ _).alloc (Nat.le_refl _) (.cells #[.int .i64 y.fh,.int .i64 y.fN,.int .i64 y.fb,.int .i64 y.fk,.string y.fd,.string y.fa,.slice a' y.fc.length c'] 90)))));rw [← HCT.out] at HRA
   have HRS:=yq (Rows.step HR.out hszr (fun z hz=>(HO.out.lt z hz).2) (HB1.out.alloc HB1.out.size (.cells #[.int .i64 y.fh,.int .i64 y.fN,.int .i64 y.fb,.int .i64 y.fk,.string y.fd,.string y.fa,.slice a' y.fc.length c'] 90)) (HRA.out.sub fun z hz=>⟨hz.1,Nat.lt_of_lt_of_le hz.2 (by simp)⟩) hgrow hat HO.out.1)
   have HOS:=yq hown'
   have HBS:=yq (((HBL.out.trans (HB1.out.mono hszr)).alloc hszw _).grown hgrow ye (fun z hz=>(HO.out.lt z hz).1))
   clear hgrow hown' hat HRA;go_wp2;go_roundw
   case rel=>exact ⟨k+1,_,by omega,by go_num,HOS.out,HRS.out,HBS.out⟩
   case measure=>simp [intOf];omega
  ·obtain rfl:k=x.fc.length:=by omega
   obtain ⟨a',c',rfl,ho⟩:=Rows.own HR.out HO.out;have HOW:=yq ho
   have hg1:wr.heap[w.heap.size]? = some (.cells #[.int .i64 x.fh,.int .i64 x.fN,.int .i64 x.fb,.int .i64 x.fk,.string x.fd,.string x.fa,.slice a6 x.fc.length c6] 90):=(HBL.out.block _ (by omega)).trans HBX.out
   have hg2:wr.heap[w.heap.size+1]? = some (.cells #[.int .i64 0,.int .i64 0,.int .i64 0,.int .i64 0,.string ⟨#[]⟩,.string ⟨#[]⟩,.slice none 0 0] 90):=(HBL.out.block _ (by omega)).trans HBZ.out
   have hf6:wr.frozen? ⟨w.heap.size,6,none⟩=false:=zay hg1
   have HG1:=yq (show (wr.setCell ⟨w.heap.size,6,none⟩ (.slice a' x.fc.length c')).heap[w.heap.size]? = some (.cells #[.int .i64 x.fh,.int .i64 x.fN,.int .i64 x.fb,.int .i64 x.fk,.string x.fd,.string x.fa,.slice a' x.fc.length c'] 90) from zbu hg1 rfl)
   have HG2:=yq (show (wr.setCell ⟨w.heap.size,6,none⟩ (.slice a' x.fc.length c')).heap[w.heap.size+1]? = some (.cells #[.int .i64 0,.int .i64 0,.int .i64 0,.int .i64 0,.string ⟨#[]⟩,.string ⟨#[]⟩,.slice none 0 0] 90) from zaj (by simp) hg2)
   clear hg1 hg2 hbw ho
   go_wp2_with (first
    | (refine wpList_load_row rfl 90 (.tmp 1) rfl w.heap.size rfl 90 _ _ _ HG1.out Tryz.underlying90 rfl (by kernel_rfl) ?_)
    | (refine wpList_store_rowTo rfl 90 (.tmp 2) (.tmp 24) rfl rfl (w.heap.size+1) _ rfl rfl 90 _ HG2.out (by kernel_rfl) rfl (by simp [Value.oneCell']) ?_))
   refine bodyPost_ret (v:=.agg #[.int .i64 x.fh,.int .i64 x.fN,.int .i64 x.fb,.int .i64 x.fk,.string x.fd,.string x.fa,.slice a' x.fc.length c']) (results_cell_row rfl _ _ (w.heap.size+1) 90 #[.int .i64 x.fh,.int .i64 x.fN,.int .i64 x.fb,.int .i64 x.fk,.string x.fd,.string x.fa,.slice a' x.fc.length c'] (0,0) _ rfl (setRow_heap _ _ _ _ _ _ HG2.out) Tryz.underlying90 rfl (by kernel_rfl)) rfl ?_
   refine ⟨a',c',rfl,?_,?_⟩
   ·have hk:Kept (fun z=>w.heap.size+2≤z) wr ((wr.setCell ⟨w.heap.size,6,none⟩ (.slice a' x.fc.length c')).setRow (w.heap.size+1) #[.int .i64 x.fh,.int .i64 x.fN,.int .i64 x.fb,.int .i64 x.fk,.string x.fd,.string x.fa,.slice a' x.fc.length c']):=zef (Kept.setCell (by show ¬ w.heap.size+2≤w.heap.size;omega)) (by omega)
    exact (HOW.out.kept (hk.sub fun z hz=>hz.1)).sub fun z hz=>⟨by omega,Nat.lt_of_lt_of_le hz.2 hk.1⟩
   ·exact zbz (HBW.out.setCell (p:=⟨w.heap.size,6,none⟩) (Nat.le_refl _) _) (by omega) _
end Go.Proofs.YtmbaajangkmjdaaGreat
