/-
  The rows of a fold: a row cut at a place, what stands behind the place, an append of such a part to nothing, in a round too.
  l4Put of the model.
  slices.Compact over a row of occurrences of the call's own.
  Maps keyed by occurrences; whether a list has an occurrence.
  Equations that no required occurrence asks for, or that an earlier one gives.
  l11HasAt and l11Extra of the model.
  AttributeUses of the model: l4Uses.
-/
import Derived.Test.YtmbaajangkmjdaaGreatZRev
import Derived.Test.YtmbaajangkmjdaaGreatZCompT
import Derived.Test.YtmbaajangkmjdaaGreatZz15
import Derived.Test.YtmbaajangkmjdaaGreatZUsesO
set_option maxHeartbeats 16000000
set_option maxRecDepth 100000
namespace Go.Proofs.YtmbaajangkmjdaaGreat
open Go.ChangeShapes Go.WideShapes Go.ChangeAt Go.RowKit Go.Deep
section
variable {α : Type}
theorem zjy {enc : α → List Value} {n:Nat} (hk : ∀ x,(enc x).length=n) (zs:List α) {r:Nat} (hr:r≤zs.length):(zs.flatMap enc).take (r * n)=(zs.take r).flatMap enc∧(zs.flatMap enc).drop (r * n)=(zs.drop r).flatMap enc:=by
 have h1:zs.flatMap enc=(zs.take r).flatMap enc ++ (zs.drop r).flatMap enc:=by rw [← List.flatMap_append,List.take_append_drop]
 have h2:((zs.take r).flatMap enc).length=r * n:=by
  have h3 : ∀ l:List α,(l.flatMap enc).length=l.length * n:=by
   intro l
   induction l with
   | nil=>simp
   | cons a l ih=>rw [List.flatMap_cons,List.length_append,hk,ih,List.length_cons,Nat.succ_mul,Nat.add_comm]
  rw [h3,List.length_take,Nat.min_eq_left hr]
 rw [h1];exact ⟨List.take_left' h2,List.drop_left' h2⟩
theorem zwk {w:World} {B n c r:Nat} {e:TypeId} {a:Option Addr} {enc : α → List Value} (hk : ∀ x,(enc x).length=n) {zs:List α} (h:w.ownsRow B e n (.slice a zs.length c) zs.length (zs.flatMap enc)) (hr:r≤zs.length) :
  w.ownsRow B e n (.slice a r c) (zs.take r).length ((zs.take r).flatMap enc):=by
 have hl:(zs.take r).length=r:=by rw [List.length_take,Nat.min_eq_left hr]
 have hlen:((zs.take r).flatMap enc).length=r * n:=by
  rw [← (zjy hk zs hr).1,List.length_take,h.1,Nat.min_eq_left (Nat.mul_le_mul_right n hr)]
 rw [hl];refine ⟨hlen,?_⟩
 rcases h.2 with ⟨e0,hx⟩|⟨g,cap,cur,e0,hB,hg,hle,hcm,hcs,ht⟩
 ·simp only [Value.slice.injEq] at e0
  obtain ⟨rfl,_,rfl⟩:=e0
  obtain rfl:r=0:=by omega
  exact .inl ⟨rfl,rfl⟩
 ·simp only [Value.slice.injEq,true_and] at e0
  obtain ⟨rfl,rfl⟩:=e0;refine .inr ⟨g,c,cur,rfl,hB,hg,Nat.le_trans hr hle,hcm,hcs,?_⟩;rw [← (zjy hk zs hr).1,← ht,List.take_take,Nat.min_eq_left (Nat.mul_le_mul_right n hr)]
theorem zjr {w:World} {B n c r g:Nat} {e:TypeId} {enc : α → List Value} (hk : ∀ x,(enc x).length=n) {zs:List α} (h:w.ownsRow B e n (.slice (some ⟨g,0,none⟩) zs.length c) zs.length (zs.flatMap enc)) (hr:r≤zs.length) :
  ∀ j u,((zs.drop r).flatMap enc)[j]? = some u→w.cell? ((⟨g,r * n,none⟩:Addr).add j)=some u:=by
 intro j u hj;rw [← (zjy hk zs hr).2,List.getElem?_drop] at hj
 have hlt:r * n+j < zs.length * n:=by
  have:=(List.getElem?_eq_some_iff.1 hj).1
  rwa [h.1] at this
 rw [add_plain,h.cellAt (r * n+j) hlt,hj]
end
theorem zuy {w:World} {B n m c:Nat} {e:TypeId} {a:Option Addr} {xs:List Value} (h:w.ownsRow B e n (.slice a m c) m xs):(a=none∧m=0∧c=0) ∨ ∃ g,a=some ⟨g,0,none⟩∧m≤c∧c≤9223372036854775807∧B≤g∧g < w.heap.size:=by
 rcases h.2 with ⟨e0,hx⟩|⟨g,cap,cur,e0,hB,hg,hle,hcm,_,_⟩
 ·simp only [Value.slice.injEq] at e0
  exact .inl ⟨e0.1,e0.2.1,e0.2.2⟩
 ·simp only [Value.slice.injEq,true_and] at e0
  obtain ⟨rfl,rfl⟩:=e0
  exact .inr ⟨g,rfl,hle,by unfold maxLen at hcm;exact hcm,hB,(Array.getElem?_eq_some_iff.1 hg).1⟩
section
variable {P:Program}
end
def zo (y:DOccurrence):List Value:=[.int .i64 y.fb,.string y.fa]
theorem zea {a b:ByteArray} (h:a.toList=b.toList):a=b:=by
 rw [Lib.toList_data,Lib.toList_data] at h
 cases a;cases b
 congr 1
 exact Array.toList_inj.1 h
theorem zee {w:World} {B B' n len g c:Nat} {e:TypeId} {xs:List Value} (h:w.ownsRow B e n (.slice (some ⟨g,0,none⟩) len c) len xs) (hB:B'≤g):w.ownsRow B' e n (.slice (some ⟨g,0,none⟩) len c) len xs:=by
 obtain ⟨h1,h2⟩:=h;refine ⟨h1,?_⟩
 rcases h2 with ⟨h2,_⟩|⟨g',cap,cur,hv,_,hg,h3⟩
 ·cases h2
 ·have e1:g=g':=by simp only [Value.slice.injEq,Option.some.injEq,Addr.mk.injEq,and_true] at hv;exact hv.1
  subst e1;exact Or.inr ⟨g,cap,cur,hv,hB,hg,h3⟩
theorem zff {w:World} {B g c k:Nat} {l:List DOccurrence} (h:w.ownsRow B 87 2 (.slice (some ⟨g,0,none⟩) l.length c) l.length (l.flatMap zo)) (hk:k≤l.length) :
  ∀ j u,((l.take k).flatMap zo)[j]? = some u→w.cell? ((⟨g,0,none⟩:Addr).add j)=some u:=by
 intro j u hj
 have h1:=zwk (enc:=zo) (n:=2) (fun _=>rfl) h hk
 have hl:(l.take k).length=k:=by rw [List.length_take,Nat.min_eq_left hk]
 have hlt:j < (l.take k).length * 2:=by
  have:=(List.getElem?_eq_some_iff.1 hj).1
  rwa [h1.1] at this
 rw [hl] at h1 hlt;rw [add_plain,Nat.zero_add,h1.cellAt j hlt,hj]
theorem za3 (y:DOccurrence):(zo y).length=2:=rfl
theorem zbt (l:List DOccurrence):(l.flatMap zo).length=l.length * 2:=by
 induction l with
 | nil=>rfl
 | cons y l ih=>rw [List.flatMap_cons,List.length_append,ih,za3,List.length_cons];omega
theorem zdl (l:List DOccurrence) : ∀ u ∈ l.flatMap zo,u.oneCell'=true:=by
 intro u hu;obtain ⟨y,_,hy⟩:=List.mem_flatMap.1 hu
 simp only [zo,List.mem_cons,List.not_mem_nil,or_false] at hy
 rcases hy with rfl|rfl<;>rfl
theorem zcr {w:World} {B g c:Nat} {l:List DOccurrence} (h:w.ownsRow B 87 2 (.slice (some ⟨g,0,none⟩) l.length c) l.length (l.flatMap zo)) {k:Nat} (hk:k < l.length) :
  w.cell? ⟨g,k * 2,none⟩=some (.int .i64 (l.getD k default).fb)∧w.cell? ⟨g,k * 2+1,none⟩=some (.string (l.getD k default).fa):=by
 have h0:=zjs zo 2 za3 l k 0 hk (by decide)
 have h1:=zjs zo 2 za3 l k 1 hk (by decide)
 exact ⟨(h.cellAt (k * 2) (by omega)).trans h0,(h.cellAt (k * 2+1) (by omega)).trans h1⟩
theorem zsy {B g c:Nat} (l:List DOccurrence) (hl:l.length≤4194304) (x:DOccurrence) (w:World) (hown:w.ownsRow B 87 2 (.slice (some ⟨g,0,none⟩) l.length c) l.length (l.flatMap zo)) :
  Calls Tryz.prog 175 #[.slice (some ⟨g,0,none⟩) l.length c,.agg #[.int .i64 x.fb,.string x.fa]] w fun e w'=>∃ g' c',e = .returned (.slice (some ⟨g',0,none⟩) (putL ltO x l).length c')∧w'.ownsRow B 87 2 (.slice (some ⟨g',0,none⟩) (putL ltO x l).length c') (putL ltO x l).length ((putL ltO x l).flatMap zo)∧Below w.heap.size w w':=by
 have HB:=yq ((Below.refl w.heap.size w).alloc (Nat.le_refl _) (.cells #[.int .i64 x.fb,.string x.fa] 87))
 have HX:=yq (show (w.alloc (.cells #[.int .i64 x.fb,.string x.fa] 87)).heap[w.heap.size]? = some (.cells #[.int .i64 x.fb,.string x.fa] 87) from ze rfl)
 have HSZ:=yq (show (w.alloc (.cells #[.int .i64 x.fb,.string x.fa] 87)).heap.size=w.heap.size+1 by simp)
 have HO:=yq hown
 have HGL:=yq (show B≤g∧g < w.heap.size from hown.lt g rfl)
 have HPL:=yq (fun k (hk:k≤l.length) h0 h1=>zu8 ze0 x l k hk h0 h1)
 have HBF:=yq (fun (y:DOccurrence) (W:World)=>zo7 y x W)
 clear hown;obtain ⟨i0,hi',hz0,hz1,hz2⟩:=info_parts zlo
 go_enter Tryz.func175,Tryz.ntmps175
 go_wp2;generalize w.alloc (.cells #[.int .i64 x.fb,.string x.fa] 87)=w0 at *
 go_loopw [5] (fun i wr=>∃ k:Nat,k≤l.length∧i = .int .i64 (k:Int)∧(∀ j,j < k→ltO (l.getD j default) x=true)∧Below w0.heap.size w0 wr) (fun i _=>l.length - (intOf i).toNat)
 case atStart=>exact ⟨0,Nat.zero_le _,rfl,fun j hj=>absurd hj (Nat.not_lt_zero _),Below.refl _ _⟩
 case round =>
  obtain ⟨k,hk,rfl,hlow,hbl⟩:=hrel;have HLOW:=yq hlow;have HBL:=yq hbl;have HBW:=yq (HB.out.trans (hbl.mono HB.out.size));clear hlow hbl
  by_cases hlt:k < l.length
  ·have hlI:(k:Int) < (l.length:Int):=by omega
   have HC:=yq (zcr (zl HO.out HBW.out) hlt);have HCK:=yq (HBF.out (l.getD k default))
   cases hb:ltO (l.getD k default) x
   ·skip
    rw [hb] at HCK;have HLB:=yq hb;clear hb;generalize hy:l.getD k default=y at *;have HY:=yq hy;clear hy;(go_wp2_with fail);have hkk:=hk;clear hk
    refine zw [([],.none,[]),([],.none,[]),([1],.none,[]),([0,2],.none,[]),([3],.none,[]),([4],.none,[]),([4],.none,[]),([4,5,6],.none,[]),([4,7],.none,[]),([4],.none,[]),([4,8,9],.none,[]),([4,10],.none,[])] [0,1,2,3,4,5,6,7,8,9,10,11] [] (fun _=>False) (fun _=>True) (fun _=>0) (fun jq9 V L H wx=>match jq9 with|0=>V 0 = .int .i64 (k:Int)|1=>V 1 = .slice (some ⟨g,0,none⟩) l.length c|2=>V 2 = .int .i64 (l.length:Int)|3=>V 3 = .bool true|4=>V 4 = .bool true|5=>V 5 = .slice (some ⟨g,0,none⟩) l.length c|6=>V 6 = .int .i64 (k:Int)|7=>V 7 = .pointer (some ⟨g,k * 2,none⟩)|8=>V 8 = .agg #[.int .i64 y.fb,.string y.fa]|9=>V 9 = .agg #[.int .i64 x.fb,.string x.fa]|10=>V 10 = .bool false|11=>V 11 = .bool false|_=>True) (by kernel_rfl) (by kernel_rfl) ?obs (fun _ h=>h.elim) trivial (fun _ _ _ _ _=>trivial) ?loc ?lasts ?walk
    case obs =>
     trivial
    case loc =>
     intro k V V' L H wx h0 h1 hG
     match k with
     | 0 =>
      (try dsimp only at hG ⊢);rw [← h0];exact hG
     | 1 =>
      (try dsimp only at hG ⊢);rw [← h0];exact hG
     | 2 =>
      (try dsimp only at hG ⊢);rw [← h0];exact hG
     | 3 =>
      (try dsimp only at hG ⊢);rw [← h0];exact hG
     | 4 =>
      (try dsimp only at hG ⊢);rw [← h0];exact hG
     | 5 =>
      (try dsimp only at hG ⊢);rw [← h0];exact hG
     | 6 =>
      (try dsimp only at hG ⊢);rw [← h0];exact hG
     | 7 =>
      (try dsimp only at hG ⊢);rw [← h0];exact hG
     | 8 =>
      (try dsimp only at hG ⊢);rw [← h0];exact hG
     | 9 =>
      (try dsimp only at hG ⊢);rw [← h0];exact hG
     | 10 =>
      (try dsimp only at hG ⊢);rw [← h0];exact hG
     | 11 =>
      (try dsimp only at hG ⊢);rw [← h0];exact hG
     | n+12=>trivial
    case lasts =>
     intro i hi V L H wx wy hB hH hk
     match i,hi with
     | 0,_=>exact fun h=>h
     | 1,_=>exact fun h=>h
     | 2,_=>exact fun h=>h
     | 3,_=>exact fun h=>h
     | 4,_=>exact fun h=>h
     | 5,_=>exact fun h=>h
     | 6,_=>exact fun h=>h
     | 7,_=>exact fun h=>h
     | 8,_=>exact fun h=>h
     | 9,_=>exact fun h=>h
     | 10,_=>exact fun h=>h
     | 11,_=>exact fun h=>h
     | n+12,hn=>exact absurd hn (by simp)
    case walk =>
     simp (maxSteps:=4000000) only [zda,Nat.reduceAdd,Act.put,List.setIfInBounds_toArray,List.set_cons_succ,List.set_cons_zero]
     refine ⟨?_,?_,?_,?_,?_,?_,?_,?_,?_,?_,?_,?_,?_⟩
     ·intro V L H wq hw hk hj hd
      clear hd;(go_wp2_with fail);exact zc _ rfl ⟨⟨WritesF.refl _ _,hj⟩,zb⟩
     ·intro V L H wq hw hk hj hd
      clear hd;(go_wp2_with fail);exact zc _ rfl ⟨⟨WritesF.refl _ _,hj⟩,zb⟩
     ·intro V L H wq hw hk hj hd
      obtain ⟨⟨_,_,_,hv1⟩,-⟩:=hd;rw [hv1];have HV1:=yq hv1;clear hv1;(go_wp2_with fail);exact zc _ rfl ⟨⟨WritesF.refl _ _,hj⟩,zb⟩
     ·intro V L H wq hw hk hj hd
      obtain ⟨⟨_,_,_,hv0⟩,⟨_,_,_,hv2⟩,-⟩:=hd;rw [hv0,hv2];have HV0:=yq hv0;have HV2:=yq hv2;clear hv0 hv2;(go_wp2_with fail);exact zc _ rfl ⟨⟨WritesF.refl _ _,hj⟩,zb⟩
     ·intro V L H wq hw hk hj hd
      obtain ⟨⟨_,_,_,hv3⟩,-⟩:=hd;rw [hv3];have HV3:=yq hv3;clear hv3;(go_wp2_with fail);exact zc _ rfl ⟨⟨WritesF.refl _ _,hj⟩,zb⟩
     ·intro V L H wq hw hk hj hd
      obtain ⟨⟨_,_,_,hv4⟩,-⟩:=hd;rw [hv4];have HV4:=yq hv4;clear hv4;(go_wp2_with fail);exact zc _ rfl ⟨⟨WritesF.refl _ _,hj⟩,zb⟩
     ·intro V L H wq hw hk hj hd
      obtain ⟨⟨_,_,_,hv4⟩,-⟩:=hd;rw [hv4];have HV4:=yq hv4;clear hv4;(go_wp2_with fail);exact zc _ rfl ⟨⟨WritesF.refl _ _,hj⟩,zb⟩
     ·intro V L H wq hw hk hj hd
      obtain ⟨⟨_,_,_,hv4⟩,⟨_,_,_,hv5⟩,⟨_,_,_,hv6⟩,-⟩:=hd;rw [hv4,hv5,hv6];have HV4:=yq hv4;have HV5:=yq hv5;have HV6:=yq hv6;clear hv4 hv5 hv6;(go_wp2_with fail);exact zc _ rfl ⟨⟨WritesF.refl _ _,hj⟩,zb⟩
     ·intro V L H wq hw hk hj hd
      obtain ⟨⟨_,_,_,hv4⟩,⟨_,_,_,hv7⟩,-⟩:=hd;rw [hv4,hv7];have HV4:=yq hv4;have HV7:=yq hv7;clear hv4 hv7
      have q0:wq.cell? ⟨g,k * 2,none⟩=some (.int .i64 y.fb):=(hk.cell (p:=⟨g,k * 2,none⟩) ⟨(show g < wr.heap.size from Nat.lt_of_lt_of_le HGL.out.2 HBW.out.size),fun h=>h,trivial⟩ (show g < wr.heap.size from Nat.lt_of_lt_of_le HGL.out.2 HBW.out.size)).trans HC.out.1
      have q1:wq.cell? ⟨g,k * 2+1,none⟩=some (.string y.fa):=(hk.cell (p:=⟨g,k * 2+1,none⟩) ⟨(show g < wr.heap.size from Nat.lt_of_lt_of_le HGL.out.2 HBW.out.size),fun h=>h,trivial⟩ (show g < wr.heap.size from Nat.lt_of_lt_of_le HGL.out.2 HBW.out.size)).trans HC.out.2
      (go_wp2_with fail);exact zc _ rfl ⟨⟨WritesF.refl _ _,hj⟩,zb⟩
     ·intro V L H wq hw hk hj hd
      obtain ⟨⟨_,_,_,hv4⟩,-⟩:=hd;rw [hv4];have HV4:=yq hv4;clear hv4
      have x0:wq.cell? ⟨w.heap.size,0,none⟩=some (.int .i64 x.fb):=(hk.cell (p:=⟨w.heap.size,0,none⟩) ⟨(show w.heap.size < wr.heap.size by have:=HSZ.out;have:=HBL.out.size;omega),fun h=>h,trivial⟩ (show w.heap.size < wr.heap.size by have:=HSZ.out;have:=HBL.out.size;omega)).trans ((HBL.out.cell (p:=⟨w.heap.size,0,none⟩) (show w.heap.size < w0.heap.size by have:=HSZ.out;omega)).trans (za HX.out rfl))
      have x1:wq.cell? ⟨w.heap.size,1,none⟩=some (.string x.fa):=(hk.cell (p:=⟨w.heap.size,1,none⟩) ⟨(show w.heap.size < wr.heap.size by have:=HSZ.out;have:=HBL.out.size;omega),fun h=>h,trivial⟩ (show w.heap.size < wr.heap.size by have:=HSZ.out;have:=HBL.out.size;omega)).trans ((HBL.out.cell (p:=⟨w.heap.size,1,none⟩) (show w.heap.size < w0.heap.size by have:=HSZ.out;omega)).trans (za HX.out rfl))
      (go_wp2_with fail);exact zc _ rfl ⟨⟨WritesF.refl _ _,hj⟩,zb⟩
     ·intro V L H wq hw hk hj hd
      obtain ⟨⟨_,_,_,hv4⟩,⟨_,_,_,hv8⟩,⟨_,_,_,hv9⟩,-⟩:=hd;rw [hv4,hv8,hv9];have HV4:=yq hv4;have HV8:=yq hv8;have HV9:=yq hv9;clear hv4 hv8 hv9;(go_wp2_with fail);refine (HCK.out wq).mono ?_;rintro e w2 ⟨rfl,hb2⟩;(go_wp2_with fail);exact zc _ rfl ⟨⟨(WritesF.refl _ _).later hb2,trivial⟩,zb⟩
     ·intro V L H wq hw hk hj hd
      obtain ⟨⟨_,_,_,hv4⟩,⟨_,_,_,hv10⟩,-⟩:=hd;rw [hv4,hv10];have HV4:=yq hv4;have HV10:=yq hv10;clear hv4 hv10;(go_wp2_with fail);exact zc _ rfl ⟨⟨WritesF.refl _ _,hj⟩,zb⟩
     ·intro V L H wq hw hj hd hap hdead
      obtain ⟨⟨_,_,_,hv0⟩,⟨_,_,_,hv1⟩,⟨_,_,_,hv2⟩,⟨_,_,_,hv3⟩,⟨_,_,_,hv4⟩,⟨_,_,_,hv5⟩,⟨_,_,_,hv6⟩,⟨_,_,_,hv7⟩,⟨_,_,_,hv8⟩,⟨_,_,_,hv9⟩,⟨_,_,_,hv10⟩,⟨_,_,_,hv11⟩,-⟩:=hd;rw [hv0,hv1,hv2,hv3,hv4,hv5,hv6,hv7,hv8,hv9,hv10,hv11];clear hv0 hv1 hv2 hv3 hv4 hv5 hv6 hv7 hv8 hv9 hv10 hv11;have HBQ:=yq (HBL.out.trans ((zd hw).mono HBL.out.size));clear hw hj hap hdead;have HBZ:=yq (HB.out.trans (HBQ.out.mono HB.out.size))
      have q0:wq.cell? ⟨g,k * 2,none⟩=some (.int .i64 y.fb):=(zcr (zl HO.out HBZ.out) hlt).1.trans (by rw [HY.out])
      have q1:wq.cell? ⟨g,k * 2+1,none⟩=some (.string y.fa):=(zcr (zl HO.out HBZ.out) hlt).2.trans (by rw [HY.out])
      have x0:wq.cell? ⟨w.heap.size,0,none⟩=some (.int .i64 x.fb):=(HBQ.out.cell (p:=⟨w.heap.size,0,none⟩) (show w.heap.size < w0.heap.size by have:=HSZ.out;omega)).trans (za HX.out rfl)
      have x1:wq.cell? ⟨w.heap.size,1,none⟩=some (.string x.fa):=(HBQ.out.cell (p:=⟨w.heap.size,1,none⟩) (show w.heap.size < w0.heap.size by have:=HSZ.out;omega)).trans (za HX.out rfl)
      have hput:=HPL.out k hkk HLOW.out (fun _=>by rw [HY.out];exact HLB.out)
      rw [HY.out] at hput;clear HPL HBF HCK HC HLOW HLB HBL HBW
      by_cases hxy:y=x
      ·subst hxy
       have HE:=yq (show putL ltO y l=l from hput.elim (fun h=>h.2.2) fun h=>absurd rfl (h.1 hlt))
       clear hput;(go_wp2_with fail)
       go_quiet (fail)
       go_wp2;go_ret;refine ⟨g,c,?_⟩;rw [HE.out];exact ⟨rfl,zl HO.out (below_drewN HBZ.out _),below_drewN HBZ.out _⟩
      ·have HE:=yq (show putL ltO x l=l.take k ++ [x] ++ l.drop k from hput.elim (fun h=>absurd h.2.1 hxy) fun h=>h.2)
       clear hput;obtain ⟨yp,yn⟩:=y
       dsimp only at *
       by_cases h1:yp=x.fb
       ·subst h1
        have hne:yn≠x.fa:=fun e=>hxy (by subst e;rfl)
        have e2:(yn.toList == x.fa.toList)=false:=beq_eq_false_iff_ne.2 fun e=>hne (zea e)
        have e3:(x.fa.toList == yn.toList)=false:=beq_eq_false_iff_ne.2 fun e=>hne (zea e.symm)
        clear hxy hne;(go_wp2_with fail)
        go_quiet (fail)
        have hkc:k≤c:=Nat.le_trans hkk (zif HO.out).1
        have hkc2 : ¬ c=k:=by have:=(zif HO.out).1;omega
        have HBD:=yq (below_drewN HBZ.out nq)
        have HXL:=yq (show w.heap.size < (wq.drewN nq).heap.size from Nat.lt_of_lt_of_le (show w.heap.size < w0.heap.size by have:=HSZ.out;omega) HBQ.out.size)
        have X0:=yq (show (wq.drewN nq).cell? ⟨w.heap.size,0,none⟩=some (.int .i64 x.fb) from x0)
        have X1:=yq (show (wq.drewN nq).cell? ⟨w.heap.size,1,none⟩=some (.string x.fa) from x1)
        clear q0 q1 x0 x1;generalize wq.drewN nq=wz at HBD HXL X0 X1 ⊢;have HB9:=yq (HBD.out.alloc HBD.out.size (.cells #[] 87));have HTC:=yq (zff HO.out hkk);have HDC:=yq (zjr za3 HO.out hkk)
        go_wp2_with (first|(at_builtin;refine zp rfl (.tmp 34) (.tmp 37) 84 rfl w.heap.size 87 i0 (.agg #[.int .i64 0,.string ⟨#[]⟩]) 2 24 Tryz.underlying84 hi' hz0 hz1 hz2 rfl (by decide) _ 0 [] rfl (World.ownsRow_made _ #[] 0 HBD.out.size (Nat.zero_le _) rfl) ⟨g,0,none⟩ k c ((l.take k).flatMap zo) rfl (by rw [zbt,List.length_take,Nat.min_eq_left hkk]) (fun j u hj=>(HB9.out.cell (p:=(⟨g,0,none⟩:Addr).add j) (by rw [add_plain];exact HGL.out.2)).trans (HTC.out j u hj)) (zdl _) yl (by omega) HB9.out.size ?_;intro v6 w6 hown6 hgrow6 hat6;have hb6:Below wz.heap.size wz w6:=((Below.refl _ wz).alloc (Nat.le_refl _) _).grown hgrow6 (by simp) (fun r hr=>by injection hr with hr;exact Nat.le_of_eq hr);have p0:=(hb6.cell (p:=⟨w.heap.size,0,none⟩) HXL.out).trans X0.out;have p1:=(hb6.cell (p:=⟨w.heap.size,1,none⟩) HXL.out).trans X1.out;have HB6:=yq (HBD.out.trans (hb6.mono HBD.out.size));have HO6:=yq hown6;have HR6:=yq (fun r (h:v6.ownBlock=some r)=>(hown6.lt r h).1);clear hb6 hown6 hgrow6 hat6)|(at_builtin;refine zp rfl (.tmp 39) (.tmp 41) 84 rfl w.heap.size 87 i0 (.agg #[.int .i64 0,.string ⟨#[]⟩]) 2 24 Tryz.underlying84 hi' hz0 hz1 hz2 rfl (by decide) v6 (0+k) _ rfl (HO6.out.alloc _) ⟨w6.heap.size,0,none⟩ 1 1 (zo x) rfl rfl (zjw (ze rfl)) (by intro u hu;simp [zo] at hu;rcases hu with rfl|rfl<;>rfl) yl (by omega) (Nat.le_trans HB6.out.size (by simp)) ?_;intro v7 w7 hown7 hgrow7 hat7;have HB7:=yq ((HB6.out.alloc HB6.out.size (.cells #[.int .i64 x.fb,.string x.fa] 87)).grown hgrow7 (Nat.le_trans HB6.out.size (by simp)) HR6.out);have HO7:=yq hown7;have HR7:=yq (fun r (h:v7.ownBlock=some r)=>(hown7.lt r h).1);clear hown7 hgrow7 hat7)|(at_builtin;refine zp rfl (.tmp 43) (.tmp 46) 84 rfl w.heap.size 87 i0 (.agg #[.int .i64 0,.string ⟨#[]⟩]) 2 24 Tryz.underlying84 hi' hz0 hz1 hz2 rfl (by decide) v7 (0+k+1) _ rfl HO7.out ⟨g,k * 2,none⟩ (l.length - k) (c - k) ((l.drop k).flatMap zo) rfl (by rw [zbt,List.length_drop]) (fun j u hj=>(HB7.out.cell (p:=(⟨g,k * 2,none⟩:Addr).add j) (by rw [add_plain];exact HGL.out.2)).trans (HDC.out j u hj)) (zdl _) yl (by omega) HB7.out.size ?_;intro v8 w8 hown8 hgrow8 hat8;have HB8:=yq (HB7.out.grown hgrow8 HB7.out.size HR7.out);have HO8:=yq hown8;clear hown8 hgrow8 hat8))
        obtain ⟨g8,c8,e8,hB8,_⟩:=zc2 HO8.out (by omega)
        rw [e8];go_ret;refine ⟨g8,c8,?_⟩;have h8:=HO8.out;rw [e8] at h8
        have hlen:(l.take k ++ [x] ++ l.drop k).length=0+k+1+(l.length - k):=by rw [List.length_append,List.length_append,List.length_take,List.length_drop,Nat.min_eq_left hkk,List.length_singleton];omega
        rw [HE.out,hlen];refine ⟨rfl,?_,HB8.out⟩;rw [List.flatMap_append,List.flatMap_append];exact zee h8 (Nat.le_trans HGL.out.1 (Nat.le_trans (Nat.le_of_lt HGL.out.2) hB8))
       ·have e1:(yp == x.fb)=false:=beq_eq_false_iff_ne.2 h1
        have e2:(x.fb == yp)=false:=beq_eq_false_iff_ne.2 (Ne.symm h1);clear hxy h1;(go_wp2_with fail)
        go_quiet (fail)
        have hkc:k≤c:=Nat.le_trans hkk (zif HO.out).1
        have hkc2 : ¬ c=k:=by have:=(zif HO.out).1;omega
        have HBD:=yq (below_drewN HBZ.out nq)
        have HXL:=yq (show w.heap.size < (wq.drewN nq).heap.size from Nat.lt_of_lt_of_le (show w.heap.size < w0.heap.size by have:=HSZ.out;omega) HBQ.out.size)
        have X0:=yq (show (wq.drewN nq).cell? ⟨w.heap.size,0,none⟩=some (.int .i64 x.fb) from x0)
        have X1:=yq (show (wq.drewN nq).cell? ⟨w.heap.size,1,none⟩=some (.string x.fa) from x1)
        clear q0 q1 x0 x1;generalize wq.drewN nq=wz at HBD HXL X0 X1 ⊢;have HB9:=yq (HBD.out.alloc HBD.out.size (.cells #[] 87));have HTC:=yq (zff HO.out hkk);have HDC:=yq (zjr za3 HO.out hkk)
        go_wp2_with (first|(at_builtin;refine zp rfl (.tmp 34) (.tmp 37) 84 rfl w.heap.size 87 i0 (.agg #[.int .i64 0,.string ⟨#[]⟩]) 2 24 Tryz.underlying84 hi' hz0 hz1 hz2 rfl (by decide) _ 0 [] rfl (World.ownsRow_made _ #[] 0 HBD.out.size (Nat.zero_le _) rfl) ⟨g,0,none⟩ k c ((l.take k).flatMap zo) rfl (by rw [zbt,List.length_take,Nat.min_eq_left hkk]) (fun j u hj=>(HB9.out.cell (p:=(⟨g,0,none⟩:Addr).add j) (by rw [add_plain];exact HGL.out.2)).trans (HTC.out j u hj)) (zdl _) yl (by omega) HB9.out.size ?_;intro v6 w6 hown6 hgrow6 hat6;have hb6:Below wz.heap.size wz w6:=((Below.refl _ wz).alloc (Nat.le_refl _) _).grown hgrow6 (by simp) (fun r hr=>by injection hr with hr;exact Nat.le_of_eq hr);have p0:=(hb6.cell (p:=⟨w.heap.size,0,none⟩) HXL.out).trans X0.out;have p1:=(hb6.cell (p:=⟨w.heap.size,1,none⟩) HXL.out).trans X1.out;have HB6:=yq (HBD.out.trans (hb6.mono HBD.out.size));have HO6:=yq hown6;have HR6:=yq (fun r (h:v6.ownBlock=some r)=>(hown6.lt r h).1);clear hb6 hown6 hgrow6 hat6)|(at_builtin;refine zp rfl (.tmp 39) (.tmp 41) 84 rfl w.heap.size 87 i0 (.agg #[.int .i64 0,.string ⟨#[]⟩]) 2 24 Tryz.underlying84 hi' hz0 hz1 hz2 rfl (by decide) v6 (0+k) _ rfl (HO6.out.alloc _) ⟨w6.heap.size,0,none⟩ 1 1 (zo x) rfl rfl (zjw (ze rfl)) (by intro u hu;simp [zo] at hu;rcases hu with rfl|rfl<;>rfl) yl (by omega) (Nat.le_trans HB6.out.size (by simp)) ?_;intro v7 w7 hown7 hgrow7 hat7;have HB7:=yq ((HB6.out.alloc HB6.out.size (.cells #[.int .i64 x.fb,.string x.fa] 87)).grown hgrow7 (Nat.le_trans HB6.out.size (by simp)) HR6.out);have HO7:=yq hown7;have HR7:=yq (fun r (h:v7.ownBlock=some r)=>(hown7.lt r h).1);clear hown7 hgrow7 hat7)|(at_builtin;refine zp rfl (.tmp 43) (.tmp 46) 84 rfl w.heap.size 87 i0 (.agg #[.int .i64 0,.string ⟨#[]⟩]) 2 24 Tryz.underlying84 hi' hz0 hz1 hz2 rfl (by decide) v7 (0+k+1) _ rfl HO7.out ⟨g,k * 2,none⟩ (l.length - k) (c - k) ((l.drop k).flatMap zo) rfl (by rw [zbt,List.length_drop]) (fun j u hj=>(HB7.out.cell (p:=(⟨g,k * 2,none⟩:Addr).add j) (by rw [add_plain];exact HGL.out.2)).trans (HDC.out j u hj)) (zdl _) yl (by omega) HB7.out.size ?_;intro v8 w8 hown8 hgrow8 hat8;have HB8:=yq (HB7.out.grown hgrow8 HB7.out.size HR7.out);have HO8:=yq hown8;clear hown8 hgrow8 hat8))
        obtain ⟨g8,c8,e8,hB8,_⟩:=zc2 HO8.out (by omega)
        rw [e8];go_ret;refine ⟨g8,c8,?_⟩;have h8:=HO8.out;rw [e8] at h8
        have hlen:(l.take k ++ [x] ++ l.drop k).length=0+k+1+(l.length - k):=by rw [List.length_append,List.length_append,List.length_take,List.length_drop,Nat.min_eq_left hkk,List.length_singleton];omega
        rw [HE.out,hlen];refine ⟨rfl,?_,HB8.out⟩;rw [List.flatMap_append,List.flatMap_append];exact zee h8 (Nat.le_trans HGL.out.1 (Nat.le_trans (Nat.le_of_lt HGL.out.2) hB8))
   ·skip
    rw [hb] at HCK;have HLB:=yq hb;clear hb;generalize hy:l.getD k default=y at *;have HY:=yq hy;clear hy;(go_wp2_with fail);have hkk:=hk;clear hk
    refine zw [([],.none,[]),([],.none,[]),([1],.none,[]),([0,2],.none,[]),([3],.none,[]),([4],.none,[]),([4],.none,[]),([4,5,6],.none,[]),([4,7],.none,[]),([4],.none,[]),([4,8,9],.none,[]),([4,10],.none,[])] [0,1,2,3,4,5,6,7,8,9,10,11] [] (fun _=>False) (fun _=>True) (fun _=>0) (fun jq9 V L H wx=>match jq9 with|0=>V 0 = .int .i64 (k:Int)|1=>V 1 = .slice (some ⟨g,0,none⟩) l.length c|2=>V 2 = .int .i64 (l.length:Int)|3=>V 3 = .bool true|4=>V 4 = .bool true|5=>V 5 = .slice (some ⟨g,0,none⟩) l.length c|6=>V 6 = .int .i64 (k:Int)|7=>V 7 = .pointer (some ⟨g,k * 2,none⟩)|8=>V 8 = .agg #[.int .i64 y.fb,.string y.fa]|9=>V 9 = .agg #[.int .i64 x.fb,.string x.fa]|10=>V 10 = .bool true|11=>V 11 = .bool true|_=>True) (by kernel_rfl) (by kernel_rfl) ?obs (fun _ h=>h.elim) trivial (fun _ _ _ _ _=>trivial) ?loc ?lasts ?walk
    case obs =>
     trivial
    case loc =>
     intro k V V' L H wx h0 h1 hG
     match k with
     | 0 =>
      (try dsimp only at hG ⊢);rw [← h0];exact hG
     | 1 =>
      (try dsimp only at hG ⊢);rw [← h0];exact hG
     | 2 =>
      (try dsimp only at hG ⊢);rw [← h0];exact hG
     | 3 =>
      (try dsimp only at hG ⊢);rw [← h0];exact hG
     | 4 =>
      (try dsimp only at hG ⊢);rw [← h0];exact hG
     | 5 =>
      (try dsimp only at hG ⊢);rw [← h0];exact hG
     | 6 =>
      (try dsimp only at hG ⊢);rw [← h0];exact hG
     | 7 =>
      (try dsimp only at hG ⊢);rw [← h0];exact hG
     | 8 =>
      (try dsimp only at hG ⊢);rw [← h0];exact hG
     | 9 =>
      (try dsimp only at hG ⊢);rw [← h0];exact hG
     | 10 =>
      (try dsimp only at hG ⊢);rw [← h0];exact hG
     | 11 =>
      (try dsimp only at hG ⊢);rw [← h0];exact hG
     | n+12=>trivial
    case lasts =>
     intro i hi V L H wx wy hB hH hk
     match i,hi with
     | 0,_=>exact fun h=>h
     | 1,_=>exact fun h=>h
     | 2,_=>exact fun h=>h
     | 3,_=>exact fun h=>h
     | 4,_=>exact fun h=>h
     | 5,_=>exact fun h=>h
     | 6,_=>exact fun h=>h
     | 7,_=>exact fun h=>h
     | 8,_=>exact fun h=>h
     | 9,_=>exact fun h=>h
     | 10,_=>exact fun h=>h
     | 11,_=>exact fun h=>h
     | n+12,hn=>exact absurd hn (by simp)
    case walk =>
     simp (maxSteps:=4000000) only [zda,Nat.reduceAdd,Act.put,List.setIfInBounds_toArray,List.set_cons_succ,List.set_cons_zero]
     refine ⟨?_,?_,?_,?_,?_,?_,?_,?_,?_,?_,?_,?_,?_⟩
     ·intro V L H wq hw hk hj hd
      clear hd;(go_wp2_with fail);exact zc _ rfl ⟨⟨WritesF.refl _ _,hj⟩,zb⟩
     ·intro V L H wq hw hk hj hd
      clear hd;(go_wp2_with fail);exact zc _ rfl ⟨⟨WritesF.refl _ _,hj⟩,zb⟩
     ·intro V L H wq hw hk hj hd
      obtain ⟨⟨_,_,_,hv1⟩,-⟩:=hd;rw [hv1];have HV1:=yq hv1;clear hv1;(go_wp2_with fail);exact zc _ rfl ⟨⟨WritesF.refl _ _,hj⟩,zb⟩
     ·intro V L H wq hw hk hj hd
      obtain ⟨⟨_,_,_,hv0⟩,⟨_,_,_,hv2⟩,-⟩:=hd;rw [hv0,hv2];have HV0:=yq hv0;have HV2:=yq hv2;clear hv0 hv2;(go_wp2_with fail);exact zc _ rfl ⟨⟨WritesF.refl _ _,hj⟩,zb⟩
     ·intro V L H wq hw hk hj hd
      obtain ⟨⟨_,_,_,hv3⟩,-⟩:=hd;rw [hv3];have HV3:=yq hv3;clear hv3;(go_wp2_with fail);exact zc _ rfl ⟨⟨WritesF.refl _ _,hj⟩,zb⟩
     ·intro V L H wq hw hk hj hd
      obtain ⟨⟨_,_,_,hv4⟩,-⟩:=hd;rw [hv4];have HV4:=yq hv4;clear hv4;(go_wp2_with fail);exact zc _ rfl ⟨⟨WritesF.refl _ _,hj⟩,zb⟩
     ·intro V L H wq hw hk hj hd
      obtain ⟨⟨_,_,_,hv4⟩,-⟩:=hd;rw [hv4];have HV4:=yq hv4;clear hv4;(go_wp2_with fail);exact zc _ rfl ⟨⟨WritesF.refl _ _,hj⟩,zb⟩
     ·intro V L H wq hw hk hj hd
      obtain ⟨⟨_,_,_,hv4⟩,⟨_,_,_,hv5⟩,⟨_,_,_,hv6⟩,-⟩:=hd;rw [hv4,hv5,hv6];have HV4:=yq hv4;have HV5:=yq hv5;have HV6:=yq hv6;clear hv4 hv5 hv6;(go_wp2_with fail);exact zc _ rfl ⟨⟨WritesF.refl _ _,hj⟩,zb⟩
     ·intro V L H wq hw hk hj hd
      obtain ⟨⟨_,_,_,hv4⟩,⟨_,_,_,hv7⟩,-⟩:=hd;rw [hv4,hv7];have HV4:=yq hv4;have HV7:=yq hv7;clear hv4 hv7
      have q0:wq.cell? ⟨g,k * 2,none⟩=some (.int .i64 y.fb):=(hk.cell (p:=⟨g,k * 2,none⟩) ⟨(show g < wr.heap.size from Nat.lt_of_lt_of_le HGL.out.2 HBW.out.size),fun h=>h,trivial⟩ (show g < wr.heap.size from Nat.lt_of_lt_of_le HGL.out.2 HBW.out.size)).trans HC.out.1
      have q1:wq.cell? ⟨g,k * 2+1,none⟩=some (.string y.fa):=(hk.cell (p:=⟨g,k * 2+1,none⟩) ⟨(show g < wr.heap.size from Nat.lt_of_lt_of_le HGL.out.2 HBW.out.size),fun h=>h,trivial⟩ (show g < wr.heap.size from Nat.lt_of_lt_of_le HGL.out.2 HBW.out.size)).trans HC.out.2
      (go_wp2_with fail);exact zc _ rfl ⟨⟨WritesF.refl _ _,hj⟩,zb⟩
     ·intro V L H wq hw hk hj hd
      obtain ⟨⟨_,_,_,hv4⟩,-⟩:=hd;rw [hv4];have HV4:=yq hv4;clear hv4
      have x0:wq.cell? ⟨w.heap.size,0,none⟩=some (.int .i64 x.fb):=(hk.cell (p:=⟨w.heap.size,0,none⟩) ⟨(show w.heap.size < wr.heap.size by have:=HSZ.out;have:=HBL.out.size;omega),fun h=>h,trivial⟩ (show w.heap.size < wr.heap.size by have:=HSZ.out;have:=HBL.out.size;omega)).trans ((HBL.out.cell (p:=⟨w.heap.size,0,none⟩) (show w.heap.size < w0.heap.size by have:=HSZ.out;omega)).trans (za HX.out rfl))
      have x1:wq.cell? ⟨w.heap.size,1,none⟩=some (.string x.fa):=(hk.cell (p:=⟨w.heap.size,1,none⟩) ⟨(show w.heap.size < wr.heap.size by have:=HSZ.out;have:=HBL.out.size;omega),fun h=>h,trivial⟩ (show w.heap.size < wr.heap.size by have:=HSZ.out;have:=HBL.out.size;omega)).trans ((HBL.out.cell (p:=⟨w.heap.size,1,none⟩) (show w.heap.size < w0.heap.size by have:=HSZ.out;omega)).trans (za HX.out rfl))
      (go_wp2_with fail);exact zc _ rfl ⟨⟨WritesF.refl _ _,hj⟩,zb⟩
     ·intro V L H wq hw hk hj hd
      obtain ⟨⟨_,_,_,hv4⟩,⟨_,_,_,hv8⟩,⟨_,_,_,hv9⟩,-⟩:=hd;rw [hv4,hv8,hv9];have HV4:=yq hv4;have HV8:=yq hv8;have HV9:=yq hv9;clear hv4 hv8 hv9;(go_wp2_with fail);refine (HCK.out wq).mono ?_;rintro e w2 ⟨rfl,hb2⟩;(go_wp2_with fail);exact zc _ rfl ⟨⟨(WritesF.refl _ _).later hb2,trivial⟩,zb⟩
     ·intro V L H wq hw hk hj hd
      obtain ⟨⟨_,_,_,hv4⟩,⟨_,_,_,hv10⟩,-⟩:=hd;rw [hv4,hv10];have HV4:=yq hv4;have HV10:=yq hv10;clear hv4 hv10;(go_wp2_with fail);exact zc _ rfl ⟨⟨WritesF.refl _ _,hj⟩,zb⟩
     ·intro V L H wq hw hj hd hap hdead
      obtain ⟨⟨_,_,_,hv0⟩,⟨_,_,_,hv1⟩,⟨_,_,_,hv2⟩,⟨_,_,_,hv3⟩,⟨_,_,_,hv4⟩,⟨_,_,_,hv5⟩,⟨_,_,_,hv6⟩,⟨_,_,_,hv7⟩,⟨_,_,_,hv8⟩,⟨_,_,_,hv9⟩,⟨_,_,_,hv10⟩,⟨_,_,_,hv11⟩,-⟩:=hd;rw [hv0,hv1,hv2,hv3,hv4,hv5,hv6,hv7,hv8,hv9,hv10,hv11];clear hv0 hv1 hv2 hv3 hv4 hv5 hv6 hv7 hv8 hv9 hv10 hv11;have HBQ:=yq (HBL.out.trans ((zd hw).mono HBL.out.size));clear hw hj hap hdead;go_wp2;go_roundw
      case rel=>exact ⟨k+1,by omega,by go_num,fun j hj=>by
        rcases Nat.lt_or_ge j k with h|h
        ·exact HLOW.out j h
        ·obtain rfl:j=k:=by omega
         rw [HY.out];exact HLB.out,HBQ.out⟩
      case measure=>simp [intOf];omega
  ·have hkk:=hk
   have hke:l.length=k:=by omega
   have hd:decide ((k:Int) < (l.length:Int))=false:=by rw [hke];simp
   clear hke
   have hput:=HPL.out k hkk HLOW.out (fun h=>absurd h hlt)
   have HE:=yq (show putL ltO x l=l.take k ++ [x] ++ l.drop k from hput.elim (fun h=>absurd h.1 hlt) fun h=>h.2)
   clear hput HPL HBF HLOW hk;(go_wp2_with fail)
   go_quiet (fail)
   have HBQ:=yq (below_drewN HBL.out nq);have HBZ:=yq (below_drewN HBW.out nq);generalize wr.drewN nq=wq at HBQ HBZ ⊢
   have x0:wq.cell? ⟨w.heap.size,0,none⟩=some (.int .i64 x.fb):=(HBQ.out.cell (p:=⟨w.heap.size,0,none⟩) (show w.heap.size < w0.heap.size by have:=HSZ.out;omega)).trans (za HX.out rfl)
   have x1:wq.cell? ⟨w.heap.size,1,none⟩=some (.string x.fa):=(HBQ.out.cell (p:=⟨w.heap.size,1,none⟩) (show w.heap.size < w0.heap.size by have:=HSZ.out;omega)).trans (za HX.out rfl)
   clear HBL HBW;(go_wp2_with fail)
   go_quiet (fail)
   by_cases hc:c=k
   ·have hc2:k=c:=hc.symm
    clear hc;subst hc2;have hkc:k≤k:=Nat.le_refl _;skip;have HBD:=yq (below_drewN HBZ.out nq)
    have HXL:=yq (show w.heap.size < (wq.drewN nq).heap.size from Nat.lt_of_lt_of_le (show w.heap.size < w0.heap.size by have:=HSZ.out;omega) HBQ.out.size)
    have X0:=yq (show (wq.drewN nq).cell? ⟨w.heap.size,0,none⟩=some (.int .i64 x.fb) from x0)
    have X1:=yq (show (wq.drewN nq).cell? ⟨w.heap.size,1,none⟩=some (.string x.fa) from x1)
    clear x0 x1;generalize wq.drewN nq=wz at HBD HXL X0 X1 ⊢;have HB9:=yq (HBD.out.alloc HBD.out.size (.cells #[] 87));have HTC:=yq (zff HO.out hkk);have HDC:=yq (zjr za3 HO.out hkk)
    go_wp2_with (first|(at_builtin;refine zp rfl (.tmp 34) (.tmp 37) 84 rfl w.heap.size 87 i0 (.agg #[.int .i64 0,.string ⟨#[]⟩]) 2 24 Tryz.underlying84 hi' hz0 hz1 hz2 rfl (by decide) _ 0 [] rfl (World.ownsRow_made _ #[] 0 HBD.out.size (Nat.zero_le _) rfl) ⟨g,0,none⟩ k k ((l.take k).flatMap zo) rfl (by rw [zbt,List.length_take,Nat.min_eq_left hkk]) (fun j u hj=>(HB9.out.cell (p:=(⟨g,0,none⟩:Addr).add j) (by rw [add_plain];exact HGL.out.2)).trans (HTC.out j u hj)) (zdl _) yl (by omega) HB9.out.size ?_;intro v6 w6 hown6 hgrow6 hat6;have hb6:Below wz.heap.size wz w6:=((Below.refl _ wz).alloc (Nat.le_refl _) _).grown hgrow6 (by simp) (fun r hr=>by injection hr with hr;exact Nat.le_of_eq hr);have p0:=(hb6.cell (p:=⟨w.heap.size,0,none⟩) HXL.out).trans X0.out;have p1:=(hb6.cell (p:=⟨w.heap.size,1,none⟩) HXL.out).trans X1.out;have HB6:=yq (HBD.out.trans (hb6.mono HBD.out.size));have HO6:=yq hown6;have HR6:=yq (fun r (h:v6.ownBlock=some r)=>(hown6.lt r h).1);clear hb6 hown6 hgrow6 hat6)|(at_builtin;refine zp rfl (.tmp 39) (.tmp 41) 84 rfl w.heap.size 87 i0 (.agg #[.int .i64 0,.string ⟨#[]⟩]) 2 24 Tryz.underlying84 hi' hz0 hz1 hz2 rfl (by decide) v6 (0+k) _ rfl (HO6.out.alloc _) ⟨w6.heap.size,0,none⟩ 1 1 (zo x) rfl rfl (zjw (ze rfl)) (by intro u hu;simp [zo] at hu;rcases hu with rfl|rfl<;>rfl) yl (by omega) (Nat.le_trans HB6.out.size (by simp)) ?_;intro v7 w7 hown7 hgrow7 hat7;have HB7:=yq ((HB6.out.alloc HB6.out.size (.cells #[.int .i64 x.fb,.string x.fa] 87)).grown hgrow7 (Nat.le_trans HB6.out.size (by simp)) HR6.out);have HO7:=yq hown7;have HR7:=yq (fun r (h:v7.ownBlock=some r)=>(hown7.lt r h).1);clear hown7 hgrow7 hat7)|(at_builtin;refine zp rfl (.tmp 43) (.tmp 46) 84 rfl w.heap.size 87 i0 (.agg #[.int .i64 0,.string ⟨#[]⟩]) 2 24 Tryz.underlying84 hi' hz0 hz1 hz2 rfl (by decide) v7 (0+k+1) _ rfl HO7.out ⟨g,0,none⟩ (l.length - k) _ ((l.drop k).flatMap zo) rfl (by rw [zbt,List.length_drop]) (fun j u hj=>by rw [List.drop_eq_nil_of_le (by omega)] at hj;cases hj) (zdl _) yl (by omega) HB7.out.size ?_;intro v8 w8 hown8 hgrow8 hat8;have HB8:=yq (HB7.out.grown hgrow8 HB7.out.size HR7.out);have HO8:=yq hown8;clear hown8 hgrow8 hat8))
    obtain ⟨g8,c8,e8,hB8,_⟩:=zc2 HO8.out (by omega)
    rw [e8];go_ret;refine ⟨g8,c8,?_⟩;have h8:=HO8.out;rw [e8] at h8
    have hlen:(l.take k ++ [x] ++ l.drop k).length=0+k+1+(l.length - k):=by rw [List.length_append,List.length_append,List.length_take,List.length_drop,Nat.min_eq_left hkk,List.length_singleton];omega
    rw [HE.out,hlen];refine ⟨rfl,?_,HB8.out⟩;rw [List.flatMap_append,List.flatMap_append];exact zee h8 (Nat.le_trans HGL.out.1 (Nat.le_trans (Nat.le_of_lt HGL.out.2) hB8))
   ·have hkc2 : ¬ c=k:=hc
    have hkc:k≤c:=Nat.le_trans hkk (zif HO.out).1;skip;have HBD:=yq (below_drewN HBZ.out nq)
    have HXL:=yq (show w.heap.size < (wq.drewN nq).heap.size from Nat.lt_of_lt_of_le (show w.heap.size < w0.heap.size by have:=HSZ.out;omega) HBQ.out.size)
    have X0:=yq (show (wq.drewN nq).cell? ⟨w.heap.size,0,none⟩=some (.int .i64 x.fb) from x0)
    have X1:=yq (show (wq.drewN nq).cell? ⟨w.heap.size,1,none⟩=some (.string x.fa) from x1)
    clear x0 x1;generalize wq.drewN nq=wz at HBD HXL X0 X1 ⊢;have HB9:=yq (HBD.out.alloc HBD.out.size (.cells #[] 87));have HTC:=yq (zff HO.out hkk);have HDC:=yq (zjr za3 HO.out hkk)
    go_wp2_with (first|(at_builtin;refine zp rfl (.tmp 34) (.tmp 37) 84 rfl w.heap.size 87 i0 (.agg #[.int .i64 0,.string ⟨#[]⟩]) 2 24 Tryz.underlying84 hi' hz0 hz1 hz2 rfl (by decide) _ 0 [] rfl (World.ownsRow_made _ #[] 0 HBD.out.size (Nat.zero_le _) rfl) ⟨g,0,none⟩ k c ((l.take k).flatMap zo) rfl (by rw [zbt,List.length_take,Nat.min_eq_left hkk]) (fun j u hj=>(HB9.out.cell (p:=(⟨g,0,none⟩:Addr).add j) (by rw [add_plain];exact HGL.out.2)).trans (HTC.out j u hj)) (zdl _) yl (by omega) HB9.out.size ?_;intro v6 w6 hown6 hgrow6 hat6;have hb6:Below wz.heap.size wz w6:=((Below.refl _ wz).alloc (Nat.le_refl _) _).grown hgrow6 (by simp) (fun r hr=>by injection hr with hr;exact Nat.le_of_eq hr);have p0:=(hb6.cell (p:=⟨w.heap.size,0,none⟩) HXL.out).trans X0.out;have p1:=(hb6.cell (p:=⟨w.heap.size,1,none⟩) HXL.out).trans X1.out;have HB6:=yq (HBD.out.trans (hb6.mono HBD.out.size));have HO6:=yq hown6;have HR6:=yq (fun r (h:v6.ownBlock=some r)=>(hown6.lt r h).1);clear hb6 hown6 hgrow6 hat6)|(at_builtin;refine zp rfl (.tmp 39) (.tmp 41) 84 rfl w.heap.size 87 i0 (.agg #[.int .i64 0,.string ⟨#[]⟩]) 2 24 Tryz.underlying84 hi' hz0 hz1 hz2 rfl (by decide) v6 (0+k) _ rfl (HO6.out.alloc _) ⟨w6.heap.size,0,none⟩ 1 1 (zo x) rfl rfl (zjw (ze rfl)) (by intro u hu;simp [zo] at hu;rcases hu with rfl|rfl<;>rfl) yl (by omega) (Nat.le_trans HB6.out.size (by simp)) ?_;intro v7 w7 hown7 hgrow7 hat7;have HB7:=yq ((HB6.out.alloc HB6.out.size (.cells #[.int .i64 x.fb,.string x.fa] 87)).grown hgrow7 (Nat.le_trans HB6.out.size (by simp)) HR6.out);have HO7:=yq hown7;have HR7:=yq (fun r (h:v7.ownBlock=some r)=>(hown7.lt r h).1);clear hown7 hgrow7 hat7)|(at_builtin;refine zp rfl (.tmp 43) (.tmp 46) 84 rfl w.heap.size 87 i0 (.agg #[.int .i64 0,.string ⟨#[]⟩]) 2 24 Tryz.underlying84 hi' hz0 hz1 hz2 rfl (by decide) v7 (0+k+1) _ rfl HO7.out ⟨g,k * 2,none⟩ (l.length - k) (c - k) ((l.drop k).flatMap zo) rfl (by rw [zbt,List.length_drop]) (fun j u hj=>(HB7.out.cell (p:=(⟨g,k * 2,none⟩:Addr).add j) (by rw [add_plain];exact HGL.out.2)).trans (HDC.out j u hj)) (zdl _) yl (by omega) HB7.out.size ?_;intro v8 w8 hown8 hgrow8 hat8;have HB8:=yq (HB7.out.grown hgrow8 HB7.out.size HR7.out);have HO8:=yq hown8;clear hown8 hgrow8 hat8))
    obtain ⟨g8,c8,e8,hB8,_⟩:=zc2 HO8.out (by omega)
    rw [e8];go_ret;refine ⟨g8,c8,?_⟩;have h8:=HO8.out;rw [e8] at h8
    have hlen:(l.take k ++ [x] ++ l.drop k).length=0+k+1+(l.length - k):=by rw [List.length_append,List.length_append,List.length_take,List.length_drop,Nat.min_eq_left hkk,List.length_singleton];omega
    rw [HE.out,hlen];refine ⟨rfl,?_,HB8.out⟩;rw [List.flatMap_append,List.flatMap_append];exact zee h8 (Nat.le_trans HGL.out.1 (Nat.le_trans (Nat.le_of_lt HGL.out.2) hB8))
instance decOcc:DecidableEq DOccurrence:=fun a b =>
 if h:a.fb=b.fb∧a.fa=b.fa then isTrue (by cases a;cases b;simp only at h;rw [h.1,h.2]) else isFalse (fun e=>h (by rw [e];exact ⟨rfl,rfl⟩))
theorem zen (l:List DOccurrence) (k:Nat):l.toArray[k]! = l.getD k default:=by
 rw [List.getD_eq_getElem?_getD,Array.getElem!_eq_getD,Array.getD_eq_getD_getElem?,List.getElem?_toArray]
theorem zui (d:Array DOccurrence) (k:Nat):d.toList.getD k default=d[k]!:=by
 rw [List.getD_eq_getElem?_getD,Array.getElem!_eq_getD,Array.getD_eq_getD_getElem?,Array.getElem?_toList]
theorem zpn (x:DOccurrence) : ∀ (l:List DOccurrence) (k:Nat),(l.set k x).flatMap zo=((l.flatMap zo).set (k * 2) (.int .i64 x.fb)).set (k * 2+1) (.string x.fa)
 | [],_=>by simp
 | y :: l,0=>by simp [zo]
 | y :: l,k+1=>by
  have ih:=zpn x l k;rw [List.set_cons_succ,List.flatMap_cons,List.flatMap_cons,ih]
  rw [show (k+1) * 2=k * 2+1+1 by omega]
  rfl
theorem zv7 {w:World} {B g c k:Nat} {l:List DOccurrence} (x:DOccurrence) (h:w.ownsRow B 87 2 (.slice (some ⟨g,0,none⟩) l.length c) l.length (l.flatMap zo)) :
  ((w.setCell ⟨g,k * 2,none⟩ (.int .i64 x.fb)).setCell ⟨g,k * 2+1,none⟩ (.string x.fa)).ownsRow B 87 2 (.slice (some ⟨g,0,none⟩) l.length c) l.length ((l.set k x).flatMap zo):=by
 rw [zpn];exact ((h.stored (k * 2) _).1.stored (k * 2+1) _).1
theorem zka (z0 z1:Value) (n:Nat):(Builtin.zeroCells #[z0,z1] n).size=n * 2:=by simp [Builtin.zeroCells]
theorem zug (z0 z1:Value) (h0:z0.oneCell'=true) (h1:z1.oneCell'=true) (n:Nat) : ∀ v ∈ (Builtin.zeroCells #[z0,z1] n).toList,v.oneCell'=true:=by
 intro v hv
 simp only [Builtin.zeroCells,Array.toList_map,List.mem_map] at hv
 obtain ⟨i,_,rfl⟩:=hv
 have h2:i % 2=0∨i % 2=1:=by omega
 rcases h2 with h2|h2
 ·simp [h2,h0]
 ·simp [h2,h1]
theorem zsw {P:Program} (w:World) (t e:TypeId) (z:Value) (z0 z1:Value) (ht:P.underlying t=some (.slice e)) (hv : ∀ w,(zeroValue e).run P w = .ok z w) (hz:z.cells = #[z0,z1]) (h0:z0.oneCell'=true) (h1:z1.oneCell'=true) (b o n c:Nat) (hn:0 < n)
  (hc : ∀ j,j < n * 2→(w.cell? ⟨b,o+j,none⟩).isSome=true) (hf : ∀ j,j < n * 2→w.frozen? ⟨b,o+j,none⟩=false) :
  ∃ us:List Value,∀ ty,(Builtin.clear_ #[t] ty #[.slice (some ⟨b,o,none⟩) n c]).run P w = .ok (.tuple #[]) (w.setCells b o us):=by
 refine ⟨(Builtin.zeroCells #[z0,z1] n).toList,fun ty=>?_⟩
 have hst:=run_storeCells_cells (P:=P) b o (Builtin.zeroCells #[z0,z1] n).toList 0 w (by simpa [zka] using hc) (by simpa [zka] using hf) (zug z0 z1 h0 h1 n)
 simp only [Nat.add_zero] at hst
 obtain ⟨m,rfl⟩ : ∃ m,n=m+1:=⟨n - 1,by omega⟩
 simp [Builtin.clear_,run_underlying ht,hv,hz,hst]
theorem zpf {B g c kk:Nat} {e:TypeId} {l:List DOccurrence} : ∀ (us:List Value) (w:World) (o:Nat) (xs:List Value),kk * 2≤o→w.ownsRow B e 2 (.slice (some ⟨g,0,none⟩) l.length c) l.length xs→xs.take (kk * 2)=(l.take kk).flatMap zo →
  ∃ ys,(w.setCells g o us).ownsRow B e 2 (.slice (some ⟨g,0,none⟩) l.length c) l.length ys∧ys.take (kk * 2)=(l.take kk).flatMap zo
 | [],w,o,xs,_,h,ht=>⟨xs,h,ht⟩
 | u :: us,w,o,xs,ho,h,ht=>zpf us _ (o+1) (xs.set o u) (by omega) (h.stored o u).1 (by rw [List.take_set_of_le ho];exact ht)
theorem zxn {w:World} {B g c r n:Nat} {e:TypeId} {xs:List Value} {l:List DOccurrence} (h:w.ownsRow B e 2 (.slice (some ⟨g,0,none⟩) n c) n xs) (hr:r≤n) (hl:l.length=r) (ht:xs.take (r * 2)=l.flatMap zo) :
  w.ownsRow B e 2 (.slice (some ⟨g,0,none⟩) l.length c) l.length (l.flatMap zo):=by
 refine ⟨by rw [zbt],?_⟩
 rcases h.2 with ⟨e0,_⟩|⟨g',cap,cur,e0,hB,hg,hle,hcm,hs,ht'⟩
 ·cases e0
 ·simp only [Value.slice.injEq,Option.some.injEq,Addr.mk.injEq,and_true,true_and] at e0
  obtain ⟨rfl,rfl⟩:=e0
  refine .inr ⟨g,c,cur,by rw [hl],hB,hg,by omega,hcm,hs,?_⟩
  rw [← ht,← ht',List.take_take,Nat.min_eq_left (by omega),hl]
theorem zer {w0:World} {g:Nat} : ∀ (us:List Value) (w:World) (o:Nat),WritesF (fun y=>y=g) w0 w→WritesF (fun y=>y=g) w0 (w.setCells g o us)
 | [],w,o,h=>h
 | u :: us,w,o,h=>zer us _ (o+1) ⟨h.os,h.tape,h.output,by rw [show (w.setCell ⟨g,o,none⟩ u).heap.size=w.heap.size by simp [World.setCell]];exact h.size,fun k hk hn=>(Below.heap_setCell _ _ _ _ hn).trans (h.block k hk hn)⟩
theorem zqy {B:Nat} {a:Option Addr} {c:Nat} (l:List DOccurrence) (hl:l.length≤1099511627776) (w:World) (hown:w.ownsRow B 87 2 (.slice a l.length c) l.length (l.flatMap zo)) :
  Calls Tryz.prog 91 #[.slice a l.length c] w fun e w'=>e = .returned (.slice a (zaa ltO l).length c)∧w'.ownsRow B 87 2 (.slice a (zaa ltO l).length c) (zaa ltO l).length ((zaa ltO l).flatMap zo)∧(∀ b0,(∀ g,a=some ⟨g,0,none⟩→b0≤g)→Below b0 w w'):=by
 have HR:=yq (zup ze0 l)
 have same : ∀ w':World,(∀ j,j < l.length→Go.Lib.keeps l.toArray j=true)→w'.ownsRow B 87 2 (.slice a l.length c) l.length (l.flatMap zo)→Ending.returned (.slice a l.length c) = .returned (.slice a (zaa ltO l).length c)∧w'.ownsRow B 87 2 (.slice a (zaa ltO l).length c) (zaa ltO l).length ((zaa ltO l).flatMap zo):=by
  intro w' hall h
  have e:zaa ltO l=l:=by
   rw [← HR.out,Go.Lib.compactUpTo_all _ _ hall]
   have:=Go.Lib.range_map_get l.toArray
   simpa using this
  rw [e];exact ⟨rfl,h⟩
 have HS:=yq same;have HO:=yq hown;clear same hown
 by_cases h2:l.length < 2
 ·have hlI:(l.length:Int) < 2:=by omega
  go_enter Tryz.func91,Tryz.ntmps91
  go_wp2;go_ret
  obtain ⟨e1,e2⟩:=HS.out w (fun j hj=>Go.Lib.keeps_lt_one _ j (by omega)) HO.out
  exact ⟨e1,e2,fun b0 _=>Below.refl _ _⟩
 ·obtain ⟨rfl,h9,_⟩|⟨g,rfl,hc1,hc2,hBg,hgl⟩:=zuy HO.out
  ·omega
  have hlI : ¬ ((l.length:Int) < 2):=by omega
  generalize hn:l.length=n at *;have HN:=yq hn;clear hn
  go_enter Tryz.func91,Tryz.ntmps91
  go_wp2
  go_loopw [3] (fun s3 wr=>∃ k:Nat,1≤k∧k≤n∧s3 = .int .i64 (k:Int)∧wr.ownsRow B 87 2 (.slice (some ⟨g,0,none⟩) n c) n (l.flatMap zo)∧WritesF (fun y=>y=g) w wr ∧ ∀ j,j < k→Go.Lib.keeps l.toArray j=true) (fun s3 _=>n - (intOf s3).toNat)
  case atStart=>exact ⟨1,Nat.le_refl _,by omega,rfl,HO.out,WritesF.refl _ _,Go.Lib.keeps_lt_one _⟩
  case round =>
   obtain ⟨k,hk1,hk,rfl,hor,hwr,hall⟩:=hrel;have HALL:=yq hall;have HOR:=yq hor;have HWR:=yq hwr;clear hall hwr
   by_cases hlt:k < n
   ·rw [← HN.out] at hor
    obtain ⟨c0,c1⟩:=zcr hor (k:=k) (by rw [HN.out];omega)
    obtain ⟨p0,p1⟩:=zcr hor (k:=k - 1) (by rw [HN.out];omega)
    clear hor
    have hkI:(0:Int)≤(k:Int)∧(k:Int) < (n:Int):=by omega
    have hk2:(0:Int)≤(k:Int) - 1∧(k:Int) - 1 < (n:Int):=by omega
    by_cases hdup:l.getD k default=l.getD (k - 1) default
    ·have HDUP:=yq (show Go.Lib.keeps l.toArray k=false from Go.Lib.keeps_neg (by omega) (by rw [zen,zen];exact hdup))
     rw [hdup] at c0 c1;clear hdup;generalize l.getD (k - 1) default=y at *;(go_wp2_with fail)
     go_quiet (fail)
     go_wp2
     go_loopw [3,5] (fun s3 s5 wx=>∃ (kk k2:Nat) (dk:Array DOccurrence),s3 = .int .i64 (kk:Int)∧s5 = .int .i64 (k2:Int)∧1≤k2∧k+k2≤n∧wx.ownsRow B 87 2 (.slice (some ⟨g,0,none⟩) n c) n (dk.toList.flatMap zo)∧WritesF (fun y=>y=g) w wx∧Go.Lib.CompInv l.toArray (k+k2) kk dk) (fun _ s5 _=>n - k - (intOf s5).toNat)
     case atStart=>exact ⟨k,1,l.toArray,rfl,rfl,Nat.le_refl _,by omega,HOR.out,HWR.out.later (below_drewN (Below.refl _ _) _),Go.Lib.CompInv.start HALL.out HDUP.out⟩
     case round =>
      obtain ⟨kk,k2,dk,rfl,rfl,hk21,hle,ho,hw,hI⟩:=hrel;have hkk:=hI.lt
      have hln:dk.toList.length=n:=by rw [Array.length_toList,hI.size,← HN.out];simp
      have HLN:=yq hln;have HI:=yq hI;have HOX:=yq ho;have HWX:=yq hw;clear hw c0 c1 p0 p1 hkI hk2
      by_cases hlt2:k+k2 < n
      ·rw [← hln] at ho
       obtain ⟨cm0,cm1⟩:=zcr ho (k:=k+k2) (by omega)
       obtain ⟨cp0,cp1⟩:=zcr ho (k:=k+k2 - 1) (by omega)
       obtain ⟨ck0,ck1⟩:=zcr ho (k:=kk) (by omega)
       have fk0:=ho.frozenAt (kk * 2);have fk1:=ho.frozenAt (kk * 2+1)
       rw [zui,hI.high (k+k2) (by omega),zen,show (k+k2) * 2=k * 2+k2 * 2 by omega] at cm0 cm1
       rw [zui,hI.high (k+k2 - 1) (by omega),zen,show (k+k2 - 1) * 2=k * 2+(k2 - 1) * 2 by omega] at cp0 cp1
       clear ho hI hln
       have hkI:(0:Int)≤(k2:Int)∧(k2:Int) < ((n - k:Nat):Int):=by omega
       have hk2:(0:Int)≤(k2:Int) - 1∧(k2:Int) - 1 < ((n - k:Nat):Int):=by omega
       generalize dk.toList.getD kk default=old at ck0 ck1
       by_cases hd2:l.getD (k+k2) default=l.getD (k+k2 - 1) default
       ·have HD2:=yq (show Go.Lib.keeps l.toArray (k+k2)=false from Go.Lib.keeps_neg (by omega) (by rw [zen,zen];exact hd2))
        rw [hd2] at cm0 cm1;clear hd2;generalize l.getD (k+k2 - 1) default=y2 at *;(go_wp2_with fail)
        go_quiet (fail)
        go_wp2;go_roundw
        case rel=>exact ⟨kk,k2+1,dk,rfl,by go_num,by omega,by omega,HOX.out,HWX.out.later (below_drewN (Below.refl _ _) _),HI.out.skip HD2.out⟩
        case measure=>simp [intOf];omega
       ·have HD2:=yq (show Go.Lib.keeps l.toArray (k+k2)=true from Go.Lib.keeps_pos (by rw [zen,zen];exact hd2))
        have HKP:=yq (show Go.Lib.CompInv l.toArray (k+k2+1) (kk+1) (dk.setIfInBounds kk (l.getD (k+k2) default)) from by have h:=HI.out.keep (by rw [← HN.out] at hlt2;simpa using hlt2) HD2.out;rwa [zen] at h)
        have hne : ¬ ((l.getD (k+k2) default).fb=(l.getD (k+k2 - 1) default).fb∧(l.getD (k+k2) default).fa=(l.getD (k+k2 - 1) default).fa):=fun h=>hd2 (by
         generalize l.getD (k+k2) default=a at *;generalize l.getD (k+k2 - 1) default=b at *
         cases a;cases b;dsimp only at h;rw [h.1,h.2])
        clear hd2;generalize l.getD (k+k2) default=z2 at *;generalize l.getD (k+k2 - 1) default=y2 at *
        have HRS:=yq (fun (W:World) (h:W.ownsRow B 87 2 (.slice (some ⟨g,0,none⟩) n c) n (dk.toList.flatMap zo))=>(show ((W.setCell ⟨g,kk * 2,none⟩ (.int .i64 z2.fb)).setCell ⟨g,kk * 2+1,none⟩ (.string z2.fa)).ownsRow B 87 2 (.slice (some ⟨g,0,none⟩) n c) n ((dk.setIfInBounds kk z2).toList.flatMap zo) from by
         rw [← HLN.out] at h;have h2:=zv7 (k:=kk) z2 h;rw [HLN.out] at h2;rw [Array.toList_setIfInBounds]
         exact h2))
        by_cases h1:z2.fb=y2.fb
        ·have e2:(z2.fa.toList == y2.fa.toList)=false:=beq_eq_false_iff_ne.2 (fun e=>hne ⟨h1,zea e⟩)
         rw [← h1] at cp0;clear hne h1;(go_wp2_with fail)
         go_quiet (fail)
         go_wp2;go_roundw
         case rel=>exact ⟨kk+1,k2+1,dk.setIfInBounds kk z2,by go_num,by go_num,by omega,by omega,HRS.out _ HOX.out,(WritesF.setCell (p:=⟨g,kk * 2+1,none⟩) (WritesF.setCell (p:=⟨g,kk * 2,none⟩) (HWX.out.later (below_drewN (Below.refl _ _) _)) rfl) rfl),HKP.out⟩
         case measure=>simp [intOf];omega
        ·have e2:(z2.fb == y2.fb)=false:=beq_eq_false_iff_ne.2 h1
         clear hne h1;(go_wp2_with fail)
         go_quiet (fail)
         go_wp2;go_roundw
         case rel=>exact ⟨kk+1,k2+1,dk.setIfInBounds kk z2,by go_num,by go_num,by omega,by omega,HRS.out _ HOX.out,(WritesF.setCell (p:=⟨g,kk * 2+1,none⟩) (WritesF.setCell (p:=⟨g,kk * 2,none⟩) (HWX.out.later (below_drewN (Below.refl _ _) _)) rfl) rfl),HKP.out⟩
         case measure=>simp [intOf];omega
      ·have hend:k+k2=n:=by omega
       rw [← hln] at ho
       obtain ⟨us,hcl⟩:=zsw (P:=Tryz.prog) wr 84 87 (.agg #[.int .i64 0,.string ⟨#[]⟩]) (.int .i64 0) (.string ⟨#[]⟩) Tryz.underlying84 (fun W=>by kernel_rfl) rfl rfl rfl g (kk * 2) (n - kk) (c - kk) (by omega) (fun j hj=>by rw [ho.cellAt _ (by omega),List.getElem?_eq_getElem (by rw [zbt];omega)];rfl) (fun j hj=>ho.frozenAt _)
       have hI2:=hI;rw [hend,← HN.out] at hI2
       have hkl:(zaa ltO l).length=kk:=by rw [← HR.out,← HN.out];exact hI2.len
       have htk:dk.toList.take kk=zaa ltO l:=by
        rw [← HR.out,← HN.out]
        apply List.ext_getElem?
        intro j
        by_cases hj:j < kk
        ·rw [List.getElem?_take_of_lt hj,hI2.low j hj,Array.getElem?_toList,getElem!_pos dk j (by rw [Array.length_toList] at hln;omega),Array.getElem?_eq_getElem]
        ·rw [List.getElem?_eq_none (by rw [List.length_take];omega),List.getElem?_eq_none (by rw [hI2.len];omega)]
       obtain ⟨ys,hy1,hy2⟩:=zpf (kk:=kk) us wr (kk * 2) _ (Nat.le_refl _) ho (by have:=(zjy (enc:=zo) (n:=2) za3 dk.toList (r:=kk) (by omega)).1;exact this)
       rw [htk] at hy2
       have HFIN:=yq (zxn hy1 (r:=kk) (by omega) hkl hy2)
       have HWF:=yq (zer us wr (kk * 2) HWX.out);have HKL:=yq hkl
       have hkn:kk < n:=by omega
       have hkc:kk < c:=by omega
       clear hy1 hy2 htk hkl hI2 hI ho hln;go_wp2;go_ret
       exact ⟨by rw [HKL.out];rfl,HFIN.out,fun b0 hb0=>HWF.out.below (fun y hy=>by subst hy;exact hb0 _ rfl) (by have:=hb0 g rfl;omega)⟩
    ·have HDUP:=yq (show Go.Lib.keeps l.toArray k=true from Go.Lib.keeps_pos (by rw [zen,zen];exact hdup))
     have hne : ¬ ((l.getD k default).fb=(l.getD (k - 1) default).fb∧(l.getD k default).fa=(l.getD (k - 1) default).fa):=fun h=>hdup (by
      generalize l.getD k default=a at *;generalize l.getD (k - 1) default=b at *
      cases a;cases b;dsimp only at h;rw [h.1,h.2])
     clear hdup;generalize l.getD k default=z at *;generalize l.getD (k - 1) default=y at *
     by_cases h1:z.fb=y.fb
     ·have e2:(z.fa.toList == y.fa.toList)=false:=beq_eq_false_iff_ne.2 (fun e=>hne ⟨h1,zea e⟩)
      rw [h1] at c0;clear hne h1;(go_wp2_with fail)
      go_quiet (fail)
      go_wp2;go_roundw
      case rel=>exact ⟨k+1,by omega,by omega,by go_num,HOR.out,HWR.out.later (below_drewN (Below.refl _ _) _),fun j hj=>(Nat.lt_or_ge j k).elim (fun h=>HALL.out j h) (fun h=>(show k=j by omega) ▸ HDUP.out)⟩
      case measure=>simp [intOf];omega
     ·have e2:(z.fb == y.fb)=false:=beq_eq_false_iff_ne.2 h1
      clear hne h1;(go_wp2_with fail)
      go_quiet (fail)
      go_wp2;go_roundw
      case rel=>exact ⟨k+1,by omega,by omega,by go_num,HOR.out,HWR.out.later (below_drewN (Below.refl _ _) _),fun j hj=>(Nat.lt_or_ge j k).elim (fun h=>HALL.out j h) (fun h=>(show k=j by omega) ▸ HDUP.out)⟩
      case measure=>simp [intOf];omega
   ·obtain rfl:k=n:=by omega
    clear hor;go_wp2;go_ret
    obtain ⟨e1,e2⟩:=HS.out wr (fun j hj=>HALL.out j hj) HOR.out
    exact ⟨e1,e2,fun b0 hb0=>HWR.out.below (fun y hy=>by subst hy;exact hb0 _ rfl) (by have:=hb0 g rfl;omega)⟩
def hasO (l:List DOccurrence) (x:DOccurrence):Bool:=decide (x ∈ l)
theorem zlk {l:List DOccurrence} {j:Nat} (hj:j < l.length) (x:DOccurrence):hasO (l.take (j+1)) x=(hasO (l.take j) x || decide (x=l.getD j default)):=by
 unfold hasO
 rw [List.take_succ_eq_append_getElem hj,List.getD_eq_getElem?_getD,List.getElem?_eq_getElem hj,Option.getD_some];rw [Bool.eq_iff_iff,Bool.or_eq_true,decide_eq_true_eq,decide_eq_true_eq,decide_eq_true_eq,List.mem_append,List.mem_singleton]
def embC (x:DOccurrence):Value:=.agg #[.int .i64 x.fb,.string x.fa]
def okMC (x:DOccurrence):Prop:=okMI x.fb∧okMS x.fa
theorem zur:(87:TypeId) < Tryz.prog.types.size:=of_decide_eq_true (by kernel_rfl)
theorem zvw:(match Tryz.prog.underlying 87 with|some (.array _ _)|some (.struct _)=>true|_=>false)=true:=by kernel_rfl
theorem zuv:Maps.Keyed Tryz.prog 87:=Maps.Keyed.of_law (deep_law_laid zvd (m:=3) (by omega) zur (by kernel_rfl) zvw)
theorem zwy (x:DOccurrence) (h:okMC x) : ∃ l,keyOf Tryz.prog 87 (embC x)=some l:=by
 obtain ⟨n,s⟩:=x;have hn:(Lit.int .i64 n).wf=true:=WalkArith.wf_i64 h.1;have hs:s.size≤maxLen:=h.2
 have h1:Tryz.prog.keyType 87=true:=by kernel_rfl
 have hc:Tryz.prog.cellsOf 87=2:=by kernel_rfl
 have hci:Tryz.prog.cellsOf 3=1:=by kernel_rfl
 have hcs:Tryz.prog.cellsOf 9=1:=by kernel_rfl
 have h2:(embC ⟨n,s⟩).formed Tryz.prog 87=true:=by
  unfold embC Value.formed
  simp [Tryz.underlying87,hc]
 have h3 : ∀ d,Tryz.prog.keyLits (d+2) 87 [.int .i64 n,.string s]=some [.int .i64 n,.string s.data.toList]:=by
  intro d
  simp [Program.keyLits,Tryz.underlying87,Tryz.underlying3,Tryz.underlying9,hn,hs,hc,hci,hcs]
 obtain ⟨d,hd⟩ : ∃ d,Tryz.prog.types.size+1=d+2:=⟨_,show Tryz.prog.types.size+1=(Tryz.prog.types.size - 1)+2 by have:0 < Tryz.prog.types.size:=Nat.lt_of_le_of_lt (Nat.zero_le _) zur;omega⟩
 refine ⟨.string (keyBytes [.int .i64 n,.string s.data.toList]),?_⟩
 unfold keyOf
 rw [Tryz.underlying87]
 simp only [h1,h2,Bool.and_self,if_true]
 rw [hd]
 show Option.map _ (Tryz.prog.keyLits (d+2) 87 [.int .i64 n,.string s])=_
 rw [h3]
 rfl
theorem zon:MapK Tryz.prog 93 87 4 okMC embC (fun _=>True) valB litB false :=
 ⟨zuv,Tryz.underlying93,zwy,fun x y _ _ h=>by cases x;cases y;simp only [embC,Value.agg.injEq] at h;simp at h;rw [h.1,h.2],fun v _=>plainElem_bool Tryz.underlying4 v,zua Tryz.underlying4,fun w=>by kernel_rfl,trivial⟩
def zfk (x:DRule):List DOccurrence:=x.fg.map DEquation.fAt
theorem zg0 (x:DRule):(zfk x).length=x.fg.length:=List.length_map ..
theorem zol (x:DRule) {k:Nat} (h:k < x.fg.length):(zfk x).getD k default=(x.fg.getD k default).fAt:=by
 unfold zfk
 rw [List.getD_eq_getElem?_getD,List.getD_eq_getElem?_getD,List.getElem?_map,List.getElem?_eq_getElem h]
 rfl
def zc7 (g:DGrammar) (x:DRule) (k:Nat) (y:DOccurrence):Bool:=hasO (zaw g x) y && !hasO ((zfk x).take k) y
def zf4 (g:DGrammar) (x:DRule) (k:Nat):Bool:=!zc7 g x k (x.fg.getD k default).fAt
def zha (g:DGrammar) (x:DRule):Bool:=anyP (zf4 g x) x.fg.length
theorem zqt (g:DGrammar) (x:DRule):zc7 g x 0=hasO (zaw g x):=by
 funext y
 unfold zc7
 rw [List.take_zero,show hasO [] y=false from rfl,Bool.not_false,Bool.and_true]
theorem zq7 (g:DGrammar) (x:DRule) {k:Nat} (h:k < x.fg.length):zc7 g x (k+1) (x.fg.getD k default).fAt=false:=by
 unfold zc7
 rw [zlk (by rw [zg0];exact h),zol x h,decide_eq_true rfl,Bool.or_true,Bool.not_true,Bool.and_false]
theorem zqa (g:DGrammar) (x:DRule) {k:Nat} (h:k < x.fg.length) {y:DOccurrence} (hy:y≠(x.fg.getD k default).fAt):zc7 g x (k+1) y=zc7 g x k y:=by
 unfold zc7
 rw [zlk (by rw [zg0];exact h),zol x h,decide_eq_false hy,Bool.or_false]
theorem zr9 {f:Nat→List DOccurrence} {y:DOccurrence} : ∀ {n:Nat},y ∈ catL f n → ∃ k,k < n∧y ∈ f k
 | 0,h=>by simp [catL] at h
 | n+1,h=>by
  have h':y ∈ catL f n ++ f n:=h
  rcases List.mem_append.1 h' with h1|h1
  ·obtain ⟨k,hk,hy⟩:=zr9 h1
   exact ⟨k,by omega,hy⟩
  ·exact ⟨n,by omega,h1⟩
theorem ztn {g:DGrammar} (h:g.sz≤1048576) (nm:ByteArray) : ∀ a ∈ (symS g.fl nm).fu,a.fa.size≤1048576:=by
 have hz:lsz DSymbol.sz g.fl≤1048576:=by unfold DGrammar.sz at h;omega
 by_cases h0:0≤idxI (PSym nm) g.fl
 ·obtain ⟨k,hk⟩ : ∃ k:Nat,idxI (PSym nm) g.fl=k:=⟨(idxI (PSym nm) g.fl).toNat,by omega⟩
  rw [zh8 hk];intro a ha
  by_cases hl:k < g.fl.length
  ·have h1:=zsm (f:=DSymbol.sz) hl
   obtain ⟨j,hj,rfl⟩:=List.getElem_of_mem ha;have h2:=zsm (f:=DAttribute.sz) hj;rw [List.getD_eq_getElem?_getD,List.getElem?_eq_getElem hj,Option.getD_some] at h2
   have h3:lsz DAttribute.sz (g.fl.getD k default).fu≤DSymbol.sz (g.fl.getD k default):=by unfold DSymbol.sz;omega
   unfold DAttribute.sz at h2 h3
   omega
  ·rw [List.getD_eq_getElem?_getD,List.getElem?_eq_none (by omega)] at ha
   exact absurd ha (by simp [show (default:DSymbol).fu=[] from rfl])
 ·unfold symS
  rw [if_neg h0];intro a ha
  exact absurd ha (by simp [ztv])
theorem zxf {g:DGrammar} (h:g.sz≤1048576) {x:DRule} (hx:x.sz≤1048576) : ∀ y ∈ zaw g x,okMC y:=by
 intro y hy;obtain ⟨k,hk,hy⟩:=zr9 hy
 have hn:x.fj.length≤1048576:=by unfold DRule.sz lsz at hx;omega
 unfold zdj occP at hy
 obtain ⟨a,ha,rfl⟩:=List.mem_map.1 hy;have ha':=(List.mem_filter.1 ha).1
 have:=ztn h _ a ha'
 refine ⟨⟨by show -9223372036854775808≤(k:Int);omega,by show (k:Int)≤9223372036854775807;omega⟩,?_⟩
 show a.fa.size≤maxLen
 unfold maxLen
 omega
theorem zyc {x:DRule} (okx:x.ok) (hx:x.sz≤1048576) {k:Nat} (hk:k < x.fg.length):okMC (x.fg.getD k default).fAt:=by
 have h1:=okx.2.2.2.2.1.at hk
 have h2:DEquation.sz (x.fg.getD k default)≤1048576:=Nat.le_trans (zab (f:=DEquation.sz) x.fg k hk) (by unfold DRule.sz at hx;omega)
 refine ⟨h1.1.1,?_⟩
 have h3:(x.fg.getD k default).fAt.fa.size≤1048576:=by unfold DEquation.sz DOccurrence.sz at h2;omega
 unfold okMS maxLen
 omega
def isAt (l:List DOccurrence) (y:DOccurrence) (k:Nat):Bool:=decide (l.getD k default=y)
theorem zwh {l:List DOccurrence} {y:DOccurrence} {k:Nat} (hk:k < l.length) (h1:(l.getD k default).fb=y.fb) (h2:(l.getD k default).fa=y.fa):hasO l y=true:=by
 have e:l.getD k default=y:=by cases hq:l.getD k default;rw [hq] at h1 h2;cases y;simp only at h1 h2;rw [h1,h2]
 refine decide_eq_true ?_;rw [← e,List.getD_eq_getElem?_getD,List.getElem?_eq_getElem hk];exact List.getElem_mem hk
theorem zt4 {l:List DOccurrence} {y:DOccurrence} (h:zbo (isAt l y) l.length):hasO l y=false:=by
 refine decide_eq_false fun hm=>?_
 obtain ⟨k,hk,e⟩:=List.getElem_of_mem hm;have h1:=of_decide_eq_false (h k hk);rw [List.getD_eq_getElem?_getD,List.getElem?_eq_getElem hk] at h1;exact h1 e
theorem zvr {l:List DOccurrence} {y:DOccurrence} {k:Nat} (h:(l.getD k default).fb≠y.fb):isAt l y k=false:=decide_eq_false fun e=>h (congrArg DOccurrence.fb e)
theorem zvt {l:List DOccurrence} {y:DOccurrence} {k:Nat} (h:(l.getD k default).fa≠y.fa):isAt l y k=false:=decide_eq_false fun e=>h (congrArg DOccurrence.fa e)
theorem zgo {lo hi:Nat} {a0:Option Addr} {c0:Nat} (l:List DOccurrence) (hn:l.length≤1099511627776) (y:DOccurrence) (w:World) (hhi:hi≤w.heap.size) (hs:Sl lo hi w 2 l.length (fun k=>DOccurrence.ct (l.getD k default)) a0) :
  Calls Tryz.prog 70 #[.slice a0 l.length c0,.agg #[.int .i64 y.fb,.string y.fa]] w fun e w'=>e = .returned (.bool (hasO l y))∧Below w.heap.size w w':=by
 have HB:=yq ((Below.refl w.heap.size w).alloc (Nat.le_refl _) (.cells #[.int .i64 y.fb,.string y.fa] 87));have HS:=yq (hs.later HB.out hhi);clear hs
 go_enter Tryz.func70,Tryz.ntmps70
 go_wp2
 go_loopw [5] (fun i wr=>∃ k:Nat,k≤l.length∧i = .int .i64 (k:Int)∧zbo (isAt l y) k ∧ ∃ n,wr=(w.alloc (.cells #[.int .i64 y.fb,.string y.fa] 87)).drewN n) (fun i _=>l.length - (intOf i).toNat)
 case atStart=>exact ⟨0,Nat.zero_le _,rfl,zau _,0,rfl⟩
 case round =>
  obtain ⟨k,hk,rfl,hno,nd,rfl⟩:=hrel;have HN:=yq hno;clear hno
  by_cases hlt:k < l.length
  ·have hkI:(0:Int)≤(k:Int)∧(k:Int) < (l.length:Int):=by omega
   obtain ⟨b,off,rfl,_,_,hc⟩:=HS.out.at k hlt;obtain ⟨hc0,hc1⟩:=DOccurrence.open hc;clear hc
   by_cases h1:(l.getD k default).fb=y.fb
   ·by_cases h2:(l.getD k default).fa=y.fa
    ·have fin:=yq (zwh hlt h1 h2)
     rw [h1] at hc0;rw [h2] at hc1;clear h1 h2;go_wp2
     go_quiet (fail)
     go_wp2;go_ret;exact ⟨zh fin.out.symm,below_drewN (below_drewN HB.out _) _⟩
    ·have HN2:=yq (zap HN.out (zvt h2))
     rw [h1] at hc0
     have e2:((l.getD k default).fa.toList == y.fa.toList)=false:=beq_eq_false_iff_ne.2 (fun e=>h2 (zdd e))
     have e3:(y.fa.toList == (l.getD k default).fa.toList)=false:=beq_eq_false_iff_ne.2 (fun e=>h2 (zdd e).symm)
     clear h1 h2;generalize (l.getD k default).fa=q at *;go_wp2
     go_quiet (fail)
     go_wp2;go_roundw
     case rel=>exact ⟨k+1,by omega,by go_num,HN2.out,_,rfl⟩
     case measure=>simp [intOf];omega
   ·have HN2:=yq (zap HN.out (zvr h1))
    have e2:((l.getD k default).fb == y.fb)=false:=beq_eq_false_iff_ne.2 h1;have e3:(y.fb == (l.getD k default).fb)=false:=beq_eq_false_iff_ne.2 (Ne.symm h1);clear h1;generalize (l.getD k default).fb=z at *;generalize (l.getD k default).fa=q at *;go_wp2
    go_quiet (fail)
    go_wp2;go_roundw
    case rel=>exact ⟨k+1,by omega,by go_num,HN2.out,_,rfl⟩
    case measure=>simp [intOf];omega
  ·obtain rfl:k=l.length:=by omega
   have fin:=yq (zt4 HN.out);go_wp2;go_ret;exact ⟨zh fin.out.symm,below_drewN HB.out _⟩
theorem zot {lo hi:Nat} {a0 a1:Option Addr} {c0_0 c0_1:Nat} {b2 b4 b5:Option Addr} {c1_0 c1_1 c1_2:Nat} (g:DGrammar) (okg:g.ok) (hszg:g.sz≤1048576) (x:DRule) (okx:x.ok) (hszx:x.sz≤1048576) (w:World) (hhi:hi≤w.heap.size) (hs0:Sl lo hi w 2 g.fl.length (fun k=>DSymbol.ct (g.fl.getD k default)) a0) (hs1:Sl lo hi w 6 g.fm.length (fun k=>DRule.ct (g.fm.getD k default)) a1) (hs2:Sl lo hi w 1 x.fj.length (fun k=>ictS (x.fj.getD k default)) b2) (hs4:Sl lo hi w 9 x.fg.length (fun k=>DEquation.ct (x.fg.getD k default)) b4) (hs5:Sl lo hi w 16 x.fo.length (fun k=>DContribution.ct (x.fo.getD k default)) b5) :
  Calls Tryz.prog 42 #[.agg #[.slice a0 g.fl.length c0_0,.slice a1 g.fm.length c0_1],.agg #[.string x.fa,.string x.fp,.slice b2 x.fj.length c1_0,.bool x.fq,.slice b4 x.fg.length c1_1,.slice b5 x.fo.length c1_2]] w fun e w'=>e = .returned (.bool (zha g x))∧Below w.heap.size w w':=by
 have HB:=yq (show Below w.heap.size w ((w.alloc (.cells #[.slice a0 g.fl.length c0_0,.slice a1 g.fm.length c0_1] 32)).alloc (.cells #[.string x.fa,.string x.fp,.slice b2 x.fj.length c1_0,.bool x.fq,.slice b4 x.fg.length c1_1,.slice b5 x.fo.length c1_2] 50)) from ((Below.refl w.heap.size w).alloc (Nat.le_refl _) (.cells #[.slice a0 g.fl.length c0_0,.slice a1 g.fm.length c0_1] 32)).alloc (by simp) (.cells #[.string x.fa,.string x.fp,.slice b2 x.fj.length c1_0,.bool x.fq,.slice b4 x.fg.length c1_1,.slice b5 x.fo.length c1_2] 50))
 have HBG:=yq (show ((w.alloc (.cells #[.slice a0 g.fl.length c0_0,.slice a1 g.fm.length c0_1] 32)).alloc (.cells #[.string x.fa,.string x.fp,.slice b2 x.fj.length c1_0,.bool x.fq,.slice b4 x.fg.length c1_1,.slice b5 x.fo.length c1_2] 50)).heap[w.heap.size]? = some (.cells #[.slice a0 g.fl.length c0_0,.slice a1 g.fm.length c0_1] 32) from zn (by simp) (ze rfl))
 have HBR:=yq (show ((w.alloc (.cells #[.slice a0 g.fl.length c0_0,.slice a1 g.fm.length c0_1] 32)).alloc (.cells #[.string x.fa,.string x.fp,.slice b2 x.fj.length c1_0,.bool x.fq,.slice b4 x.fg.length c1_1,.slice b5 x.fo.length c1_2] 50)).heap[w.heap.size+1]? = some (.cells #[.string x.fa,.string x.fp,.slice b2 x.fj.length c1_0,.bool x.fq,.slice b4 x.fg.length c1_1,.slice b5 x.fo.length c1_2] 50) from ze (by simp))
 have HZ:=yq (show ((w.alloc (.cells #[.slice a0 g.fl.length c0_0,.slice a1 g.fm.length c0_1] 32)).alloc (.cells #[.string x.fa,.string x.fp,.slice b2 x.fj.length c1_0,.bool x.fq,.slice b4 x.fg.length c1_1,.slice b5 x.fo.length c1_2] 50)).heap.size=w.heap.size+2 by simp)
 have HS0:=yq (fun (W:World) (hW:Below w.heap.size w W)=>hs0.later hW hhi)
 have HS1:=yq (fun (W:World) (hW:Below w.heap.size w W)=>hs1.later hW hhi)
 have HS2:=yq (fun (W:World) (hW:Below w.heap.size w W)=>hs2.later hW hhi)
 have HS4:=yq (fun (W:World) (hW:Below w.heap.size w W)=>hs4.later hW hhi)
 have HS5:=yq (fun (W:World) (hW:Below w.heap.size w W)=>hs5.later hW hhi)
 have HHI:=yq hhi;have HLEN:=yq (zfg hszg hszx)
 have hne:x.fg.length≤1048576:=by unfold DRule.sz lsz at hszx;omega
 have HRQ:=yq (fun (W:World) (hW:Below w.heap.size w W)=>zb4 (c0_0:=c0_0) (c0_1:=c0_1) (c1_0:=c1_0) (c1_1:=c1_1) (c1_2:=c1_2) g okg hszg x okx hszx W (Nat.le_trans HHI.out hW.size) (HS0.out W hW) (HS1.out W hW) (HS2.out W hW) (HS4.out W hW) (HS5.out W hW))
 have HR:=yq (show zha g x=anyP (zf4 g x) x.fg.length from rfl)
 have HE:=yq (fun (k:Nat)=>show zf4 g x k = !(hasO (zaw g x) (x.fg.getD k default).fAt && !hasO ((zfk x).take k) (x.fg.getD k default).fAt) from rfl)
 have HT:=yq (fun k (hk:k < x.fg.length)=>show (zfk x).take (k+1)=(zfk x).take k ++ [(x.fg.getD k default).fAt] from by rw [zcq (by rw [zg0];exact hk),zol x hk])
 have HTL:=yq (fun k=>show ((zfk x).take k).length≤1048576 from by rw [List.length_take,zg0];omega)
 have HT0:=yq (show (zfk x).take 0=[] from List.take_zero)
 obtain ⟨i0,hi',hz0,hz1,hz2⟩:=info_parts zom;clear hs0 hs1 hs2 hs5 hs4 hhi okg hszg okx hszx
 go_enter Tryz.func42,Tryz.ntmps42
 (go_wp2_with fail);refine (HRQ.out _ HB.out).mono ?_;rintro e wl ⟨al,cl,rfl,hol,hbl⟩;have HBL:=yq (HB.out.trans (hbl.mono HB.out.size))
 have HZL:=yq (show w.heap.size+2≤wl.heap.size from HZ.out ▸ hbl.size)
 have HSL:=yq (show Sl 0 wl.heap.size wl 2 (zaw g x).length (fun k=>DOccurrence.ct ((zaw g x).getD k default)) al from Sl.of (hol.lies fun y hy=>⟨Nat.zero_le _,hy.2⟩))
 have HRL:=yq ((hbl.block (w.heap.size+1) (by rw [HZ.out];omega)).trans HBR.out)
 have HO0:=yq (show (wl.alloc (.cells #[] 87)).ownsRow wl.heap.size 87 2 (.slice (some ⟨wl.heap.size,0,none⟩) 0 0) ((zfk x).take 0).length (((zfk x).take 0).flatMap vOcc) from by rw [HT0.out];exact zc3)
 clear hol hbl HRQ HB HBG HBR HZ HT0;generalize zaw g x=lst at *;have hlst:=HLEN.out;go_wp2
 go_loopw [6,7] (fun v i wr=>∃ k:Nat,k≤x.fg.length∧i = .int .i64 (k:Int)∧zbo (zf4 g x) k∧wr.ownsRow wl.heap.size 87 2 v ((zfk x).take k).length (((zfk x).take k).flatMap vOcc)∧Below wl.heap.size wl wr) (fun _ i _=>x.fg.length - (intOf i).toNat)
 case atStart=>exact ⟨0,Nat.zero_le _,rfl,zau _,HO0.out,(Below.refl _ _).alloc (Nat.le_refl _) _⟩
 case round =>
  obtain ⟨k,hk,rfl,hno,hown,hb⟩:=hrel;have HN:=yq hno;have HBT:=yq (HBL.out.trans (hb.mono HBL.out.size));have HBW:=yq hb;have hlw:wl.heap.size≤wr.heap.size:=hb.size
  have HRW:=yq ((hb.block (w.heap.size+1) (by have:=HZL.out;omega)).trans HRL.out)
  have HSW:=yq (HSL.out.later hb (Nat.le_refl _));have HML:=yq (HTL.out k);have HO:=yq hown
  obtain ⟨va,vc,rfl,hom⟩:=zd4 (ct:=DOccurrence.ct) (by decide) znq zqw hown
  have HOM:=yq (show Sl 0 wr.heap.size wr 2 ((zfk x).take k).length (fun j=>DOccurrence.ct (((zfk x).take k).getD j default)) va from Sl.of (hom.lies fun y hy=>⟨Nat.zero_le _,hy.2⟩))
  clear hno hb hown hom;have r4:wr.cell? ⟨w.heap.size+1,4,none⟩=some (.slice b4 x.fg.length c1_1):=za HRW.out rfl
  by_cases hlt:k < x.fg.length
  ·have hkI:(0:Int)≤(k:Int)∧(k:Int) < (x.fg.length:Int):=by omega
   obtain ⟨rb,ro,rfl,_,hrb,hc⟩:=(HS4.out wr HBT.out).at k hlt;obtain ⟨a8,c8,hc0,hc1,-⟩:=DEquation.open hc;have HEK:=yq (HE.out k);have HTK:=yq (HT.out k hlt);clear hc HE HT HTL;generalize (x.fg.getD k default).fAt=y at *;generalize (zfk x).take k=met at *;have hml:=HML.out
   have HBA:=yq (show Below wr.heap.size wr (wr.alloc (.cells #[.int .i64 y.fb,.string y.fa] 87)) from (Below.refl _ _).alloc (Nat.le_refl _) _)
   have HCA:=yq (fun (W:World) (hW:Below wr.heap.size wr W)=>zgo (c0:=cl) lst hlst y W hW.size (HSW.out.later (hW.mono hlw) (Nat.le_refl _)|>.mono (Nat.le_refl _) hlw))
   have HCM:=yq (fun (W:World) (hW:Below wr.heap.size wr W)=>zgo (c0:=vc) met (by omega) y W hW.size (HOM.out.later hW (Nat.le_refl _)))
   generalize hasO lst y=bn at *;generalize hasO met y=bm at *;have o0:(wr.alloc (.cells #[.int .i64 y.fb,.string y.fa] 87)).cell? ⟨wr.heap.size,0,none⟩=some (.int .i64 y.fb):=za (ze rfl) rfl;have o1:(wr.alloc (.cells #[.int .i64 y.fb,.string y.fa] 87)).cell? ⟨wr.heap.size,1,none⟩=some (.string y.fa):=za (ze rfl) rfl
   have HX0:=yq (show (wr.alloc (.cells #[.int .i64 y.fb,.string y.fa] 87)).heap[wr.heap.size]? = some (.cells #[.int .i64 y.fb,.string y.fa] 87) from ze rfl)
   have HXZ:=yq (show wr.heap.size < (wr.alloc (.cells #[.int .i64 y.fb,.string y.fa] 87)).heap.size by simp)
   (go_wp2_with fail);refine (HCA.out _ HBA.out).mono ?_;rintro e w6 ⟨rfl,hb6⟩
   have HB6:=yq (show Below wr.heap.size wr w6 from HBA.out.trans (hb6.mono HBA.out.size))
   have HX6:=yq ((hb6.block _ HXZ.out).trans HX0.out);have p0:w6.cell? ⟨wr.heap.size,0,none⟩=some (.int .i64 y.fb):=za HX6.out rfl;have p1:w6.cell? ⟨wr.heap.size,1,none⟩=some (.string y.fa):=za HX6.out rfl;have hz6:wr.heap.size < w6.heap.size:=Nat.lt_of_lt_of_le HXZ.out hb6.size;clear hb6 o0 o1 hc0 hc1 r4 HCA HX0 HXZ HBA
   cases bn with
   | false =>
    have FIN:=yq (show zha g x=true from HR.out.trans (zbm hlt HEK.out))
    have HBF:=yq (HBT.out.trans (HB6.out.mono HBT.out.size));go_wp2;go_ret;exact ⟨zh FIN.out.symm,HBF.out⟩
   | true =>
    (go_wp2_with fail);refine (HCM.out _ HB6.out).mono ?_;rintro e w7 ⟨rfl,hb7⟩
    have HB7:=yq (show Below wr.heap.size wr w7 from HB6.out.trans (hb7.mono HB6.out.size))
    have HX7:=yq ((hb7.block _ hz6).trans HX6.out);have q0:w7.cell? ⟨wr.heap.size,0,none⟩=some (.int .i64 y.fb):=za HX7.out rfl;have q1:w7.cell? ⟨wr.heap.size,1,none⟩=some (.string y.fa):=za HX7.out rfl;have hz7:wr.heap.size < w7.heap.size:=Nat.lt_of_lt_of_le hz6 hb7.size;have HBF:=yq (HBT.out.trans (HB7.out.mono HBT.out.size));have HO7:=yq (zl HO.out HB7.out);clear hb7 p0 p1 HCM
    cases bm with
    | true =>
     have FIN:=yq (show zha g x=true from HR.out.trans (zbm hlt HEK.out))
     go_wp2;go_ret;exact ⟨zh FIN.out.symm,HBF.out⟩
    | false =>
     have HN1:=yq (zap HN.out HEK.out)
     have hb0:wl.heap.size≤w7.heap.size:=by omega
     go_wp2_with (at_builtin;refine zp rfl (.tmp 35) (.tmp 37) 84 rfl (wl.heap.size) 87 i0 (.agg #[.int .i64 0,.string ⟨#[]⟩]) 2 24 Tryz.underlying84 hi' hz0 hz1 hz2 rfl (by decide) _ _ _ rfl (zl HO7.out ((Below.refl _ _).alloc (Nat.le_refl _) _)) ⟨w7.heap.size,0,none⟩ 1 1 [.int .i64 y.fb,.string y.fa] rfl rfl zgv (by intro u hu;simp at hu;rcases hu with rfl|rfl<;>rfl) yl (by omega) ye ?_;intro v' w2 hown' hgrow hat)
     have HOS:=yq (zbs (x:=y) (vals:=vOcc) hown' rfl)
     have HBS:=yq (((HBW.out.trans (HB7.out.mono HBW.out.size)).alloc hb0 _).grown hgrow ye (fun z hz=>(HO.out.lt z hz).1))
     clear hown' hgrow hat;go_wp2;go_roundw
     case rel=>exact ⟨k+1,by omega,by go_num,HN1.out,by rw [HTK.out];exact HOS.out,HBS.out⟩
     case measure=>simp [intOf];omega
  ·obtain rfl:k=x.fg.length:=by omega
   have FIN:=yq (show zha g x=false from HR.out.trans (zbp HN.out))
   go_wp2;go_ret;exact ⟨zh FIN.out.symm,HBT.out⟩
def zjx (x:DExpr):Prop:=∀ ⦃lo hi c6 B g c:Nat⦄ ⦃a6:Option Addr⦄ (_hsz:x.sz≤1048576) (l:List DOccurrence) (_hl:l.length+(occE x).length≤4194304) (w:World) (_hhi:hi≤w.heap.size) (_hs6:Sl lo hi w 7 x.fc.length (ctE x.fc) a6) (_hown:w.ownsRow B 87 2 (.slice (some ⟨g,0,none⟩) (l).length c) (l).length ((l).flatMap zo)),
 Calls Tryz.prog 140 #[.agg #[.int .i64 x.fh,.int .i64 x.fN,.int .i64 x.fb,.int .i64 x.fk,.string x.fd,.string x.fa,.slice a6 x.fc.length c6],.slice (some ⟨g,0,none⟩) l.length c] w fun e w'=>∃ g' c',e = .returned (.slice (some ⟨g',0,none⟩) (zaq ltO l (occE x)).length c')∧w'.ownsRow B 87 2 (.slice (some ⟨g',0,none⟩) ((zaq ltO l (occE x))).length c') ((zaq ltO l (occE x))).length (((zaq ltO l (occE x))).flatMap zo)∧Below w.heap.size w w'
theorem zu1 {α : Type} {d : α} (xs:List α) (j:Nat) (hj:j < xs.length):xs.getD j d ∈ xs:=by
 rw [List.getD_eq_getElem?_getD,List.getElem?_eq_getElem hj];exact List.getElem_mem hj
theorem zll {xs:List DExpr} {k:Nat} (hk:k < xs.length):(xs.take (k+1)).flatMap occE=(xs.take k).flatMap occE ++ occE (xs.getD k default):=by
 rw [List.take_succ_eq_append_getElem hk,List.flatMap_append,List.flatMap_singleton,List.getD_eq_getElem?_getD,List.getElem?_eq_getElem hk,Option.getD_some]
theorem zik {xs:List DExpr} {k:Nat} (hk:k < xs.length):((xs.take k).flatMap occE).length+(occE (xs.getD k default)).length≤(xs.flatMap occE).length:=by
 have h:(xs.take (k+1)).flatMap occE ++ (xs.drop (k+1)).flatMap occE=xs.flatMap occE:=by rw [← List.flatMap_append,List.take_append_drop]
 rw [← h,List.length_append,zll hk,List.length_append]
 omega
theorem zn5 (x:DExpr) (ih : ∀ a ∈ x.fc,zjx a):zjx x:=by
 intro lo hi c6 B g c a6 hsz l hl w hhi hs6 hown;have hBg:=hown.lt g rfl
 have hln:l.length+(zar (zf x 0)).length+(x.fc.flatMap occE).length≤4194304:=by rw [zq1,List.length_append] at hl;omega
 have HLN:=yq hln
 have HFIN:=yq (show (zaq ltO l (occE x))=(zaq ltO l (zar (zf x 0) ++ (x.fc.take x.fc.length).flatMap occE)) by rw [zq1,List.take_length])
 have hszx:=hsz;rw [DExpr.sz_eq] at hszx
 have hnl:x.fc.length≤1048576:=by unfold lsz at hszx;omega
 have HIH:=yq (fun k (hk:k < x.fc.length)=>ih (x.fc.getD k default) (zu1 x.fc k hk))
 have HZA:=yq (fun k (hk:k < x.fc.length)=>(by have h:=zab (f:=DExpr.sz) x.fc k hk;omega:(x.fc.getD k default).sz≤1048576))
 have HS:=yq hs6;have HHI:=yq hhi;have HO:=yq hown;clear ih hs6 hhi hown hsz hl hszx hln
 by_cases hk3:x.fh=3
 ·rw [hk3]
  have HB:=yq ((Below.refl w.heap.size w).alloc (Nat.le_refl _) (.cells #[.int .i64 3,.int .i64 x.fN,.int .i64 x.fb,.int .i64 x.fk,.string x.fd,.string x.fa,.slice a6 x.fc.length c6] 90))
  have HX:=yq (show (w.alloc (.cells #[.int .i64 3,.int .i64 x.fN,.int .i64 x.fb,.int .i64 x.fk,.string x.fd,.string x.fa,.slice a6 x.fc.length c6] 90)).heap[w.heap.size]? = some (.cells #[.int .i64 3,.int .i64 x.fN,.int .i64 x.fb,.int .i64 x.fk,.string x.fd,.string x.fa,.slice a6 x.fc.length c6] 90) from ze rfl)
  have HSZ:=yq (show (w.alloc (.cells #[.int .i64 3,.int .i64 x.fN,.int .i64 x.fb,.int .i64 x.fk,.string x.fd,.string x.fa,.slice a6 x.fc.length c6] 90)).heap.size=w.heap.size+1 by simp)
  have HOC:=yq (show (zaq ltO l (zar (zf x 0) ++ (x.fc.take 0).flatMap occE))=putL ltO ⟨x.fb,x.fa⟩ l by rw [List.take_zero,List.flatMap_nil,List.append_nil];unfold zar;rw [if_pos (show (zf x 0).fh=3 from hk3)];rfl)
  have HPT:=yq (zsy l (by have:=HLN.out;omega) ⟨x.fb,x.fa⟩ (w.alloc (.cells #[.int .i64 3,.int .i64 x.fN,.int .i64 x.fb,.int .i64 x.fk,.string x.fd,.string x.fa,.slice a6 x.fc.length c6] 90)) (zl HO.out HB.out))
  rw [← HOC.out] at HPT;clear HOC hk3
  dsimp only at HPT
  go_enter Tryz.func140,Tryz.ntmps140
  (go_wp2_with fail);refine HPT.out.mono ?_;rintro e w1 ⟨g1,c1,rfl,ho1,hb1⟩;have HO1:=yq ho1;have HBX:=yq (HB.out.trans (hb1.mono HB.out.size))
  have HXL:=yq (show w.heap.size < w1.heap.size from Nat.lt_of_lt_of_le (by have:=HSZ.out;omega) hb1.size)
  have HP6:=yq (show w1.cell? ⟨w.heap.size,6,none⟩=some (.slice a6 x.fc.length c6) from (hb1.cell (p:=⟨w.heap.size,6,none⟩) (show w.heap.size < (w.alloc (.cells #[.int .i64 3,.int .i64 x.fN,.int .i64 x.fb,.int .i64 x.fk,.string x.fd,.string x.fa,.slice a6 x.fc.length c6] 90)).heap.size by have:=HSZ.out;omega)).trans (za HX.out rfl))
  clear ho1 hb1 HPT;go_wp2
  go_loopw [1,5] (fun v i wr=>∃ k g' c':Nat,k≤x.fc.length∧i = .int .i64 (k:Int)∧v = .slice (some ⟨g',0,none⟩) (zaq ltO l (zar (zf x 0) ++ (x.fc.take k).flatMap occE)).length c'∧wr.ownsRow B 87 2 (.slice (some ⟨g',0,none⟩) ((zaq ltO l (zar (zf x 0) ++ (x.fc.take k).flatMap occE))).length c') ((zaq ltO l (zar (zf x 0) ++ (x.fc.take k).flatMap occE))).length (((zaq ltO l (zar (zf x 0) ++ (x.fc.take k).flatMap occE))).flatMap zo)∧Below w1.heap.size w1 wr) (fun _ i _=>x.fc.length - (intOf i).toNat)
  case atStart=>exact ⟨0,g1,c1,Nat.zero_le _,rfl,by simp,HO1.out,Below.refl _ _⟩
  case round =>
   obtain ⟨k,g',c',hk,rfl,rfl,ho,hbl⟩:=hrel;have HOK:=yq ho;have HBL:=yq hbl;have HBW:=yq (HBX.out.trans (hbl.mono HBX.out.size));have p6:wr.cell? ⟨w.heap.size,6,none⟩=some (.slice a6 x.fc.length c6):=(hbl.cell (p:=⟨w.heap.size,6,none⟩) HXL.out).trans HP6.out;clear ho hbl
   by_cases hlt:k < x.fc.length
   ·obtain ⟨rb,ro,rfl,_,hrb,hc⟩:=(HS.out.later HBW.out HHI.out).at k hlt
    rw [zb6 hlt] at hc;obtain ⟨a9,c9,q0,q1,q2,q3,q4,q5,q6,hs9⟩:=DExpr.open hc;have hle:=zik hlt;have hlen:=zfa (lt:=ltO) (zar (zf x 0) ++ (x.fc.take k).flatMap occE) l;rw [List.length_append] at hlen
    have HC:=yq (HIH.out k hlt (c6:=c9) (HZA.out k hlt) (zaq ltO l (zar (zf x 0) ++ (x.fc.take k).flatMap occE)) (by have:=HLN.out;omega) wr (Nat.le_trans HHI.out HBW.out.size) hs9 HOK.out)
    have HNX:=yq (show zaq ltO (zaq ltO l (zar (zf x 0) ++ (x.fc.take k).flatMap occE)) (occE (x.fc.getD k default))=(zaq ltO l (zar (zf x 0) ++ (x.fc.take (k+1)).flatMap occE)) by rw [zll hlt,← List.append_assoc];exact (zhk _ _ _).symm)
    clear hc hs9 hle hlen HZA HIH HLN;rw [HNX.out] at HC;clear HNX;generalize x.fc.getD k default=y at *;generalize (zaq ltO l (zar (zf x 0) ++ (x.fc.take k).flatMap occE))=lk at *;(go_wp2_with fail);refine HC.out.mono ?_;rintro e w2 ⟨g2,c2,rfl,ho2,hb2⟩;have HO2:=yq ho2;have HB2:=yq (HBL.out.trans (hb2.mono HBL.out.size));clear ho2 hb2;go_wp2;go_roundw
    case rel=>exact ⟨k+1,g2,c2,by omega,by go_num,rfl,HO2.out,HB2.out⟩
    case measure=>simp [intOf];omega
   ·obtain rfl:k=x.fc.length:=by omega
    rw [← HFIN.out] at HOK ⊢;go_wp2;go_ret;exact ⟨g',c',rfl,HOK.out,HBW.out⟩
 ·skip
  have HB:=yq ((Below.refl w.heap.size w).alloc (Nat.le_refl _) (.cells #[.int .i64 x.fh,.int .i64 x.fN,.int .i64 x.fb,.int .i64 x.fk,.string x.fd,.string x.fa,.slice a6 x.fc.length c6] 90))
  have HX:=yq (show (w.alloc (.cells #[.int .i64 x.fh,.int .i64 x.fN,.int .i64 x.fb,.int .i64 x.fk,.string x.fd,.string x.fa,.slice a6 x.fc.length c6] 90)).heap[w.heap.size]? = some (.cells #[.int .i64 x.fh,.int .i64 x.fN,.int .i64 x.fb,.int .i64 x.fk,.string x.fd,.string x.fa,.slice a6 x.fc.length c6] 90) from ze rfl)
  have HSZ:=yq (show (w.alloc (.cells #[.int .i64 x.fh,.int .i64 x.fN,.int .i64 x.fb,.int .i64 x.fk,.string x.fd,.string x.fa,.slice a6 x.fc.length c6] 90)).heap.size=w.heap.size+1 by simp)
  have HOC:=yq (show (zaq ltO l (zar (zf x 0) ++ (x.fc.take 0).flatMap occE))=l by rw [List.take_zero,List.flatMap_nil,List.append_nil];unfold zar;rw [if_neg (show ¬ (zf x 0).fh=3 from hk3)];rfl)
  have hkb:(x.fh == 3)=false:=beq_eq_false_iff_ne.2 hk3;have HO1:=yq (zl HO.out HB.out)
  go_enter Tryz.func140,Tryz.ntmps140
  go_wp2;have HBX:=yq HB.out
  have HXL:=yq (show w.heap.size < (w.alloc (.cells #[.int .i64 x.fh,.int .i64 x.fN,.int .i64 x.fb,.int .i64 x.fk,.string x.fd,.string x.fa,.slice a6 x.fc.length c6] 90)).heap.size by have:=HSZ.out;omega)
  have HP6:=yq (show (w.alloc (.cells #[.int .i64 x.fh,.int .i64 x.fN,.int .i64 x.fb,.int .i64 x.fk,.string x.fd,.string x.fa,.slice a6 x.fc.length c6] 90)).cell? ⟨w.heap.size,6,none⟩=some (.slice a6 x.fc.length c6) from za HX.out rfl)
  generalize w.alloc (.cells #[.int .i64 x.fh,.int .i64 x.fN,.int .i64 x.fb,.int .i64 x.fk,.string x.fd,.string x.fa,.slice a6 x.fc.length c6] 90)=w1 at *
  go_loopw [1,5] (fun v i wr=>∃ k g' c':Nat,k≤x.fc.length∧i = .int .i64 (k:Int)∧v = .slice (some ⟨g',0,none⟩) (zaq ltO l (zar (zf x 0) ++ (x.fc.take k).flatMap occE)).length c'∧wr.ownsRow B 87 2 (.slice (some ⟨g',0,none⟩) ((zaq ltO l (zar (zf x 0) ++ (x.fc.take k).flatMap occE))).length c') ((zaq ltO l (zar (zf x 0) ++ (x.fc.take k).flatMap occE))).length (((zaq ltO l (zar (zf x 0) ++ (x.fc.take k).flatMap occE))).flatMap zo)∧Below w1.heap.size w1 wr) (fun _ i _=>x.fc.length - (intOf i).toNat)
  case atStart=>exact ⟨0,g,c,Nat.zero_le _,rfl,by rw [HOC.out],by rw [HOC.out];exact HO1.out,Below.refl _ _⟩
  case round =>
   obtain ⟨k,g',c',hk,rfl,rfl,ho,hbl⟩:=hrel;have HOK:=yq ho;have HBL:=yq hbl;have HBW:=yq (HBX.out.trans (hbl.mono HBX.out.size));have p6:wr.cell? ⟨w.heap.size,6,none⟩=some (.slice a6 x.fc.length c6):=(hbl.cell (p:=⟨w.heap.size,6,none⟩) HXL.out).trans HP6.out;clear ho hbl
   by_cases hlt:k < x.fc.length
   ·obtain ⟨rb,ro,rfl,_,hrb,hc⟩:=(HS.out.later HBW.out HHI.out).at k hlt
    rw [zb6 hlt] at hc;obtain ⟨a9,c9,q0,q1,q2,q3,q4,q5,q6,hs9⟩:=DExpr.open hc;have hle:=zik hlt;have hlen:=zfa (lt:=ltO) (zar (zf x 0) ++ (x.fc.take k).flatMap occE) l;rw [List.length_append] at hlen
    have HC:=yq (HIH.out k hlt (c6:=c9) (HZA.out k hlt) (zaq ltO l (zar (zf x 0) ++ (x.fc.take k).flatMap occE)) (by have:=HLN.out;omega) wr (Nat.le_trans HHI.out HBW.out.size) hs9 HOK.out)
    have HNX:=yq (show zaq ltO (zaq ltO l (zar (zf x 0) ++ (x.fc.take k).flatMap occE)) (occE (x.fc.getD k default))=(zaq ltO l (zar (zf x 0) ++ (x.fc.take (k+1)).flatMap occE)) by rw [zll hlt,← List.append_assoc];exact (zhk _ _ _).symm)
    clear hc hs9 hle hlen HZA HIH HLN;rw [HNX.out] at HC;clear HNX;generalize x.fc.getD k default=y at *;generalize (zaq ltO l (zar (zf x 0) ++ (x.fc.take k).flatMap occE))=lk at *;(go_wp2_with fail);refine HC.out.mono ?_;rintro e w2 ⟨g2,c2,rfl,ho2,hb2⟩;have HO2:=yq ho2;have HB2:=yq (HBL.out.trans (hb2.mono HBL.out.size));clear ho2 hb2;go_wp2;go_roundw
    case rel=>exact ⟨k+1,g2,c2,by omega,by go_num,rfl,HO2.out,HB2.out⟩
    case measure=>simp [intOf];omega
   ·obtain rfl:k=x.fc.length:=by omega
    rw [← HFIN.out] at HOK ⊢;go_wp2;go_ret;exact ⟨g',c',rfl,HOK.out,HBW.out⟩
theorem zq3 (x:DExpr):zjx x:=DExpr.ind (P:=zjx) (fun x ih=>zn5 x ih) x
end Go.Proofs.YtmbaajangkmjdaaGreat
