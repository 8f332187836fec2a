/-
  Chapter 2 in the program: SortNames, AllDistinct and IndexOf, by the library's contracts for slices.Clone, slices.Sort, slices.Compact and slices.Index.
  IsValidSymbol, in the model and in the program.
-/
import Derived.Test.YtmbaajangkmjdaaGreatZShelfSrt
import Derived.Sort.OwnSorted
import Derived.Test.YtmbaajangkmjdaaGreatZz8
import Derived.Test.YtmbaajangkmjdaaGreatZDist
set_option maxHeartbeats 3200000
set_option maxRecDepth 100000
namespace Go.Proofs.YtmbaajangkmjdaaGreat
open Go.ChangeShapes Go.WideShapes Go.ChangeAt Go.RowKit
open Go.Sort
theorem zs8 {w:World} {g:Nat} {cur:Array Value} {e:TypeId} {ls:List (List UInt8)} (hb:w.heap[g]? = some (.cells cur e (0,0))) (ht:cur.toList.take ls.length=ls.map encStr):OwnStrs w g (ls.map lb):=by
 have h:=holds_of_block hb ht
 refine ⟨(Array.getElem?_eq_some_iff.1 hb).1,fun k hk=>?_,fun k=>by simp [World.frozen?,hb]⟩
 rw [List.length_map] at hk
 have:=(h k (by simpa using hk)).1
 rw [Nat.zero_add] at this;rw [this]
 simp [List.getD,hk,lb,encStr]
theorem zs6 {B b off:Nat} {w:World} {ss:List ByteArray} (h:Strs B w (some ⟨b,off,none⟩) ss) : ∀ j,j < ss.length→w.cell? ⟨b,off+j,none⟩=some (.string (ss.getD j ByteArray.empty)):=by
 intro j hj;obtain ⟨b',off',e,_,_,hc⟩:=h.at j hj
 injection e with e
 injection e with e1 e2
 rw [e1,e2];exact hc
def RowL (w:World) (g cap:Nat) (ls:List (List UInt8)):Prop :=
 ∃ cur:Array Value,w.heap[g]? = some (.cells cur 9 (0,0))∧cur.toList.take ls.length=ls.map encStr∧cur.size=cap
theorem zv5 {g cap:Nat} (ls:List (List UInt8)) (w:World) (h:RowL w g cap ls) (hn:ls.length≤1048576) (hc:ls.length≤cap) :
  Calls Tryz.prog 148 #[.slice (some ⟨g,0,none⟩) ls.length cap] w fun e w'=>e = .returned (.tuple #[])∧RowL w' g cap (sl ls)∧w.grownBy w' (some g):=by
 obtain ⟨cur,h1,h2,h3⟩:=h
 refine (Tryz.slices_Sort_string g 0 cap ls w (holds_of_block h1 h2) (Array.getElem?_eq_some_iff.1 h1).1 (by omega)).mono ?_
 rintro e w' ⟨rfl,n,os,rfl⟩
 exact ⟨rfl,⟨_,heap_sorted _ h1,take_putCells cur _ (by show (sl ls).length≤_;rw [zql];omega),by simp [putCells,h3]⟩,grownBy_sorted _⟩
theorem zmf {α : Type} {l a b:List α} (h:l=a ++ b):l.take a.length=a:=by rw [h];simp
theorem zq8 {g cap:Nat} (ls:List (List UInt8)) (w:World) (h:RowL w g cap ls) (hn:ls.length≤1048576) (hc:ls.length≤cap) :
  Calls Tryz.prog 149 #[.slice (some ⟨g,0,none⟩) ls.length cap] w fun e w'=>e = .returned (.slice (some ⟨g,0,none⟩) (Lib.compact ls).length cap)∧RowL w' g cap (Lib.compact ls)∧w.grownBy w' (some g):=by
 obtain ⟨cur,h1,h2,h3⟩:=h
 refine (Tryz.slices_Compact_string g 0 cap ls w (holds_of_block h1 h2) (by omega) hc).mono ?_
 rintro e w' ⟨rfl,q,rfl⟩
 have hle:(Lib.compact ls).length≤ls.length:=by
  unfold Lib.compact Lib.compactUpTo
  rw [List.length_map]
  exact Nat.le_trans (List.length_filter_le _ _) (by simp)
 have hlen:(Lib.compact ls ++ List.replicate (ls.length - (Lib.compact ls).length) []).length=ls.length:=by
  rw [List.length_append,List.length_replicate];omega
 have e0 : ∀ d,putRow encStr (Sort.ahead w q) g 0 d=grow (putRow encStr (Sort.ahead w q) g 0 d) #[]:=fun d=>(grow_empty _).symm
 refine ⟨rfl,?_,?_⟩
 ·rw [e0]
  have ht:=take_putCells cur (Lib.compact ls ++ List.replicate (ls.length - (Lib.compact ls).length) []) (by rw [hlen];omega)
  refine ⟨_,heap_sorted _ h1,?_,by simp [putCells,h3]⟩
  have h4:=congrArg (List.take (Lib.compact ls).length) ht;rw [List.take_take,hlen,Nat.min_eq_left hle,List.map_append] at h4;rw [h4];have h5:=zmf (l:=(Lib.compact ls).map encStr ++ (List.replicate (ls.length - (Lib.compact ls).length) ([]:List UInt8)).map encStr) rfl;rw [List.length_map] at h5;exact h5
 ·rw [e0];exact grownBy_sorted _
theorem zmw {B b off cap:Nat} (ss:List ByteArray) (hn:ss.length≤1048576) (w:World) (hs:Strs B w (some ⟨b,off,none⟩) ss) :
  Calls Tryz.prog 116 #[.slice (some ⟨b,off,none⟩) ss.length cap] w fun e w'=>∃ g cap',e = .returned (.slice (some ⟨g,0,none⟩) (srt ss).length cap')∧w.heap.size≤g∧OwnStrs w' g (srt ss)∧Below w.heap.size w w':=by
 have hC:Calls Tryz.prog 147 #[.slice (some ⟨b,off,none⟩) ss.length cap] w fun e w'=>∃ g cap',e = .returned (.slice (some ⟨g,0,none⟩) ss.length cap')∧w.heap.size≤g∧RowL w' g cap' (ss.map bl)∧ss.length≤cap'∧Below w.heap.size w w':=by
  have h:=Tryz.slices_Clone_string b off ss.length cap ss w (Nat.le_refl _) (by omega) (zs6 hs)
  rw [List.take_length] at h;refine h.mono ?_;rintro e w1 ⟨v1,rfl,hown,hne,hb⟩
  rcases hown.2 with ⟨hnil,_⟩|⟨g,cap',cur,rfl,hg,hblk,h1,h2,h3,h4⟩
  ·exact absurd hnil hne
  ·have e0:(ss.map Value.string)=(ss.map bl).map encStr:=by
    rw [List.map_map];exact List.map_congr_left fun x _=>rfl
   refine ⟨g,cap',rfl,hg,⟨cur,hblk,?_,by omega⟩,h1,hb⟩
   rw [Nat.mul_one,e0] at h4;rw [List.length_map];exact h4
 have HC:=yq hC
 have HL:=yq (show (ss.map bl).length=ss.length from List.length_map ..)
 have HF:Hid (∀ w,OwnStrs w 0 (srt ss)→OwnStrs w 0 (srt ss)):=fun _ h=>h
 clear hC hs HF
 go_enter Tryz.func116,Tryz.ntmps116
 (go_wp2_with fail);refine HC.out.mono ?_;rintro e w1 ⟨g,cap',rfl,hg,hrow,hcap,hb⟩;have HB:=yq hb
 have hS:=zv5 (ss.map bl) w1 hrow (by rw [HL.out];exact hn) (by rw [HL.out];exact hcap)
 rw [HL.out] at hS;have HS:=yq hS;clear hS hb hrow HC;(go_wp2_with fail);refine HS.out.mono ?_;rintro e w2 ⟨rfl,hrow,hgr⟩
 have hsl:(sl (ss.map bl)).length=ss.length:=by rw [zql,HL.out]
 have hS:=zq8 (sl (ss.map bl)) w2 hrow (by rw [hsl];exact hn) (by rw [hsl];exact hcap)
 have hb:=HB.out.grown hgr HB.out.size (fun j hj=>by cases hj;exact hg)
 rw [hsl] at hS;have HB2:=yq hb;have HS2:=yq hS;clear hS hb hrow hgr HS hsl;(go_wp2_with fail);refine HS2.out.mono ?_;rintro e w3 ⟨rfl,hrow,hgr⟩
 have hb:=HB2.out.grown hgr HB2.out.size (fun j hj=>by cases hj;exact hg)
 have HR:=yq hrow;have HB3:=yq hb;clear hrow hgr hb;go_wp2;go_ret;obtain ⟨cur,k1,k2,k3⟩:=HR.out;refine ⟨g,cap',?_,hg,zs8 k1 k2,HB3.out⟩
 show _=Ending.returned (.slice _ ((srtL (ss.map bl)).map lb).length _)
 rw [List.length_map]
 rfl
theorem ziy {B b off cap:Nat} (ss:List ByteArray) (hn:ss.length≤1048576) (w:World) (hs:Strs B w (some ⟨b,off,none⟩) ss) :
  Calls Tryz.prog 78 #[.slice (some ⟨b,off,none⟩) ss.length cap] w fun e w'=>e = .returned (.bool (nodB ss))∧Below w.heap.size w w':=by
 have HS:=yq (zmw (cap:=cap) ss hn w hs);have hle:=zgn ss;have HL:=yq hle
 have hX:((srt ss).length:Int)≤1048576:=by omega
 have t1:(((srt ss).length:Int) == (ss.length:Int))=decide ((srt ss).length=ss.length):=by
  rw [Bool.eq_iff_iff,beq_iff_eq,decide_eq_true_eq];omega
 have T1:=yq t1;clear hs hle hX t1
 go_enter Tryz.func78,Tryz.ntmps78
 (go_wp2_with fail);refine HS.out.mono ?_;rintro e w1 ⟨g,cap',rfl,_,_,hb⟩;go_wp2;go_ret;exact ⟨zal T1.out,hb⟩
end Go.Proofs.YtmbaajangkmjdaaGreat
namespace Go.Proofs.YtmbaajangkmjdaaGreat
open Go.ChangeShapes Go.WideShapes Go.ChangeAt Go.RowKit Go.Deep
def vS (s:ByteArray):List Value:=[.string s]
theorem zya (s:ByteArray):(vS s).length=1:=rfl
def ze1 (a:DAttribute):Bool:=zow a.fa a.fk a.fv a.fx
def za6 (l:List DAttribute):List ByteArray:=l.map DAttribute.fa
def symV (nm:ByteArray) (l:List DAttribute):Bool:=zi nm && (decide (l.length≤4) && (l.all ze1 && nodB (za6 l)))
theorem zpt {nm:ByteArray} {l:List DAttribute} {j:Nat} (hj:j < l.length) (h:ze1 (l.getD j default)=false):symV nm l=false:=by
 have h1:l.all ze1=false:=by
  rw [List.all_eq_false]
  refine ⟨l.getD j default,?_,by rw [h];simp⟩
  rw [List.getD_eq_getElem?_getD,List.getElem?_eq_getElem hj];exact List.getElem_mem hj
 unfold symV
 rw [h1,Bool.false_and,Bool.and_false,Bool.and_false]
theorem zph {nm:ByteArray} {l:List DAttribute} (h:zi nm=false):symV nm l=false:=by unfold symV;rw [h];rfl
theorem zsd {nm:ByteArray} {l:List DAttribute} (h : ¬ l.length≤4):symV nm l=false:=by unfold symV;rw [decide_eq_false h,Bool.false_and,Bool.and_false]
theorem zsn {nm:ByteArray} {l:List DAttribute} (h1:zi nm=true) (h2:l.length≤4) (h3 : ∀ k,k < l.length→ze1 (l.getD k default)=true):symV nm l=nodB (za6 l):=by
 have h4:l.all ze1=true:=by
  rw [List.all_eq_true];intro x hx;obtain ⟨k,hk,rfl⟩:=List.getElem_of_mem hx
  have:=h3 k hk
  rw [List.getD_eq_getElem?_getD,List.getElem?_eq_getElem hk] at this;exact this
 unfold symV
 rw [h1,decide_eq_true h2,h4]
 rfl
theorem znh {l:List DAttribute} {j:Nat} (hj:j < l.length):za6 (l.take (j+1))=za6 (l.take j) ++ [(l.getD j default).fa]:=by
 rw [zcq hj]
 unfold za6
 rw [List.map_append]
 rfl
theorem zpz {l:List DAttribute} {j:Nat} (hj:j≤l.length):(za6 (l.take j)).length=j:=by unfold za6;rw [List.length_map,List.length_take];omega
theorem zvs {α : Type} [Inhabited α] (f : α → Nat) : ∀ (l:List α) (k:Nat),k < l.length→f (l.getD k default)≤lsz f l
 | [],_,h=>absurd h (Nat.not_lt_zero _)
 | x :: l,0,_=>by
  unfold lsz
  rw [List.getD_cons_zero,List.map_cons,List.sum_cons]
  omega
 | x :: l,k+1,h=>by
  have ih:=zvs f l k (by simpa using h)
  unfold lsz at *
  rw [List.getD_cons_succ,List.map_cons,List.sum_cons,List.length_cons]
  omega
theorem znd {l:List DAttribute} (h:lsz DAttribute.sz l≤1048576) : ∀ k,((za6 l).getD k ByteArray.empty).size≤9223372036854775807:=by
 intro k
 rcases Nat.lt_or_ge k l.length with hk|hk
 ·have h1:=zvs DAttribute.sz l k hk
  have h2:(za6 l).getD k ByteArray.empty=(l.getD k default).fa:=by
   unfold za6
   rw [List.getD_eq_getElem?_getD,List.getElem?_map,List.getElem?_eq_getElem hk,List.getD_eq_getElem?_getD,List.getElem?_eq_getElem hk]
   rfl
  rw [h2]
  unfold DAttribute.sz at *
  omega
 ·rw [List.getD_eq_getElem?_getD,List.getElem?_eq_none (by unfold za6;rw [List.length_map];exact hk)]
  exact Nat.zero_le _
theorem zcl {w w':World} {base:Nat} {e:TypeId} {size:Nat} {v:Value} {n:Nat} {xs:List Value} (h:w.ownsRow base e size v n xs) (hb:Below w.heap.size w w'):w'.ownsRow base e size v n xs :=
 h.kept (row:=none) ⟨hb.os,hb.tape,hb.output,hb.size,fun k hk _=>hb.block k hk⟩ (Classical.byCases Or.inl fun hn=>Or.inr hn)
theorem zfe {w:World} {B:Nat} {v:Value} {L:List ByteArray} (h:w.ownsRow B 9 1 v L.length (L.flatMap vS)) (hz : ∀ k,(L.getD k ByteArray.empty).size≤9223372036854775807) :
  (v = .slice none 0 0∧L=[]) ∨ ∃ g cap,v = .slice (some ⟨g,0,none⟩) L.length cap∧L.length≤cap∧Strs w.heap.size w (some ⟨g,0,none⟩) L:=by
 rcases h.2 with ⟨hv,hn⟩|⟨g,cap,cur,hv,hg,hblk,h1,h2,h3,h4⟩
 ·exact Or.inl ⟨hv,by first|exact List.length_eq_zero_iff.1 hn|simpa using hn⟩
 ·subst hv
  refine Or.inr ⟨g,cap,rfl,h1,Or.inr ⟨g,0,rfl,(h.lt g rfl).2,fun k hk=>⟨hz k,?_⟩⟩⟩
  have h5:=zg9 zya L k 0 hk (by decide)
  rw [Nat.mul_one,Nat.add_zero] at h5
  rw [Nat.zero_add,h.cellAt k (by omega),h5]
  rfl
theorem zsv {w:World} {B n:Nat} {v:Value} {L:List ByteArray} (h:w.ownsRow B 9 1 v L.length (L.flatMap vS)) (hz : ∀ k,(L.getD k ByteArray.empty).size≤9223372036854775807) (hn:L.length=n) : ∃ a c,v = .slice a n c:=by
 subst hn
 rcases zfe h hz with ⟨h1,h2⟩|⟨g,cap,h1,_,_⟩
 ·exact ⟨none,0,by rw [h1,h2];rfl⟩
 ·exact ⟨_,cap,h1⟩
theorem zg2 (w:World) :
  Calls Tryz.prog 116 #[.slice none 0 0] w fun e w'=>e = .returned (.slice none 0 0)∧Below w.heap.size w w':=by
 have HC:=yq (Tryz.slices_Clone_string_nil 0 0 w)
 have HS:=yq (fun W:World=>Tryz.slices_Sort_string_none none 0 W)
 have HP:=yq (fun W:World=>Tryz.slices_Compact_string_empty none 0 W)
 have HB:=yq (Below.refl w.heap.size w)
 go_enter Tryz.func116,Tryz.ntmps116
 (go_wp2_with fail);refine HC.out.mono ?_;rintro e w1 ⟨rfl,rfl⟩;(go_wp2_with fail);refine (HS.out _).mono ?_;rintro e w2 ⟨rfl,rfl⟩;(go_wp2_with fail);refine (HP.out _).mono ?_;rintro e w3 ⟨rfl,rfl⟩;go_wp2;go_ret;exact ⟨rfl,HB.out⟩
theorem zfr (w:World) :
  Calls Tryz.prog 78 #[.slice none 0 0] w fun e w'=>e = .returned (.bool (nodB []))∧Below w.heap.size w w':=by
 have HS:=yq (zg2 w);have fin:=yq (zsb (ss:=[]) List.nodup_nil)
 go_enter Tryz.func78,Tryz.ntmps78
 (go_wp2_with fail);refine HS.out.mono ?_;rintro e w1 ⟨rfl,hb⟩;go_wp2;go_ret;exact ⟨zal fin.out.symm,hb⟩
theorem zfm {w:World} {B:Nat} {v:Value} {L:List ByteArray} (h:w.ownsRow B 9 1 v L.length (L.flatMap vS)) (hn:L.length≤1048576) (hz : ∀ k,(L.getD k ByteArray.empty).size≤9223372036854775807) :
  Calls Tryz.prog 78 #[v] w fun e w'=>e = .returned (.bool (nodB L))∧Below w.heap.size w w':=by
 rcases zfe h hz with ⟨rfl,rfl⟩|⟨g,cap,rfl,_,hs⟩
 ·exact zfr w
 ·exact ziy L hn w hs
theorem zfq {w:World} {B:Nat} {v:Value} {L:List ByteArray} (h:w.ownsRow B 9 1 v L.length (L.flatMap vS)) (hn:L.length≤1048576) (hz : ∀ k,(L.getD k ByteArray.empty).size≤9223372036854775807) :
  Calls Tryz.prog 64 #[v] w fun e w'=>e = .returned (.bool (nodB L))∧Below w.heap.size w w':=by
 rcases zfe h hz with ⟨rfl,rfl⟩|⟨g,cap,rfl,hc,hs⟩
 ·exact zek (B:=0) (cap:=0) (a:=none) [] (by decide) (Nat.le_refl _) w (show Strs 0 w none [] from Or.inl rfl)
 ·exact zek L hn hc w hs
theorem zgh {lo hi:Nat} {a1:Option Addr} {c0_0:Nat} (s:DSymbol) (_:s.ok) (hsz:s.sz≤1048576) (w:World) (hhi:hi≤w.heap.size) (hs:Sl lo hi w 4 s.fu.length (fun k=>DAttribute.ct (s.fu.getD k default)) a1) :
  Calls Tryz.prog 37 #[.agg #[.string s.fa,.slice a1 s.fu.length c0_0]] w fun e w'=>e = .returned (.bool (symV s.fa s.fu))∧Below w.heap.size w w':=by
 have hl:lsz DAttribute.sz s.fu≤1048576:=by unfold DSymbol.sz at hsz;omega
 have hns:s.fa.size≤1048576:=by unfold DSymbol.sz at hsz;omega
 have hn:s.fu.length≤1048576:=by unfold lsz at hl;omega
 generalize s.fu=l at *;generalize s.fa=nm at *;have HB:=yq ((Below.refl w.heap.size w).alloc (Nat.le_refl _) (.cells #[.string nm,.slice a1 l.length c0_0] 42))
 have HE:=yq (show Below (w.heap.size+1) (w.alloc (.cells #[.string nm,.slice a1 l.length c0_0] 42)) (w.alloc (.cells #[.string nm,.slice a1 l.length c0_0] 42)) from Below.refl _ _)
 have HSZ:=yq (show (w.alloc (.cells #[.string nm,.slice a1 l.length c0_0] 42)).heap.size=w.heap.size+1 by simp)
 have HX:=yq (show (w.alloc (.cells #[.string nm,.slice a1 l.length c0_0] 42)).cell? ⟨w.heap.size,1,none⟩=some (.slice a1 l.length c0_0) by go_simp)
 have HX0:=yq (show (w.alloc (.cells #[.string nm,.slice a1 l.length c0_0] 42)).cell? ⟨w.heap.size,0,none⟩=some (.string nm) by go_simp)
 have HS:=yq (hs.later HB.out hhi);have HHI:=yq hhi
 have HNM:=yq (fun W:World=>zag nm hns W)
 have HAT:=yq (fun (a:DAttribute) (h:a.fa.size≤1048576) (W:World)=>ze6 a.fa a.fk a.fv a.fx h W)
 have HNZ:=yq (znd hl);have HLZ:=yq hl;obtain ⟨i0,hi',hz0,hz1,hz2⟩:=info_parts zla;clear hs hsz hhi hl hns
 have HO0:=yq (show ((w.alloc (.cells #[.string nm,.slice a1 l.length c0_0] 42)).alloc (.cells #[] 9)).ownsRow (w.heap.size+1) 9 1 (.slice (some ⟨w.heap.size+1,0,none⟩) 0 0) 0 [] from by have h:=zc3 (w:=w.alloc (.cells #[.string nm,.slice a1 l.length c0_0] 42)) (e:=9) (n:=1) (vals:=vS);rw [HSZ.out] at h;exact h)
 go_enter Tryz.func37,Tryz.ntmps37
 go_wp2
 go_loopw [3,4] (fun v i wr=>∃ j:Nat,j≤l.length∧i = .int .i64 (j:Int)∧(∀ k,k < j→ze1 (l.getD k default)=true)∧wr.ownsRow (w.heap.size+1) 9 1 v (za6 (l.take j)).length ((za6 (l.take j)).flatMap vS)∧Below (w.heap.size+1) (w.alloc (.cells #[.string nm,.slice a1 l.length c0_0] 42)) wr) (fun _ i _=>l.length - (intOf i).toNat)
 case atStart=>exact ⟨0,Nat.zero_le _,rfl,fun k hk=>absurd hk (Nat.not_lt_zero _),HO0.out,HE.out.alloc (by simp) _⟩
 case round =>
  obtain ⟨j,hj,rfl,hall,hown,hbl⟩:=hrel;have HALL:=yq hall;have HO:=yq hown;have HBL:=yq hbl
  have hsz1:w.heap.size+1≤wr.heap.size:=by have:=hbl.size;rw [HSZ.out] at this;exact this
  have hx1:wr.cell? ⟨w.heap.size,1,none⟩=some (.slice a1 l.length c0_0):=(hbl.cell (p:=⟨w.heap.size,1,none⟩) (Nat.lt_succ_self _)).trans HX.out;have hx0:wr.cell? ⟨w.heap.size,0,none⟩=some (.string nm):=(hbl.cell (p:=⟨w.heap.size,0,none⟩) (Nat.lt_succ_self _)).trans HX0.out;clear hown hbl hall
  by_cases hlt:j < l.length
  ·have HST:=yq (znh hlt)
   have hln:(za6 (l.take j)).length≤1048576:=by rw [zpz hj];omega
   have HAV:=yq (fun h:ze1 (l.getD j default)=false=>zpt (nm:=nm) hlt h)
   have hfz:(l.getD j default).fa.size≤1048576:=Nat.le_trans (show DAttribute.sz (l.getD j default)≤_ from zvs DAttribute.sz l j hlt) HLZ.out
   have HA1:=yq (HAT.out (l.getD j default) hfz);obtain ⟨b,off,rfl,_,hbh,hc⟩:=(HS.out.later HBL.out (Nat.le_trans HHI.out (Nat.le_succ _))).at j hlt;obtain ⟨hc0,hc1,hc2,hc3⟩:=DAttribute.open hc;have hbw:b < w.heap.size:=Nat.lt_of_lt_of_le hbh HHI.out;clear hc hfz
   rw [show zow (l.getD j default).fa (l.getD j default).fk (l.getD j default).fv (l.getD j default).fx=ze1 (l.getD j default) from rfl] at HA1
   have HAJ:Hid (ze1 (l.getD j default)=true → ∀ k,k < j+1→ze1 (l.getD k default)=true):=by
    show _→_
    intro h k hk
    rcases Nat.lt_or_ge k j with h1|h1
    ·exact HALL.out k h1
    ·rw [show k=j by omega];exact h
   generalize za6 (l.take j)=L at *;generalize ze1 (l.getD j default)=av at *;generalize (l.getD j default).fa=x at *;generalize (l.getD j default).fk=y1 at *;generalize (l.getD j default).fv=y2 at *;generalize (l.getD j default).fx=y3 at *;(go_wp2_with fail);refine (HA1.out _).mono ?_;rintro e w1 ⟨rfl,hb⟩
   have hst:=yq (show Below (w.heap.size+1) (w.alloc (.cells #[.string nm,.slice (some ⟨b,off,none⟩) l.length c0_0] 42)) w1 from HBL.out.trans (hb.mono hsz1))
   have HO1:=yq (zcl HO.out hb);have hsz2:w.heap.size+1≤w1.heap.size:=Nat.le_trans hsz1 hb.size
   have hy1:=(hb.cell (p:=⟨w.heap.size,1,none⟩) (show w.heap.size < wr.heap.size by omega)).trans hx1
   have hd0:=(hb.cell (p:=⟨b,off+j * 4,none⟩) (show b < wr.heap.size by omega)).trans hc0
   clear hb HA1 HAT
   cases av
   ·have fin:=yq (HAV.out rfl)
    go_wp2;go_ret;exact ⟨zal fin.out.symm,HB.out.trans (hst.out.mono (Nat.le_succ _))⟩
   ·have HAK:=yq (HAJ.out rfl)
    go_wp2_with (at_builtin;refine wpList_append_own _ rfl (.tmp 20) (.tmp 27) 46 rfl (w.heap.size+1) 9 i0 (.string ⟨#[]⟩) 1 16 Tryz.underlying46 hi' hz0 hz1 hz2 rfl (by decide) _ _ _ rfl (HO1.out.alloc _) ⟨w1.heap.size,0,none⟩ 1 1 [.string x] rfl rfl (cell_one_new _ _ _) (by intro u hu;simp at hu;subst hu;rfl) yl (by omega) ye ?_;intro v' w2 hown' hgrow hnil)
    have R1:=yq (zbs (l:=L) (x:=x) (vals:=vS) hown' rfl);rw [← HST.out] at R1
    have R3:=yq (show Below (w.heap.size+1) (w.alloc (.cells #[.string nm,.slice (some ⟨b,off,none⟩) l.length c0_0] 42)) w2 from (hst.out.alloc hsz2 _).grown hgrow ye (fun g hg=>(HO1.out.lt g hg).1))
    clear hown' hgrow hnil;go_wp2;go_roundw
    case rel=>exact ⟨j+1,by omega,by go_num,HAK.out,R1.out,R3.out⟩
    case measure=>simp [intOf];omega
  ·obtain rfl:j=l.length:=by omega
   have HNZ2:=HNZ.out;have ho:=HO.out;rw [List.take_length] at ho;have HO2:=yq ho
   have HLN:=yq (show (za6 l).length≤1048576 by unfold za6;rw [List.length_map];exact hn)
   have HLL:=yq (show (za6 l).length=l.length by unfold za6;rw [List.length_map])
   clear ho;obtain ⟨a,c,rfl⟩:=zsv HO2.out HNZ2 HLL.out
   by_cases hv:zi nm=true
   ·rw [hv] at HNM
    by_cases h4:l.length≤4
    ·have fin:=yq (zsn hv h4 HALL.out)
     have hcmp:decide ((l.length:Int)≤4)=true:=decide_eq_true (by omega)
     have hc4:(l.length:Int)≤4:=by omega
     (go_wp2_with fail);refine (HNM.out _).mono ?_;rintro e w1 ⟨rfl,hb⟩
     have HB1:=yq (show Below w.heap.size w w1 from HB.out.trans (((HBL.out.trans (hb.mono hsz1)).mono (Nat.le_succ _))))
     have HO3:=yq (zcl HO2.out hb);clear hb;(go_wp2_with fail);refine (zfq HO3.out HLN.out HNZ2).mono ?_;rintro e w2 ⟨rfl,hb2⟩;generalize nodB (za6 l)=nb at *;go_wp2;go_ret;exact ⟨zal fin.out.symm,HB1.out.trans (hb2.mono HB1.out.size)⟩
    ·have fin:=yq (zsd (nm:=nm) h4)
     have hcmp:decide ((l.length:Int)≤4)=false:=decide_eq_false (by omega)
     have hc4:4 < (l.length:Int):=by omega
     (go_wp2_with fail);refine (HNM.out _).mono ?_;rintro e w1 ⟨rfl,hb⟩
     have HB1:=yq (show Below w.heap.size w w1 from HB.out.trans (((HBL.out.trans (hb.mono hsz1)).mono (Nat.le_succ _))))
     clear hb;go_wp2;go_ret;exact ⟨zal fin.out.symm,HB1.out⟩
   ·have hv':=Bool.eq_false_iff.2 hv
    have fin:=yq (zph (l:=l) hv');rw [hv'] at HNM;(go_wp2_with fail);refine (HNM.out _).mono ?_;rintro e w1 ⟨rfl,hb⟩
    have HB1:=yq (show Below w.heap.size w w1 from HB.out.trans (((HBL.out.trans (hb.mono hsz1)).mono (Nat.le_succ _))))
    clear hb;go_wp2;go_ret;exact ⟨zal fin.out.symm,HB1.out⟩
theorem zgt {lo hi:Nat} {a1:Option Addr} {c0_0:Nat} (s:DSymbol) (_:s.ok) (hsz:s.sz≤1048576) (w:World) (hhi:hi≤w.heap.size) (hs:Sl lo hi w 4 s.fu.length (fun k=>DAttribute.ct (s.fu.getD k default)) a1) :
  Calls Tryz.prog 47 #[.agg #[.string s.fa,.slice a1 s.fu.length c0_0]] w fun e w'=>e = .returned (.bool (symV s.fa s.fu))∧Below w.heap.size w w':=by
 have hl:lsz DAttribute.sz s.fu≤1048576:=by unfold DSymbol.sz at hsz;omega
 have hns:s.fa.size≤1048576:=by unfold DSymbol.sz at hsz;omega
 have hn:s.fu.length≤1048576:=by unfold lsz at hl;omega
 generalize s.fu=l at *;generalize s.fa=nm at *;have HB:=yq ((Below.refl w.heap.size w).alloc (Nat.le_refl _) (.cells #[.string nm,.slice a1 l.length c0_0] 42))
 have HE:=yq (show Below (w.heap.size+1) (w.alloc (.cells #[.string nm,.slice a1 l.length c0_0] 42)) (w.alloc (.cells #[.string nm,.slice a1 l.length c0_0] 42)) from Below.refl _ _)
 have HSZ:=yq (show (w.alloc (.cells #[.string nm,.slice a1 l.length c0_0] 42)).heap.size=w.heap.size+1 by simp)
 have HX:=yq (show (w.alloc (.cells #[.string nm,.slice a1 l.length c0_0] 42)).cell? ⟨w.heap.size,1,none⟩=some (.slice a1 l.length c0_0) by go_simp)
 have HX0:=yq (show (w.alloc (.cells #[.string nm,.slice a1 l.length c0_0] 42)).cell? ⟨w.heap.size,0,none⟩=some (.string nm) by go_simp)
 have HS:=yq (hs.later HB.out hhi);have HHI:=yq hhi
 have HNM:=yq (fun W:World=>zai nm hns W)
 have HAT:=yq (fun (a:DAttribute) (h:a.fa.size≤1048576) (W:World)=>zep a.fa a.fk a.fv a.fx h W)
 have HNZ:=yq (znd hl);have HLZ:=yq hl;obtain ⟨i0,hi',hz0,hz1,hz2⟩:=info_parts zla;clear hs hsz hhi hl hns
 by_cases hv:zi nm=true
 rotate_left
 ·have hv':=Bool.eq_false_iff.2 hv
  have fin:=yq (zph (l:=l) hv');rw [hv'] at HNM
  go_enter Tryz.func47,Tryz.ntmps47
  (go_wp2_with fail);refine (HNM.out _).mono ?_;rintro e w1 ⟨rfl,hb⟩
  have HB1:=yq (show Below w.heap.size w w1 from HB.out.trans (hb.mono HB.out.size))
  clear hb;go_wp2;go_ret;exact ⟨zal fin.out.symm,HB1.out⟩
 rw [hv] at HNM
 by_cases h4:l.length≤4
 rotate_left
 ·have fin:=yq (zsd (nm:=nm) h4)
  have hcmp:decide ((l.length:Int) > 4)=true:=decide_eq_true (by omega)
  have hc4:4 < (l.length:Int):=by omega
  go_enter Tryz.func47,Tryz.ntmps47
  (go_wp2_with fail);refine (HNM.out _).mono ?_;rintro e w1 ⟨rfl,hb⟩
  have HB1:=yq (show Below w.heap.size w w1 from HB.out.trans (hb.mono HB.out.size))
  have hq1:=(hb.cell (p:=⟨w.heap.size,1,none⟩) (by simp)).trans HX.out
  clear hb;go_wp2;go_ret;exact ⟨zal fin.out.symm,HB1.out⟩
 have hc4:(l.length:Int)≤4:=by omega
 go_enter Tryz.func47,Tryz.ntmps47
 (go_wp2_with fail);refine (HNM.out _).mono ?_;rintro e w0 ⟨rfl,hb⟩
 have HB0:=yq (show Below (w.heap.size+1) (w.alloc (.cells #[.string nm,.slice a1 l.length c0_0] 42)) w0 from hb.mono (by simp))
 have hq1:=(hb.cell (p:=⟨w.heap.size,1,none⟩) (by simp)).trans HX.out
 clear hb;go_wp2
 go_loopw [3,19] (fun v i wr=>∃ j:Nat,j≤l.length∧i = .int .i64 (j:Int)∧(∀ k,k < j→ze1 (l.getD k default)=true)∧wr.ownsRow (w.heap.size+1) 9 1 v (za6 (l.take j)).length ((za6 (l.take j)).flatMap vS)∧Below (w.heap.size+1) (w.alloc (.cells #[.string nm,.slice a1 l.length c0_0] 42)) wr) (fun _ i _=>l.length - (intOf i).toNat)
 case atStart=>exact ⟨0,Nat.zero_le _,rfl,fun k hk=>absurd hk (Nat.not_lt_zero _),zg7,HB0.out⟩
 case round =>
  obtain ⟨j,hj,rfl,hall,hown,hbl⟩:=hrel;have HALL:=yq hall;have HO:=yq hown;have HBL:=yq hbl
  have hsz1:w.heap.size+1≤wr.heap.size:=by have:=hbl.size;rw [HSZ.out] at this;exact this
  have hx1:wr.cell? ⟨w.heap.size,1,none⟩=some (.slice a1 l.length c0_0):=(hbl.cell (p:=⟨w.heap.size,1,none⟩) (Nat.lt_succ_self _)).trans HX.out;have hx0:wr.cell? ⟨w.heap.size,0,none⟩=some (.string nm):=(hbl.cell (p:=⟨w.heap.size,0,none⟩) (Nat.lt_succ_self _)).trans HX0.out;clear hown hbl hall
  by_cases hlt:j < l.length
  ·have HST:=yq (znh hlt)
   have hln:(za6 (l.take j)).length≤1048576:=by rw [zpz hj];omega
   have HAV:=yq (fun h:ze1 (l.getD j default)=false=>zpt (nm:=nm) hlt h)
   have hfz:(l.getD j default).fa.size≤1048576:=Nat.le_trans (show DAttribute.sz (l.getD j default)≤_ from zvs DAttribute.sz l j hlt) HLZ.out
   have HA1:=yq (HAT.out (l.getD j default) hfz);obtain ⟨b,off,rfl,_,hbh,hc⟩:=(HS.out.later HBL.out (Nat.le_trans HHI.out (Nat.le_succ _))).at j hlt;obtain ⟨hc0,hc1,hc2,hc3⟩:=DAttribute.open hc;have hbw:b < w.heap.size:=Nat.lt_of_lt_of_le hbh HHI.out;clear hc hfz
   rw [show zow (l.getD j default).fa (l.getD j default).fk (l.getD j default).fv (l.getD j default).fx=ze1 (l.getD j default) from rfl] at HA1
   have HAJ:Hid (ze1 (l.getD j default)=true → ∀ k,k < j+1→ze1 (l.getD k default)=true):=by
    show _→_
    intro h k hk
    rcases Nat.lt_or_ge k j with h1|h1
    ·exact HALL.out k h1
    ·rw [show k=j by omega];exact h
   generalize za6 (l.take j)=L at *;generalize ze1 (l.getD j default)=av at *;generalize (l.getD j default).fa=x at *;generalize (l.getD j default).fk=y1 at *;generalize (l.getD j default).fv=y2 at *;generalize (l.getD j default).fx=y3 at *;(go_wp2_with fail);refine (HA1.out _).mono ?_;rintro e w1 ⟨rfl,hb⟩
   have hst:=yq (show Below (w.heap.size+1) (w.alloc (.cells #[.string nm,.slice (some ⟨b,off,none⟩) l.length c0_0] 42)) w1 from (HBL.out.alloc hsz1 (.cells #[.string x,.int .i64 y1,.int .i64 y2,.bool y3] 44)).trans (hb.mono (by simp;omega)))
   have HO1:=yq (zcl (HO.out.alloc (.cells #[.string x,.int .i64 y1,.int .i64 y2,.bool y3] 44)) hb)
   have hsz2:w.heap.size+1≤w1.heap.size:=Nat.le_trans (by simp;omega) hb.size
   have hd0:w1.cell? ⟨wr.heap.size,0,none⟩=some (.string x):=(hb.cell (p:=⟨wr.heap.size,0,none⟩) (by simp)).trans (by go_simp)
   clear hb HA1 HAT
   cases av
   ·have fin:=yq (HAV.out rfl)
    go_wp2;go_ret;exact ⟨zal fin.out.symm,HB.out.trans (hst.out.mono (Nat.le_succ _))⟩
   ·have HAK:=yq (HAJ.out rfl)
    go_wp2_with (at_builtin;refine wpList_append_own _ rfl (.tmp 26) (.tmp 29) 46 rfl (w.heap.size+1) 9 i0 (.string ⟨#[]⟩) 1 16 Tryz.underlying46 hi' hz0 hz1 hz2 rfl (by decide) _ _ _ rfl (HO1.out.alloc _) ⟨w1.heap.size,0,none⟩ 1 1 [.string x] rfl rfl (cell_one_new _ _ _) (by intro u hu;simp at hu;subst hu;rfl) yl (by omega) ye ?_;intro v' w2 hown' hgrow hnil)
    have R1:=yq (zbs (l:=L) (x:=x) (vals:=vS) hown' rfl);rw [← HST.out] at R1
    have R3:=yq (show Below (w.heap.size+1) (w.alloc (.cells #[.string nm,.slice (some ⟨b,off,none⟩) l.length c0_0] 42)) w2 from (hst.out.alloc hsz2 _).grown hgrow ye (fun g hg=>(HO1.out.lt g hg).1))
    clear hown' hgrow hnil;go_wp2;go_roundw
    case rel=>exact ⟨j+1,by omega,by go_num,HAK.out,R1.out,R3.out⟩
    case measure=>simp [intOf];omega
  ·obtain rfl:j=l.length:=by omega
   have HNZ2:=HNZ.out;have ho:=HO.out;rw [List.take_length] at ho;have HO2:=yq ho
   have HLN:=yq (show (za6 l).length≤1048576 by unfold za6;rw [List.length_map];exact hn)
   have HLL:=yq (show (za6 l).length=l.length by unfold za6;rw [List.length_map])
   clear ho;have fin:=yq (zsn hv h4 HALL.out);(go_wp2_with fail);refine (zfm HO2.out HLN.out HNZ2).mono ?_;rintro e w2 ⟨rfl,hb2⟩;generalize nodB (za6 l)=nb at *;go_wp2;go_ret
   exact ⟨zal fin.out.symm,HB.out.trans ((HBL.out.mono (Nat.le_succ _)).trans (hb2.mono (by omega)))⟩
end Go.Proofs.YtmbaajangkmjdaaGreat
