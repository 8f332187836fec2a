/-
  The steps into an expression: stepsInto.
  What holds between two rounds of the program's walk over an expression.
-/
import Derived.Test.YtmbaajangkmjdaaGreatZz3
import Derived.Test.YtmbaajangkmjdaaGreatZPSet
import Derived.Deep.RegionHeld3
import Derived.Deep.AppendLies
set_option maxHeartbeats 3200000
set_option maxRecDepth 100000
namespace Go.Proofs.YtmbaajangkmjdaaGreat
open Go.ChangeShapes Go.WideShapes Go.ChangeAt Go.RowKit Go.Deep
def zad (S:List Stp):List Value:=S.flatMap Stp.vals
theorem zec : ∀ S:List Stp,(zad S).length=S.length * 3
 | []=>rfl
 | s :: S=>by
  have h:=zec S
  unfold zad at h ⊢
  rw [List.flatMap_cons,List.length_append,h,List.length_cons]
  unfold Stp.vals
  simp
  omega
theorem zcv (S T:List Stp):zad (S ++ T)=zad S ++ zad T:=by unfold zad;rw [List.flatMap_append]
def zde (b off rb ro d:Nat) (x:DExpr):List Stp:=⟨b,off,x,0,true⟩ :: (zb3 rb ro (d+1) 0 x.fc).reverse
theorem zm8 (b off rb ro d:Nat) (x:DExpr):(zde b off rb ro d x).length=x.fc.length+1:=by
 unfold zde;rw [List.length_cons,List.length_reverse,zck]
theorem zrd {b off rb ro d:Nat} {x:DExpr} {k:Nat} (h:k < x.fc.length) :
  zad ((zde b off rb ro d x).take (k+1+1))=zad ((zde b off rb ro d x).take (k+1)) ++ [.pointer (some ⟨rb,ro+(x.fc.length - 1 - k) * 7,none⟩),.int .i64 ((d:Int)+1),.bool false]:=by
 have hk:(zde b off rb ro d x)[k+1]? = some ⟨rb,ro+(x.fc.length - 1 - k) * 7,x.fc.getD (x.fc.length - 1 - k) default,d+1,false⟩:=by
  unfold zde
  rw [List.getElem?_cons_succ,List.getElem?_reverse (by rw [zck];exact h),zck,zkd _ _ _ _ _ _ (by omega),Nat.zero_add]
 rw [List.take_add_one,hk,zcv]
 rfl
theorem zs2 (b off rb ro d:Nat) (x:DExpr):zad ((zde b off rb ro d x).take (0+1))=[.pointer (some ⟨b,off,none⟩),.int .i64 0,.bool true]:=rfl
theorem zqg:(Tryz.prog.info? 192).map (fun i=>(i.zero,i.size,i.bytes))=some (some (.agg #[.pointer none,.int .i64 0,.bool false]),3,24):=by kernel_rfl
theorem ztw {w:World} {cs:List Value} {t:TypeId} : ∀ (j:Nat) (u:Value),cs[j]? = some u→(w.alloc (.cells cs.toArray t)).cell? ((⟨w.heap.size,0,none⟩:Addr).add j)=some u:=by
 intro j u hu;rw [Go.WideShapes.add_plain,Nat.zero_add,World.cell?_alloc_new]
 simpa using hu
theorem zl6 {b off c6 rb ro : Nat} {a6 : Option Addr} (x : DExpr) (d : Nat) (hn : x.fc.length ≤ 2097152) (hd : d ≤ 1099511627776) (w : World)
    (hc6 : w.cell? ⟨b, off + 6, none⟩ = some (.slice a6 x.fc.length c6)) (ha : 0 < x.fc.length → a6 = some ⟨rb, ro, none⟩) :
    Calls Tryz.prog 157 #[.agg #[.pointer (some ⟨b, off, none⟩), .int .i64 (d : Int), .bool false]] w fun e w' => ∃ v, e = .returned v ∧ w'.ownsRow w.heap.size 192 3 v (x.fc.length + 1) (zad (zde b off rb ro d x)) ∧ Below w.heap.size w w' := by
  obtain ⟨i0, hi', hz0, hz1, hz2⟩ := info_parts zqg
  have hb : b < w.heap.size := zd5 hc6
  have HC := Lib.hid hc6
  have HA := Lib.hid ha
  have hlen := zm8 b off rb ro d x
  have HLEN := Lib.hid hlen
  clear hlen ha
  go_enter Tryz.func157, Tryz.ntmps157
  go_wp2
  have HO0 := Lib.hid (World.ownsRow_lit (base := w.heap.size + 1) (size := 3) (e := 192) (w.alloc (.cells #[.pointer (some ⟨b, off, none⟩), .int .i64 (d : Int), .bool false] 192)) #[.pointer (some ⟨b, off, none⟩), .int .i64 0, .bool true] 1 (by simp) (by decide) rfl)
  go_loopw [3, 15] (fun v i wr => ∃ k : Nat, k ≤ x.fc.length ∧ i = .int .i64 (k : Int) ∧ wr.ownsRow (w.heap.size + 1) 192 3 v (k + 1) (zad ((zde b off rb ro d x).take (k + 1))) ∧ Below (w.heap.size + 1) (w.alloc (.cells #[.pointer (some ⟨b, off, none⟩), .int .i64 (d : Int), .bool false] 192)) wr) (fun _ i _ => x.fc.length - (intOf i).toNat)
  case atStart => exact ⟨0, Nat.zero_le _, rfl, by rw [zs2]; simpa using HO0.out, (Below.refl _ _).alloc (by simp) _⟩
  case round =>
    obtain ⟨k, hk, rfl, hown, hbl⟩ := hrel
    have HO := Lib.hid hown
    have HB := Lib.hid hbl
    have p0 : wr.cell? ⟨w.heap.size, 0, none⟩ = some (.pointer (some ⟨b, off, none⟩)) := (hbl.cell (p := ⟨w.heap.size, 0, none⟩) (by simp)).trans (by go_simp)
    have p1 : wr.cell? ⟨w.heap.size, 1, none⟩ = some (.int .i64 (d : Int)) := (hbl.cell (p := ⟨w.heap.size, 1, none⟩) (by simp)).trans (by go_simp)
    have p2 : wr.cell? ⟨b, off + 6, none⟩ = some (.slice a6 x.fc.length c6) := (hbl.cell (p := ⟨b, off + 6, none⟩) (by simp; omega)).trans ((((Below.refl _ _).alloc (Nat.le_refl _) _).cell (p := ⟨b, off + 6, none⟩) hb).trans HC.out)
    have hsz : w.heap.size + 1 ≤ wr.heap.size := Nat.le_trans (by simp) hbl.size
    clear hown hbl
    by_cases hlt : k < x.fc.length
    · have HT := Lib.hid (zrd (b := b) (off := off) (rb := rb) (ro := ro) (d := d) hlt)
      obtain rfl := HA.out (by omega)
      have hne : ∀ q, q ≤ w.heap.size → u3.ownBlock ≠ some q := fun q hq e => by have := (HO.out.lt q e).1; omega
      have av := Lib.hid (hne w.heap.size (Nat.le_refl _))
      have ab := Lib.hid (hne b (by omega))
      clear hne
      go_wp2
      obtain ⟨j, hj⟩ : ∃ j : Nat, x.fc.length - 1 - k = j := ⟨_, rfl⟩
      rw [hj] at HT
      have q1 : IntKind.i64.wrap ((x.fc.length : Int) - 1) = (x.fc.length : Int) - 1 := IntWalk.i64_in _ (by omega)
      have q2 : IntKind.i64.wrap ((x.fc.length : Int) - 1 - (k : Int)) = (j : Int) := (IntWalk.i64_in _ (by omega)).trans (by omega)
      have q3 : IntKind.i64.wrap ((d : Int) + 1) = (d : Int) + 1 := IntWalk.i64_in _ (by omega)
      have q4 : (0 : Int) ≤ (j : Int) := by omega
      have q5 : (j : Int) < (x.fc.length : Int) := by omega
      clear hj
      go_region_held3 (fun w' => w'.cell? ⟨w.heap.size, 0, none⟩ = some (.pointer (some ⟨b, off, none⟩)) ∧ w'.cell? ⟨w.heap.size, 1, none⟩ = some (.int .i64 (d : Int)) ∧ w'.cell? ⟨b, off + 6, none⟩ = some (.slice (some ⟨rb, ro, none⟩) x.fc.length c6))
        (first
          | go_keep
          | (go_split_ands
             refine ⟨?_, ?_, ?_⟩
             · (rw [hgrow.cell_far _ (by simp; omega) (Ne.symm av.out)]; assumption)
             · (rw [hgrow.cell_far _ (by simp; omega) (Ne.symm av.out)]; assumption)
             · (rw [hgrow.cell_far _ (by simp; omega) (Ne.symm ab.out)]; assumption)))
        ((refine step_append_lies _ (by rfl) _ _ _ (by rfl) (w.heap.size + 1) 192 i0 _ 3 24 Tryz.underlying193 hi' hz0 hz1 hz2 rfl (by omega) u3 (k + 1) _ (by rfl) ((HO.out.alloc _).drew)
            ⟨wr.heap.size, 0, none⟩ 1 1 [.pointer (some ⟨rb, ro + j * 7, none⟩), .int .i64 ((d : Int) + 1), .bool false] (by rfl) (by rfl) (World.news_of_block (cs := #[.pointer (some ⟨rb, ro + j * 7, none⟩), .int .i64 ((d : Int) + 1), .bool false]) (t := 192) (fr := (0, 0)) (heap_alloc_new wr _)) (by simp [Value.oneCell'])
            (by omega) (by unfold maxLen; omega) (by omega) (by simp; omega) (wr.heap.size + 1) (by simp) ?_; intro gg cap w1 hown1 hgrow hat hlt))
      have R1 := Lib.hid (show w1.ownsRow (w.heap.size + 1) 192 3 (.slice (some ⟨gg, 0, none⟩) (k + 1 + 1) cap) (k + 1 + 1) (zad ((zde b off rb ro d x).take (k + 1 + 1))) from by rw [HT.out]; exact hown1)
      have R3 := Lib.hid (((HB.out.alloc (by omega) _).drew).grown hgrow (by simp; omega) (fun g hg => (HO.out.lt g hg).1))
      clear hown1 hgrow hat hlt q1 q2 q3 q4 q5
      go_wp2
      go_roundw
      case rel => exact ⟨k + 1, by omega, by go_num, R1.out, R3.out⟩
      case measure => simp [intOf]; omega
    · obtain rfl : k = x.fc.length := by omega
      have R1 := Lib.hid (show wr.ownsRow w.heap.size 192 3 u3 (x.fc.length + 1) (zad (zde b off rb ro d x)) from by
        have h := HO.out
        rw [List.take_of_length_le (by rw [HLEN.out]; exact Nat.le_refl _)] at h
        refine ⟨h.1, h.2.imp id ?_⟩
        rintro ⟨g, cap, cur, h1, h2, h3⟩
        exact ⟨g, cap, cur, h1, by omega, h3⟩)
      have R3 := Lib.hid (((Below.refl w.heap.size w).alloc (Nat.le_refl _) (.cells #[.pointer (some ⟨b, off, none⟩), .int .i64 (d : Int), .bool false] 192)).trans (HB.out.mono (Nat.le_succ _)))
      go_wp2
      go_ret
      exact ⟨_, rfl, R1.out, R3.out⟩
theorem DExpr.openS {lo hi b o:Nat} {w:World} {x:DExpr} (h : ∀ j,j < 7 → ∃ u,w.cell? ⟨b,o+j,none⟩=some u∧Soft lo hi w (x.ct j) u) :
  ∃ a6 c6,w.cell? ⟨b,o,none⟩=some (.int .i64 x.fh)∧w.cell? ⟨b,o+1,none⟩=some (.int .i64 x.fN)∧w.cell? ⟨b,o+2,none⟩=some (.int .i64 x.fb)∧w.cell? ⟨b,o+3,none⟩=some (.int .i64 x.fk)∧w.cell? ⟨b,o+4,none⟩=some (.string x.fd)∧w.cell? ⟨b,o+5,none⟩=some (.string x.fa)∧w.cell? ⟨b,o+6,none⟩=some (.slice a6 x.fc.length c6)∧Sf lo hi w 7 x.fc.length (ctE x.fc) a6:=by
 obtain ⟨u0,hc0,hl0⟩:=h 0 (by decide)
 obtain rfl:=zv hl0
 obtain ⟨u1,hc1,hl1⟩:=h 1 (by decide)
 obtain rfl:=zv hl1
 obtain ⟨u2,hc2,hl2⟩:=h 2 (by decide)
 obtain rfl:=zv hl2
 obtain ⟨u3,hc3,hl3⟩:=h 3 (by decide)
 obtain rfl:=zv hl3
 obtain ⟨u4,hc4,hl4⟩:=h 4 (by decide)
 obtain rfl:=zv hl4
 obtain ⟨u5,hc5,hl5⟩:=h 5 (by decide)
 obtain rfl:=zv hl5
 obtain ⟨u6,hc6,hl6⟩:=h 6 (by decide)
 obtain ⟨a6,c6,rfl,hs6⟩:=zeg hl6;exact ⟨a6,c6,hc0,hc1,hc2,hc3,hc4,hc5,hc6,hs6⟩
theorem zr1 {lo hi:Nat} {w:World} : ∀ (x y:DExpr) (b o:Nat),(∀ j,j < 7 → ∃ u,w.cell? ⟨b,o+j,none⟩=some u∧Soft lo hi w (x.ct j) u)→(∀ j,j < 7 → ∃ u,w.cell? ⟨b,o+j,none⟩=some u∧Soft lo hi w (y.ct j) u)→x=y:=by
 intro x
 refine DExpr.ind (P:=fun x=>∀ (y:DExpr) (b o:Nat),(∀ j,j < 7 → ∃ u,w.cell? ⟨b,o+j,none⟩=some u∧Soft lo hi w (x.ct j) u)→(∀ j,j < 7 → ∃ u,w.cell? ⟨b,o+j,none⟩=some u∧Soft lo hi w (y.ct j) u)→x=y) (fun x ih y b o hx hy=>?_) x
 obtain ⟨a,c,h0,h1,h2,h3,h4,h5,h6,hs⟩:=DExpr.openS hx;obtain ⟨a',c',g0,g1,g2,g3,g4,g5,g6,gs⟩:=DExpr.openS hy
 rw [h0] at g0;rw [h1] at g1;rw [h2] at g2;rw [h3] at g3;rw [h4] at g4;rw [h5] at g5;rw [h6] at g6
 simp only [Option.some.injEq,Value.int.injEq,true_and,Value.string.injEq,Value.slice.injEq] at g0 g1 g2 g3 g4 g5 g6
 obtain ⟨rfl,hlen,rfl⟩:=g6
 have hargs:x.fc=y.fc:=by
  refine List.ext_getElem hlen fun k hk hk'=>?_
  obtain ⟨b1,o1,rfl,_,_,_,hc⟩:=hs.at k hk;obtain ⟨b2,o2,e,_,_,_,hc'⟩:=gs.at k hk'
  simp only [Option.some.injEq,Addr.mk.injEq,and_true] at e
  obtain ⟨rfl,rfl⟩:=e;rw [zb6 hk] at hc;rw [zb6 hk'] at hc'
  have:=ih _ (zbg hk) _ b1 (o1+k * 7) hc hc'
  rw [List.getD_eq_getElem?_getD,List.getElem?_eq_getElem hk,List.getD_eq_getElem?_getD,List.getElem?_eq_getElem hk'] at this;exact this
 cases x
 cases y
 simp only at g0 g1 g2 g3 g4 g5 hargs
 rw [g0,g1,g2,g3,g4,g5,hargs]
def At (hi:Nat) (w:World) (s:Stp):Prop:=(∀ j,j < 7 → ∃ u,w.cell? ⟨s.b,s.off+j,none⟩=some u∧Soft 0 hi w (s.x.ct j) u)∧(∀ o,w.frozen? ⟨s.b,o,none⟩=false)∧s.b < hi
theorem At.later {hi:Nat} {w w':World} {s:Stp} (h:At hi w s) (hb:Below hi w w'):At hi w' s:=by
 obtain ⟨h1,h2,h3⟩:=h
 refine ⟨fun j hj=>?_,fun o=>(hb.frozen (p:=⟨s.b,o,none⟩) h3).trans (h2 o),h3⟩
 obtain ⟨u,hc,hs⟩:=h1 j hj;exact ⟨u,(hb.cell (p:=⟨s.b,s.off+j,none⟩) h3).trans hc,hs.later hb (Nat.le_refl _)⟩
theorem At.plain {hi:Nat} {w:World} {s:Stp} (h:At hi w s):zav w (s.b,s.off):=by
 obtain ⟨u,hc,_⟩:=h.1 0 (by decide)
 exact zav.of_cell hc h.2.1 s.off
theorem At.same {hi:Nat} {w:World} {s t:Stp} (h:At hi w s) (h':At hi w t) (hb:s.b=t.b) (ho:s.off=t.off):s.x=t.x:=by
 have h1:=h'.1;rw [← hb,← ho] at h1;exact zr1 s.x t.x s.b s.off h.1 h1
structure Mid (hi:Nat) (w:World) (x:DExpr) (N:List ENode) (T:List Stp):Prop where
 at_ : ∀ s ∈ T,At hi w s
 chain:T.Pairwise fun s t=>t.leaving=true→cntX s.x < cntX t.x
 nodes:N ++ zbf T=zu x 1
 depth : ∀ s ∈ T,s.leaving=false→s.d+cntX s.x≤cntX x+1
section
variable {hi:Nat} {w:World} {x:DExpr} {N:List ENode} {s:Stp} {T:List Stp}
theorem Mid.later {w':World} (h:Mid hi w x N T) (hb:Below hi w w'):Mid hi w' x N T:=⟨fun s hs=>(h.at_ s hs).later hb,h.chain,h.nodes,h.depth⟩
theorem ziu {p:Nat × Nat} (h:p ∈ zbb T) : ∃ t ∈ T,t.leaving=true∧(t.b,t.off)=p:=by
 unfold zbb at h
 obtain ⟨t,ht,rfl⟩:=List.mem_map.1 h;obtain ⟨h1,h2⟩:=List.mem_filter.1 ht;exact ⟨t,List.mem_reverse.1 h1,h2,rfl⟩
theorem Mid.notIn (h:Mid hi w x N (s :: T)):(s.b,s.off) ∉ zbb T:=by
 intro hin;obtain ⟨t,ht,hl,he⟩:=ziu hin
 simp only [Prod.mk.injEq] at he
 have h1:=(List.pairwise_cons.1 h.chain).1 t ht hl;have h2:=(h.at_ s (List.mem_cons_self ..)).same (h.at_ t (List.mem_cons_of_mem _ ht)) he.1.symm he.2.symm;rw [h2] at h1
 omega
theorem Mid.plainIn (h:Mid hi w x N (s :: T)) : ∀ q ∈ zbb T,zav w q:=by
 intro q hq;obtain ⟨t,ht,_,rfl⟩:=ziu hq;exact (h.at_ t (List.mem_cons_of_mem _ ht)).plain
theorem Mid.leave (h:Mid hi w x N (s :: T)) (hl:s.leaving=true):Mid hi w x N T:=by
 refine ⟨fun t ht=>h.at_ t (List.mem_cons_of_mem _ ht),(List.pairwise_cons.1 h.chain).2,?_,fun t ht=>h.depth t (List.mem_cons_of_mem _ ht)⟩
 have:=h.nodes
 unfold zbf at this
 rw [List.flatMap_cons] at this
 unfold Stp.nodes at this
 rw [if_pos hl,List.nil_append] at this;exact this
theorem Mid.enter (h:Mid hi w x N (s :: T)) (hl:s.leaving=false) {rb ro:Nat} (hrow : ∀ k,k < s.x.fc.length→At hi w ⟨rb,ro+k * 7,s.x.fc.getD k default,s.d+1,false⟩) :
  Mid hi w x (N ++ [zf s.x s.d]) (zb3 rb ro (s.d+1) 0 s.x.fc ++ ⟨s.b,s.off,s.x,0,true⟩ :: T):=by
 have hc:=List.pairwise_cons.1 h.chain;have hd:=h.depth s (List.mem_cons_self ..) hl
 refine ⟨fun t ht=>?_,?_,?_,fun t ht hl'=>?_⟩
 ·rcases List.mem_append.1 ht with ht|ht
  ·obtain ⟨k,hk,rfl⟩:=ze9 ht
   rw [Nat.zero_add];exact hrow k hk
  ·rcases List.mem_cons.1 ht with rfl|ht
   ·exact h.at_ s (List.mem_cons_self ..)
   ·exact h.at_ t (List.mem_cons_of_mem _ ht)
 ·rw [List.pairwise_append]
  refine ⟨?_,List.pairwise_cons.2 ⟨fun t ht hl'=>hc.1 t ht hl',hc.2⟩,fun a ha t ht hl'=>?_⟩
  ·refine List.Pairwise.imp_of_mem (R:=fun _ _=>True) (fun {a b} _ hb _ hl'=>?_) (List.pairwise_iff_getElem.2 fun _ _ _ _ _=>trivial)
   obtain ⟨k,_,rfl⟩:=ze9 hb
   cases hl'
  ·obtain ⟨k,hk,rfl⟩:=ze9 ha
   have h1:=znj (x:=s.x) (zbg hk)
   rcases List.mem_cons.1 ht with rfl|ht
   ·exact h1
   ·exact Nat.lt_trans h1 (hc.1 t ht hl')
 ·have hn:=h.nodes
  have e:zbf (s :: T)=zu s.x s.d ++ zbf T:=by
   unfold zbf Stp.nodes
   rw [List.flatMap_cons,hl];rfl
  rw [e,za2] at hn;rw [zls,zit];have e2:zbf (⟨s.b,s.off,s.x,0,true⟩ :: T)=zbf T:=rfl;rw [e2,← hn]
  simp
 ·rcases List.mem_append.1 ht with ht|ht
  ·obtain ⟨k,hk,rfl⟩:=ze9 ht
   have h1:=znj (x:=s.x) (zbg hk)
   show s.d+1+cntX (s.x.fc.getD k default)≤_
   omega
  ·rcases List.mem_cons.1 ht with rfl|ht
   ·cases hl'
   ·exact h.depth t (List.mem_cons_of_mem _ ht) hl'
theorem zss (hl:s.leaving=false) (rb ro:Nat):zcb (zb3 rb ro (s.d+1) 0 s.x.fc ++ ⟨s.b,s.off,s.x,0,true⟩ :: T) < zcb (s :: T):=by
 rw [zoi,zed,zed,zj6]
 unfold Stp.work
 rw [hl,zf9 s.x]
 simp only [if_true]
 simp
 omega
theorem zuu (rb ro:Nat):(zb3 rb ro (s.d+1) 0 s.x.fc ++ ⟨s.b,s.off,s.x,0,true⟩ :: T).reverse=T.reverse ++ zde s.b s.off rb ro s.d s.x:=by
 rw [List.reverse_append,List.reverse_cons]
 unfold zde
 simp
theorem At.row (h:At hi w s) : ∃ a6 c6,w.cell? ⟨s.b,s.off,none⟩=some (.int .i64 s.x.fh)∧w.cell? ⟨s.b,s.off+1,none⟩=some (.int .i64 s.x.fN)∧w.cell? ⟨s.b,s.off+2,none⟩=some (.int .i64 s.x.fb)∧w.cell? ⟨s.b,s.off+3,none⟩=some (.int .i64 s.x.fk)∧w.cell? ⟨s.b,s.off+4,none⟩=some (.string s.x.fd)∧w.cell? ⟨s.b,s.off+5,none⟩=some (.string s.x.fa)∧w.cell? ⟨s.b,s.off+6,none⟩=some (.slice a6 s.x.fc.length c6) ∧
  ∃ rb ro,(0 < s.x.fc.length→a6=some ⟨rb,ro,none⟩) ∧ ∀ k,k < s.x.fc.length→At hi w ⟨rb,ro+k * 7,s.x.fc.getD k default,s.d+1,false⟩:=by
 obtain ⟨a6,c6,h0,h1,h2,h3,h4,h5,h6,hs⟩:=DExpr.openS h.1;refine ⟨a6,c6,h0,h1,h2,h3,h4,h5,h6,?_⟩
 by_cases hn:0 < s.x.fc.length
 ·obtain ⟨rb,ro,rfl,_,hhi,hz,hc⟩:=hs.row hn
  refine ⟨rb,ro,fun _=>rfl,fun k hk=>⟨fun j hj=>?_,hz,hhi⟩⟩
  obtain ⟨u,hu,hl⟩:=hc k hk j hj;rw [zb6 hk] at hl;exact ⟨u,hu,hl⟩
 ·exact ⟨0,0,fun h=>absurd h hn,fun k hk=>absurd hk (by omega)⟩
end
theorem zv0 {w:World} {B:Nat} {e:TypeId} {n g cap:Nat} {s:Stp} {T:List Stp} (h:w.ownsRow B e 3 (.slice (some ⟨g,0,none⟩) n cap) n (zad (s :: T).reverse)) (hn:n=T.length+1) :
  w.ownsRow B e 3 (.slice (some ⟨g,0,none⟩) T.length cap) T.length (zad T.reverse)∧w.cell? ⟨g,T.length * 3,none⟩=some (.pointer (some ⟨s.b,s.off,none⟩))∧w.cell? ⟨g,T.length * 3+1,none⟩=some (.int .i64 s.d)∧w.cell? ⟨g,T.length * 3+2,none⟩=some (.bool s.leaving):=by
 subst hn
 have hl:(zad T.reverse).length=T.length * 3:=by rw [zec,List.length_reverse]
 have hc:zad (s :: T).reverse=zad T.reverse ++ s.vals:=by
  rw [List.reverse_cons,zcv]
  unfold zad
  simp
 have hat:=fun j hj=>h.cellAt j hj
 rw [hc] at hat;refine ⟨?_,?_,?_,?_⟩
 ·obtain ⟨h1,h2⟩:=h
  refine ⟨hl,Or.inr ?_⟩
  rcases h2 with ⟨h2,_⟩|⟨g',cap',cur,h2,hB,hg,hle,hcm,hcs,ht⟩
  ·cases h2
  ·simp only [Value.slice.injEq,Option.some.injEq,Addr.mk.injEq,and_true,true_and] at h2
   obtain ⟨rfl,rfl⟩:=h2
   refine ⟨_,_,cur,rfl,hB,hg,by omega,hcm,hcs,?_⟩
   rw [hc] at ht
   have:=congrArg (List.take (T.length * 3)) ht
   rw [List.take_take,List.take_append_of_le_length (by omega),List.take_of_length_le (l:=zad T.reverse) (by omega)] at this
   rw [show min (T.length * 3) ((T.length+1) * 3)=T.length * 3 by omega] at this
   exact this
 ·rw [hat _ (by omega),List.getElem?_append_right (by omega),hl,Nat.sub_self];rfl
 ·rw [hat _ (by omega),List.getElem?_append_right (by omega),hl,show T.length * 3+1 - T.length * 3=1 by omega];rfl
 ·rw [hat _ (by omega),List.getElem?_append_right (by omega),hl,show T.length * 3+2 - T.length * 3=2 by omega];rfl
end Go.Proofs.YtmbaajangkmjdaaGreat
