/-
  The nodes of an expression, in the program: nodesOf, allNodesOf.
  CountExpr, DepthOfExpr, HasRemote, in the model and in the program.
  DepthOfExpr, in the model and in the program.
  HasRemote, in the model and in the program.
-/
import Derived.Test.YtmbaajangkmjdaaGreatZNodes1
import Derived.Test.YtmbaajangkmjdaaGreatZz13
import Derived.Deep.LoopGhost
set_option maxHeartbeats 12800000
set_option maxRecDepth 100000
namespace Go.Proofs.YtmbaajangkmjdaaGreat
open Go.ChangeShapes Go.WideShapes Go.ChangeAt Go.RowKit Go.Deep
def zat (N:List ENode):List Value:=N.flatMap ENode.vals
theorem zmt (N:List ENode) (n:ENode):zat (N ++ [n])=zat N ++ n.vals:=by unfold zat;simp
theorem zuk:(Tryz.prog.info? 131).map (fun i=>(i.zero,i.size,i.bytes))=some (some (.agg #[.int .i64 0,.int .i64 0,.int .i64 0,.int .i64 0,.string ⟨#[]⟩,.string ⟨#[]⟩,.int .i64 0,.int .i64 0]),8,80):=by kernel_rfl
def zbq (x:DExpr) (most:Int):List ENode:=(zu x 1).take most.toNat
theorem zdx {w:World} {B:Nat} {e:TypeId} {m n:Nat} {v:Value} {xs:List Value} (h:w.ownsRow B e m v n xs) : ∃ a c,v = .slice a n c:=by
 rcases h.2 with ⟨rfl,rfl⟩|⟨g,cap,cur,rfl,_⟩
 ·exact ⟨none,0,rfl⟩
 ·exact ⟨_,cap,rfl⟩
theorem zc2 {w:World} {B:Nat} {e:TypeId} {m n:Nat} {v:Value} {xs:List Value} (h:w.ownsRow B e m v n xs) (hn:0 < n) : ∃ g c,v = .slice (some ⟨g,0,none⟩) n c∧B≤g∧g < w.heap.size:=by
 rcases h.2 with ⟨rfl,rfl⟩|⟨g,cap,cur,rfl,hB,hg,_⟩
 ·omega
 ·exact ⟨g,cap,rfl,hB,(Array.getElem?_eq_some_iff.1 hg).1⟩
theorem zif {w:World} {B g n c:Nat} {e:TypeId} {m:Nat} {xs:List Value} (h:w.ownsRow B e m (.slice (some ⟨g,0,none⟩) n c) n xs):n≤c∧c≤9223372036854775807:=by
 rcases h.2 with ⟨h,_⟩|⟨g',cap',cur,h,_,_,h1,h2,_⟩
 ·cases h
 ·simp only [Value.slice.injEq,Option.some.injEq,Addr.mk.injEq,and_true,true_and] at h
  obtain ⟨rfl,rfl⟩:=h
  exact ⟨h1,by unfold maxLen at h2;exact h2⟩
theorem zp5 {w:World} {B B':Nat} {e e':TypeId} {m m' n n':Nat} {v v':Value} {xs xs':List Value} (h:w.ownsRow B e m v n xs) (h':w.ownsRow B' e' m' v' n' xs') (hne:e≠e'):v.ownBlock=none∨v.ownBlock≠v'.ownBlock:=by
 rcases h.2 with ⟨rfl,rfl⟩|⟨g,cap,cur,rfl,hB,hg,_⟩
 ·exact Or.inl rfl
 ·refine Or.inr fun he=>?_
  rcases h'.2 with ⟨rfl,rfl⟩|⟨g',cap',cur',rfl,hB',hg',_⟩
  ·cases he
  ·have e1:some g=some g':=he
   injection e1 with e1
   subst e1;rw [hg] at hg'
   simp only [Option.some.injEq,Obj.cells.injEq] at hg'
   exact hne hg'.2.1
theorem PSet.kept {w w':World} {b:Nat} {L:List (Nat × Nat)} {row:Option Nat} (h:PSet w b L) (hg:w.grownBy w' row) (hne:some b≠row):PSet w' b L:=h.block (hg.block b h.lt hne)
theorem PSet.later {w w':World} {b:Nat} {L:List (Nat × Nat)} (h:PSet w b L) (hb:Below w.heap.size w w'):PSet w' b L:=h.block (hb.block b h.lt)
theorem PSet.alloc {w:World} {b:Nat} {L:List (Nat × Nat)} (h:PSet w b L) (o:Obj):PSet (w.alloc o) b L:=h.kept (World.grownBy_alloc w o none) (by simp)
theorem zn8 (S:List Stp) : ∀ u ∈ zad S,u.oneCell'=true:=by
 intro u hu
 unfold zad at hu
 obtain ⟨s,_,hs⟩:=List.mem_flatMap.1 hu
 unfold Stp.vals at hs
 simp only [List.mem_cons,List.not_mem_nil,or_false] at hs
 rcases hs with rfl|rfl|rfl<;>rfl
theorem zp2 (n:ENode) : ∀ u ∈ n.vals,u.oneCell'=true:=by
 intro u hu
 unfold ENode.vals at hu
 simp only [List.mem_cons,List.not_mem_nil,or_false] at hu
 rcases hu with rfl|rfl|rfl|rfl|rfl|rfl|rfl|rfl<;>rfl
theorem zqd {w:World} {B:Nat} {e:TypeId} {m n:Nat} {v:Value} {xs:List Value} (h:w.ownsRow B e m v n xs) {b:Nat} (hb:b < B):some b≠v.ownBlock:=fun h'=>by have:=(h.lt b h'.symm).1;omega
theorem zfh {w w':World} {B:Nat} {e:TypeId} {m n:Nat} {v:Value} {xs:List Value} (h:w.ownsRow B e m v n xs) {b:Nat} (hb:b < B) (hg:w.grownBy w' (some b)):w'.ownsRow B e m v n xs:=h.kept hg (Or.inr fun e=>zqd h hb e.symm)
theorem zsp : ∀ T:List Stp,T.length≤zcb T
 | []=>Nat.le_refl _
 | s :: T=>by
  have h:=zsp T;rw [zed,List.length_cons]
  have:1≤s.work:=by
   unfold Stp.work
   have:=zsj s.x
   split<;>omega
  omega
theorem zw7 {hi:Nat} {w:World} {x:DExpr} {N:List ENode} {T:List Stp} {most:Int} (h:Mid hi w x N T) (hl:N.length≤most.toNat) (he:T=[]∨most≤(N.length:Int)):N=zbq x most:=by
 unfold zbq
 rw [← h.nodes]
 rcases he with rfl|he
 ·rw [show zbf []=[] from rfl,List.append_nil,List.take_of_length_le hl]
 ·have:most.toNat=N.length:=by omega
  rw [this,List.take_left]
theorem ztl {hi:Nat} {w:World} {x:DExpr} {b:Nat} (h:At hi w ⟨b,0,x,1,false⟩):Mid hi w x [] [⟨b,0,x,1,false⟩]:=by
 refine ⟨fun s hs=>?_,List.pairwise_cons.2 ⟨fun _ h=>(by cases h),List.Pairwise.nil⟩,?_,fun s hs _=>?_⟩
 ·rw [List.mem_singleton.1 hs];exact h
 ·show [] ++ (zu x 1 ++ [])=_
  simp
 ·rw [List.mem_singleton.1 hs]
  show 1+cntX x≤cntX x+1
  omega
theorem zwq : ∀ l:List DExpr,l.length≤(l.map cntX).sum
 | []=>Nat.le_refl _
 | a :: l=>by
  have h:=zwq l;have h2:=zsj a;rw [List.map_cons,List.sum_cons,List.length_cons]
  omega
theorem zkh (w:World):(sizeOf 90).run Tryz.prog w = .ok 7 w:=by kernel_rfl
theorem zkg (w:World):(zeroValue 4).run Tryz.prog w = .ok (.bool false) w:=by kernel_rfl
theorem zio {hi c6 : Nat} {a6 : Option Addr} (x : DExpr) (hsz : x.sz ≤ 1048576) (most : Int) (hm : okI most) (w : World) (hhi : hi ≤ w.heap.size) (hs6 : Sf 0 hi w 7 x.fc.length (ctE x.fc) a6) :
    Calls Tryz.prog 124 #[.agg #[.int .i64 x.fh, .int .i64 x.fN, .int .i64 x.fb, .int .i64 x.fk, .string x.fd, .string x.fa, .slice a6 x.fc.length c6], .int .i64 most] w fun e w' =>
      ∃ v, e = .returned v ∧ w'.ownsRow (w.heap.size + 1) 131 8 v (zbq x most).length (zat (zbq x most)) ∧ Below w.heap.size w w' := by
  obtain ⟨i1, hi1, hy0, hy1, hy2⟩ := info_parts zqg
  obtain ⟨i0, hi', hz0, hz1, hz2⟩ := info_parts zuk
  have hcnt := zey x
  have hm1 : -9223372036854775808 ≤ most ∧ most ≤ 9223372036854775807 := hm
  have HAT := Lib.hid (show ∀ W, Below (w.heap.size + 1) (w.alloc (.cells #[.int .i64 x.fh, .int .i64 x.fN, .int .i64 x.fb, .int .i64 x.fk, .string x.fd, .string x.fa, .slice a6 x.fc.length c6] 90)) W → At (w.heap.size + 1) W ⟨w.heap.size, 0, x, 1, false⟩ from fun W hW => by
    have hbox : Below w.heap.size w (w.alloc (.cells #[.int .i64 x.fh, .int .i64 x.fN, .int .i64 x.fb, .int .i64 x.fk, .string x.fd, .string x.fa, .slice a6 x.fc.length c6] 90)) := (Below.refl _ _).alloc (Nat.le_refl _) _
    refine At.later ⟨fun j hj => ?_, fun o => ?_, Nat.lt_succ_self _⟩ hW
    · rw [Nat.zero_add]
      match j, hj with
      | 0, _ => exact ⟨_, (by go_simp), .lit _⟩
      | 1, _ => exact ⟨_, (by go_simp), .lit _⟩
      | 2, _ => exact ⟨_, (by go_simp), .lit _⟩
      | 3, _ => exact ⟨_, (by go_simp), .lit _⟩
      | 4, _ => exact ⟨_, (by go_simp), .lit _⟩
      | 5, _ => exact ⟨_, (by go_simp), .lit _⟩
      | 6, _ => exact ⟨.slice a6 x.fc.length c6, (by go_simp), ((hs6.later hbox hhi).mono (Nat.le_refl _) (by omega)) c6⟩
    · exact frozen_of_row _ _ o _ _ (ze rfl))
  clear hs6 hm
  have hmm := @run_makeMap Tryz.prog
  go_enter Tryz.func124, Tryz.ntmps124
  go_wp2
  have HO0 := Lib.hid (World.ownsRow_lit (base := w.heap.size + 2) (size := 3) (e := 192) ((w.alloc (.cells #[.int .i64 x.fh, .int .i64 x.fN, .int .i64 x.fb, .int .i64 x.fk, .string x.fd, .string x.fa, .slice a6 x.fc.length c6] 90)).alloc (.map #[] 0)) #[.pointer (some ⟨w.heap.size, 0, none⟩), .int .i64 1, .bool false] 1 (by simp) (by decide) rfl)
  have HP0 := Lib.hid ((PSet.made (w := w.alloc (.cells #[.int .i64 x.fh, .int .i64 x.fN, .int .i64 x.fb, .int .i64 x.fk, .string x.fd, .string x.fa, .slice a6 x.fc.length c6] 90))).alloc (.cells #[.pointer (some ⟨w.heap.size, 0, none⟩), .int .i64 1, .bool false] 192))
  go_loopg [5, 7] (2 * cntX x) (fun k v5 v7 wr => ∃ (N : List ENode) (T : List Stp), zcb T ≤ k ∧ zcb T ≤ 2 * cntX x ∧ N.length ≤ most.toNat ∧ Mid (w.heap.size + 1) wr x N T ∧ PSet wr (w.heap.size + 1) (zbb T) ∧ wr.ownsRow (w.heap.size + 2) 131 8 v5 N.length (zat N) ∧ wr.ownsRow (w.heap.size + 2) 192 3 v7 T.length (zad T.reverse) ∧ Below (w.heap.size + 1) (w.alloc (.cells #[.int .i64 x.fh, .int .i64 x.fN, .int .i64 x.fb, .int .i64 x.fk, .string x.fd, .string x.fa, .slice a6 x.fc.length c6] 90)) wr)
  case atStart =>
    have hbs : Below (w.heap.size + 1) (w.alloc (.cells #[.int .i64 x.fh, .int .i64 x.fN, .int .i64 x.fb, .int .i64 x.fk, .string x.fd, .string x.fa, .slice a6 x.fc.length c6] 90)) (((w.alloc (.cells #[.int .i64 x.fh, .int .i64 x.fN, .int .i64 x.fb, .int .i64 x.fk, .string x.fd, .string x.fa, .slice a6 x.fc.length c6] 90)).alloc (.map #[] 0)).alloc (.cells #[.pointer (some ⟨w.heap.size, 0, none⟩), .int .i64 1, .bool false] 192)) := ((Below.refl _ _).alloc (by simp) _).alloc (by simp) _
    refine ⟨[], [⟨w.heap.size, 0, x, 1, false⟩], Nat.le_refl _, Nat.le_refl _, Nat.zero_le _, ztl (HAT.out _ hbs), ?_, World.ownsRow_nil _ _ _ _, ?_, hbs⟩
    · have h := HP0.out
      simp only [World.size_alloc] at h
      exact h
    · have h := HO0.out
      simp only [World.size_alloc] at h
      exact h
  case round =>
    clear HO0 HP0 HAT
    obtain ⟨N, T, hk, hk2, hlen, hmid, hps, ho5, ho7, hbl⟩ := hrel
    have HM := Lib.hid hmid
    have HP := Lib.hid hps
    have HB := Lib.hid hbl
    have HO5 := Lib.hid ho5
    have HLE := Lib.hid hlen
    have HK := Lib.hid hk
    have HK2 := Lib.hid hk2
    have hNl : (N.length : Int) ≤ 1048577 := by
      have h1 := congrArg List.length hmid.nodes
      rw [List.length_append, zcg] at h1
      omega
    have hs0 : w.heap.size + 1 ≤ wr.heap.size := Nat.le_trans (by simp) hbl.size
    have hmb : w.heap.size + 1 < wr.heap.size := hps.lt
    have FIN := Lib.hid (show (T = [] ∨ most ≤ (N.length : Int)) → ∀ v, wr.ownsRow (w.heap.size + 2) 131 8 v N.length (zat N) → wr.ownsRow (w.heap.size + 1) 131 8 v (zbq x most).length (zat (zbq x most)) ∧ Below w.heap.size w wr from fun he v hv => by
      rw [← zw7 hmid hlen he]
      refine ⟨⟨hv.1, hv.2.imp id ?_⟩, ((Below.refl w.heap.size w).alloc (Nat.le_refl _) (.cells #[.int .i64 x.fh, .int .i64 x.fN, .int .i64 x.fb, .int .i64 x.fk, .string x.fd, .string x.fa, .slice a6 x.fc.length c6] 90)).trans (hbl.mono (Nat.le_succ _))⟩
      rintro ⟨g, cap, cur, h1, h2, h3⟩
      exact ⟨g, cap, cur, h1, by omega, h3⟩)
    have hwl := zsp T
    obtain ⟨a5, c5, e5⟩ := zdx ho5
    cases T with
    | nil =>
      obtain ⟨a7, c7, e7⟩ := zdx ho7
      subst e5 e7
      clear hmid hps ho5 ho7 hbl hlen hk hk2
      go_wp2
      go_ret
      have h := FIN.out (by simp) _ HO5.out
      exact ⟨_, rfl, h.1, h.2⟩
    | cons s T =>
      obtain ⟨g7, c7, e7, hg71, hg72⟩ := zc2 ho7 (Nat.succ_pos _)
      subst e5 e7
      obtain ⟨ho7', d0, d1, d2⟩ := zv0 ho7 rfl
      have hcap : T.length + 1 ≤ c7 ∧ c7 ≤ 9223372036854775807 := zif ho7
      have hcap1 : T.length ≤ c7 := by omega
      have hcap2 : (T.length : Int) ≤ (c7 : Int) := by omega
      have HO7 := Lib.hid ho7'
      have hTl : T.length + 1 ≤ 2097154 := by rw [List.length_cons] at hwl; omega
      clear hmid hps ho5 ho7 ho7' hbl hlen hk hk2 hwl
      by_cases hlt : (N.length : Int) < most
      · cases hsl : s.leaving
        · rw [hsl] at d2
          obtain ⟨b, off, sx, sd, sl⟩ := s
          dsimp only at hsl
          subst hsl
          dsimp only at *
          have hat := HM.out.at_ _ (List.mem_cons_self ..)
          have hdep := HM.out.depth _ (List.mem_cons_self ..) rfl
          obtain ⟨a9, c9, f0, f1, f2, f3, f4, f5, f6, rb, ro, hrb, hrow⟩ := hat.row
          dsimp only at f0 f1 f2 f3 f4 f5 f6 hrb hrow hdep
          have hbb : b < w.heap.size + 1 := hat.2.2
          have hsx := zf9 sx
          have hsl : sx.fc.length ≤ 2097152 := by have h1 := zwq sx.fc; omega
          have HN := Lib.hid (show ∀ W, Below wr.heap.size wr W → _ from fun W hW => zrw sx sd W ((hW.cell (p := ⟨b, off, none⟩) (by show b < _; omega)).trans f0) ((hW.cell (p := ⟨b, off + 1, none⟩) (by show b < _; omega)).trans f1) ((hW.cell (p := ⟨b, off + 2, none⟩) (by show b < _; omega)).trans f2) ((hW.cell (p := ⟨b, off + 3, none⟩) (by show b < _; omega)).trans f3) ((hW.cell (p := ⟨b, off + 4, none⟩) (by show b < _; omega)).trans f4) ((hW.cell (p := ⟨b, off + 5, none⟩) (by show b < _; omega)).trans f5) ((hW.cell (p := ⟨b, off + 6, none⟩) (by show b < _; omega)).trans f6))
          have HSI := Lib.hid (show ∀ W, Below (w.heap.size + 1) wr W → _ from fun W hW => zl6 (b := b) (off := off) (rb := rb) (ro := ro) (c6 := c9) (a6 := a9) sx sd hsl (by omega) W ((hW.cell (p := ⟨b, off + 6, none⟩) hbb).trans f6) hrb)
          have HNI := Lib.hid HM.out.notIn
          have HROW := Lib.hid hrow
          clear hat f0 f1 f2 f3 f4 f5 f6 hrb hrow hsx
          go_wp2_with fail
          refine (HN.out _ ((Below.refl _ _).alloc (Nat.le_refl _) _)).mono ?_
          rintro e w1 ⟨rfl, hb1⟩
          have q0 : w1.cell? ⟨wr.heap.size, 0, none⟩ = some (.pointer (some ⟨b, off, none⟩)) := (hb1.cell (p := ⟨wr.heap.size, 0, none⟩) (by simp)).trans (by go_simp)
          have q1 : w1.cell? ⟨wr.heap.size, 1, none⟩ = some (.int .i64 (sd : Int)) := (hb1.cell (p := ⟨wr.heap.size, 1, none⟩) (by simp)).trans (by go_simp)
          have q2 : w1.cell? ⟨wr.heap.size, 2, none⟩ = some (.bool false) := (hb1.cell (p := ⟨wr.heap.size, 2, none⟩) (by simp)).trans (by go_simp)
          have hB1 : wr.heap.size < w1.heap.size := Nat.lt_of_lt_of_le (by simp) hb1.size
          have hbw : Below wr.heap.size wr w1 := ((Below.refl wr.heap.size wr).alloc (Nat.le_refl _) (.cells #[.pointer (some ⟨b, off, none⟩), .int .i64 (sd : Int), .bool false] 192)).trans (hb1.mono (by simp))
          have hbn : Below wr.heap.size wr (w1.alloc (.cells #[.int .i64 sx.fh, .int .i64 sx.fN, .int .i64 sx.fb, .int .i64 sx.fk, .string sx.fd, .string sx.fa, .int .i64 (sx.fc.length : Int), .int .i64 (sd : Int)] 131)) := hbw.alloc (by omega) _
          have HP2 := Lib.hid (HP.out.later hbn)
          have HM2 := Lib.hid (HM.out.later (hbn.mono hs0))
          have O5 := Lib.hid (zl HO5.out hbn)
          have O7 := Lib.hid (zl HO7.out hbn)
          have HBN := Lib.hid hbn
          have hdec : decide ((b, off) ∈ zbb (⟨b, off, sx, sd, false⟩ :: T)) = false := decide_eq_false (by rw [zbl]; exact HNI.out)
          have HDEC := Lib.hid hdec
          have hpl := (HM2.out.at_ _ (List.mem_cons_self ..)).plain
          have hpn : ∀ q ∈ zbb (⟨b, off, sx, sd, false⟩ :: T), zav (w1.alloc (.cells #[.int .i64 sx.fh, .int .i64 sx.fN, .int .i64 sx.fb, .int .i64 sx.fk, .string sx.fd, .string sx.fa, .int .i64 (sx.fc.length : Int), .int .i64 (sd : Int)] 131)) q := by rw [zbl]; exact HM2.out.plainIn
          have HPL := Lib.hid hpl
          have HPN := Lib.hid hpn
          have HQ0 := Lib.hid q0
          have HQ1 := Lib.hid q1
          have HQ2 := Lib.hid q2
          clear hb1 hbw hbn hdec hpl hpn HN
          go_wp2_with (first
            | (at_lookup; refine zjg _ rfl (.tmp 43) (.tmp 45) 189 rfl 190 4 90 7 Tryz.underlying189 Tryz.underlying190 (zkh _) (by decide) (zkg _) (w.heap.size + 1) _ rfl HP2.out (b, off) rfl HPL.out HPN.out ?_; rw [HDEC.out])
            | (at_mapUpdate; refine zg6 _ rfl (.tmp 48) (.tmp 50) (.const (.bool true)) 189 rfl 190 4 90 7 Tryz.underlying189 Tryz.underlying190 (zkh _) (by decide) (w.heap.size + 1) _ rfl HP2.out (b, off) rfl rfl HPL.out HPN.out (of_decide_eq_false HDEC.out) ?_; intro w3 hps3 hg3;
               have s0 : w3.cell? ⟨wr.heap.size, 0, none⟩ = some (.pointer (some ⟨b, off, none⟩)) := hg3.cell (a := ⟨wr.heap.size, 0, none⟩) ((((Below.refl w1.heap.size w1).alloc (Nat.le_refl _) _).cell (p := ⟨wr.heap.size, 0, none⟩) hB1).trans HQ0.out) (by intro e; simp at e; omega);
               have s1 : w3.cell? ⟨wr.heap.size, 1, none⟩ = some (.int .i64 (sd : Int)) := hg3.cell (a := ⟨wr.heap.size, 1, none⟩) ((((Below.refl w1.heap.size w1).alloc (Nat.le_refl _) _).cell (p := ⟨wr.heap.size, 1, none⟩) hB1).trans HQ1.out) (by intro e; simp at e; omega);
               have s2 : w3.cell? ⟨wr.heap.size, 2, none⟩ = some (.bool false) := hg3.cell (a := ⟨wr.heap.size, 2, none⟩) ((((Below.refl w1.heap.size w1).alloc (Nat.le_refl _) _).cell (p := ⟨wr.heap.size, 2, none⟩) hB1).trans HQ2.out) (by intro e; simp at e; omega); have r0 : w3.cell? ⟨w1.heap.size, 0, none⟩ = some (.int .i64 sx.fh) := hg3.cell (a := ⟨w1.heap.size, 0, none⟩) (by go_simp) (by intro e; simp at e; omega); have r1 : w3.cell? ⟨w1.heap.size, 1, none⟩ = some (.int .i64 sx.fN) := hg3.cell (a := ⟨w1.heap.size, 1, none⟩) (by go_simp) (by intro e; simp at e; omega); have r2 : w3.cell? ⟨w1.heap.size, 2, none⟩ = some (.int .i64 sx.fb) := hg3.cell (a := ⟨w1.heap.size, 2, none⟩) (by go_simp) (by intro e; simp at e; omega); have r3 : w3.cell? ⟨w1.heap.size, 3, none⟩ = some (.int .i64 sx.fk) := hg3.cell (a := ⟨w1.heap.size, 3, none⟩) (by go_simp) (by intro e; simp at e; omega); have r4 : w3.cell? ⟨w1.heap.size, 4, none⟩ = some (.string sx.fd) := hg3.cell (a := ⟨w1.heap.size, 4, none⟩) (by go_simp) (by intro e; simp at e; omega); have r5 : w3.cell? ⟨w1.heap.size, 5, none⟩ = some (.string sx.fa) := hg3.cell (a := ⟨w1.heap.size, 5, none⟩) (by go_simp) (by intro e; simp at e; omega); have r6 : w3.cell? ⟨w1.heap.size, 6, none⟩ = some (.int .i64 (sx.fc.length : Int)) := hg3.cell (a := ⟨w1.heap.size, 6, none⟩) (by go_simp) (by intro e; simp at e; omega); have r7 : w3.cell? ⟨w1.heap.size, 7, none⟩ = some (.int .i64 (sd : Int)) := hg3.cell (a := ⟨w1.heap.size, 7, none⟩) (by go_simp) (by intro e; simp at e; omega)))
          have hg3' := Lib.hid hg3
          have hsz3 : w1.heap.size + 1 ≤ w3.heap.size := by have := hg3.size; simp at this; omega
          have HB3 := Lib.hid (show Below (w.heap.size + 1) wr w3 from (HBN.out.mono hs0).grown hg3 (by simp; omega) (fun g hg => by cases hg; exact Nat.le_refl _))
          have O5b := Lib.hid (zfh O5.out (Nat.lt_succ_self _) hg3)
          have O7b := Lib.hid (zfh O7.out (Nat.lt_succ_self _) hg3)
          have HP3 := Lib.hid hps3
          clear hg3 hps3 q0 q1 q2 HP2 HM2 O5 O7 HPL HPN HQ0 HQ1 HQ2 hg3'
          refine (HSI.out _ HB3.out).mono ?_
          rintro e w4 ⟨v8, rfl, hov, hb4⟩
          obtain ⟨g8, c8, rfl, hg81, hg82⟩ := zc2 hov (Nat.succ_pos _)
          have O5c := Lib.hid (zl O5b.out hb4)
          have O7c := Lib.hid (zl O7b.out hb4)
          have HP4 := Lib.hid (HP3.out.later hb4)
          have HB4 := Lib.hid (HB3.out.trans (hb4.mono (Nat.le_trans hs0 (by omega))))
          have t0 : w4.cell? ⟨w1.heap.size, 0, none⟩ = some (.int .i64 sx.fh) := (hb4.cell (p := ⟨w1.heap.size, 0, none⟩) (by show w1.heap.size < _; omega)).trans r0
          have t1 : w4.cell? ⟨w1.heap.size, 1, none⟩ = some (.int .i64 sx.fN) := (hb4.cell (p := ⟨w1.heap.size, 1, none⟩) (by show w1.heap.size < _; omega)).trans r1
          have t2 : w4.cell? ⟨w1.heap.size, 2, none⟩ = some (.int .i64 sx.fb) := (hb4.cell (p := ⟨w1.heap.size, 2, none⟩) (by show w1.heap.size < _; omega)).trans r2
          have t3 : w4.cell? ⟨w1.heap.size, 3, none⟩ = some (.int .i64 sx.fk) := (hb4.cell (p := ⟨w1.heap.size, 3, none⟩) (by show w1.heap.size < _; omega)).trans r3
          have t4 : w4.cell? ⟨w1.heap.size, 4, none⟩ = some (.string sx.fd) := (hb4.cell (p := ⟨w1.heap.size, 4, none⟩) (by show w1.heap.size < _; omega)).trans r4
          have t5 : w4.cell? ⟨w1.heap.size, 5, none⟩ = some (.string sx.fa) := (hb4.cell (p := ⟨w1.heap.size, 5, none⟩) (by show w1.heap.size < _; omega)).trans r5
          have t6 : w4.cell? ⟨w1.heap.size, 6, none⟩ = some (.int .i64 (sx.fc.length : Int)) := (hb4.cell (p := ⟨w1.heap.size, 6, none⟩) (by show w1.heap.size < _; omega)).trans r6
          have t7 : w4.cell? ⟨w1.heap.size, 7, none⟩ = some (.int .i64 (sd : Int)) := (hb4.cell (p := ⟨w1.heap.size, 7, none⟩) (by show w1.heap.size < _; omega)).trans r7
          have hsz4 : w1.heap.size < w4.heap.size := Nat.lt_of_lt_of_le (by omega) hb4.size
          have hnl : (zad (zde b off rb ro sd sx)).length = (sx.fc.length + 1) * 3 := by rw [zec, zm8]
          have HNL := Lib.hid hnl
          have HNEW := Lib.hid (hov.cells (g := g8) rfl)
          have HNE7 := Lib.hid (show some w1.heap.size ≠ (Value.slice (some ⟨g7, 0, none⟩) T.length c7).ownBlock from fun e => by have e2 : some w1.heap.size = some g7 := e; injection e2 with e2; omega)
          clear hov hb4 hnl s0 s1 s2 r0 r1 r2 r3 r4 r5 r6 r7 O5b O7b HP3 HB3
          go_wp2_with (first
            | (at_builtin; refine wpList_append_own _ rfl (.tmp 51) (.tmp 53) 193 rfl (w.heap.size + 2) 192 i1 (.agg #[.pointer none, .int .i64 0, .bool false]) 3 24 Tryz.underlying193 hi1 hy0 hy1 hy2 rfl (by decide) _ _ _ rfl O7c.out ⟨g8, 0, none⟩ (sx.fc.length + 1) c8 (zad (zde b off rb ro sd sx)) rfl HNL.out HNEW.out (zn8 _) (by unfold maxLen; omega) (by omega) (by omega) ?_; intro v7 w5 hown7 hgrow7 hnil7; have u0 : w5.cell? ⟨w1.heap.size, 0, none⟩ = some (.int .i64 sx.fh) := hgrow7.cell (a := ⟨w1.heap.size, 0, none⟩) t0 HNE7.out; have u1 : w5.cell? ⟨w1.heap.size, 1, none⟩ = some (.int .i64 sx.fN) := hgrow7.cell (a := ⟨w1.heap.size, 1, none⟩) t1 HNE7.out; have u2 : w5.cell? ⟨w1.heap.size, 2, none⟩ = some (.int .i64 sx.fb) := hgrow7.cell (a := ⟨w1.heap.size, 2, none⟩) t2 HNE7.out; have u3 : w5.cell? ⟨w1.heap.size, 3, none⟩ = some (.int .i64 sx.fk) := hgrow7.cell (a := ⟨w1.heap.size, 3, none⟩) t3 HNE7.out; have u4 : w5.cell? ⟨w1.heap.size, 4, none⟩ = some (.string sx.fd) := hgrow7.cell (a := ⟨w1.heap.size, 4, none⟩) t4 HNE7.out; have u5 : w5.cell? ⟨w1.heap.size, 5, none⟩ = some (.string sx.fa) := hgrow7.cell (a := ⟨w1.heap.size, 5, none⟩) t5 HNE7.out; have u6 : w5.cell? ⟨w1.heap.size, 6, none⟩ = some (.int .i64 (sx.fc.length : Int)) := hgrow7.cell (a := ⟨w1.heap.size, 6, none⟩) t6 HNE7.out; have u7 : w5.cell? ⟨w1.heap.size, 7, none⟩ = some (.int .i64 (sd : Int)) := hgrow7.cell (a := ⟨w1.heap.size, 7, none⟩) t7 HNE7.out; have O5d := Lib.hid (O5c.out.kept hgrow7 (zp5 O5c.out O7c.out (by decide))); have hsz5 : w1.heap.size < w5.heap.size := Nat.lt_of_lt_of_le hsz4 hgrow7.size)
            | (at_builtin; refine wpList_append_own _ rfl (.tmp 55) (.tmp 57) 126 rfl (w.heap.size + 2) 131 i0 _ 8 80 Tryz.underlying126 hi' hz0 hz1 hz2 rfl (by decide) _ _ _ rfl (O5d.out.alloc _) ⟨w5.heap.size, 0, none⟩ 1 1 [.int .i64 sx.fh, .int .i64 sx.fN, .int .i64 sx.fb, .int .i64 sx.fk, .string sx.fd, .string sx.fa, .int .i64 (sx.fc.length : Int), .int .i64 (sd : Int)] rfl rfl ztw (by intro u hu; exact zp2 (zf sx sd) u hu) (by unfold maxLen; omega) (by omega) (by simp; omega) ?_; intro v5 w6 hown5 hgrow5 hnil5))
          have O7d := Lib.hid (show w5.ownsRow (w.heap.size + 2) 192 3 v7 (zb3 rb ro (sd + 1) 0 sx.fc ++ ⟨b, off, sx, 0, true⟩ :: T).length (zad (zb3 rb ro (sd + 1) 0 sx.fc ++ ⟨b, off, sx, 0, true⟩ :: T).reverse) from by
            have h1 := zuu (s := ⟨b, off, sx, sd, false⟩) (T := T) rb ro
            have h2 : (zb3 rb ro (sd + 1) 0 sx.fc ++ ⟨b, off, sx, 0, true⟩ :: T).length = T.length + (sx.fc.length + 1) := by rw [List.length_append, zck, List.length_cons]; omega
            dsimp only at h1
            rw [h1, h2, zcv]
            exact hown7)
          have HP5 := Lib.hid (HP4.out.kept hgrow7 (fun e => by have e2 : some (w.heap.size + 1) = some g7 := e; injection e2 with e2; omega))
          have HB5 := Lib.hid (HB4.out.grown hgrow7 (by omega) (fun g hg => by have e2 : some g7 = some g := hg; injection e2 with e2; omega))
          clear hown7 hgrow7 hnil7 t0 t1 t2 t3 t4 t5 t6 t7 O5c O7c HP4 HB4 HNL HNEW HNE7
          have O5e := Lib.hid (show w6.ownsRow (w.heap.size + 2) 131 8 v5 (N ++ [zf sx sd]).length (zat (N ++ [zf sx sd])) from by
            rw [zmt, List.length_append]
            exact hown5)
          have O7e := Lib.hid ((O7d.out.alloc _).kept hgrow5 (zp5 O7d.out O5d.out (by decide)))
          have HP6 := Lib.hid ((HP5.out.alloc _).kept hgrow5 (zqd O5d.out (Nat.lt_succ_self _)))
          have HB6 := Lib.hid ((HB5.out.alloc (by omega) _).grown hgrow5 (by simp; omega) (fun g hg => by have := (O5d.out.lt g hg).1; omega))
          have HM6 := Lib.hid ((HM.out.enter rfl HROW.out).later HB6.out)
          have hwk := zss (s := ⟨b, off, sx, sd, false⟩) (T := T) rfl rb ro
          have HWK := Lib.hid hwk
          clear hown5 hgrow5 hnil5 u0 u1 u2 u3 u4 u5 u6 u7 O5d O7d HP5 HB5 hwk HM HROW
          go_wp2
          go_roundg (zcb (zb3 rb ro (sd + 1) 0 sx.fc ++ ⟨b, off, sx, 0, true⟩ :: T))
          case measure => have h1 := HWK.out; have h2 := HK.out; omega
          case rel => exact ⟨N ++ [zf sx sd], _, Nat.le_refl _, by have h1 := HWK.out; have h2 := HK2.out; omega, by rw [List.length_append, List.length_singleton]; omega, HM6.out, by rw [ze7, zbl]; have h := HP6.out; rw [zbl] at h; exact h, O5e.out, O7e.out, HB.out.trans (HB6.out.mono (by simp))⟩
        · rw [hsl] at d2
          obtain ⟨b, off, sx, sd, sl⟩ := s
          dsimp only at hsl
          subst hsl
          dsimp only at *
          have hbn : Below wr.heap.size wr (wr.alloc (.cells #[.pointer (some ⟨b, off, none⟩), .int .i64 (sd : Int), .bool true] 192)) := (Below.refl _ _).alloc (Nat.le_refl _) _
          have HM2 := Lib.hid (HM.out.later (hbn.mono hs0))
          have HP2 := Lib.hid (show PSet (wr.alloc (.cells #[.pointer (some ⟨b, off, none⟩), .int .i64 (sd : Int), .bool true] 192)) (w.heap.size + 1) (zbb T ++ [(b, off)]) from by
            have h := HP.out.later hbn
            rw [zbl] at h
            exact h)
          have O5 := Lib.hid (zl HO5.out hbn)
          have O7 := Lib.hid (zl HO7.out hbn)
          have HBN := Lib.hid hbn
          have HPL := Lib.hid (HM2.out.at_ _ (List.mem_cons_self ..)).plain
          have HPN := Lib.hid HM2.out.plainIn
          have HNI := Lib.hid HM2.out.notIn
          clear hbn
          go_wp2_with (at_delete; refine zgk _ rfl (.tmp 35) (.tmp 37) 189 190 rfl 4 90 7 Tryz.underlying189 Tryz.underlying190 (zkh _) (by decide) (w.heap.size + 1) (zbb T) rfl (b, off) HP2.out rfl HPL.out HPN.out HNI.out ?_; intro w3 hps3 hg3)
          have HB3 := Lib.hid (show Below (w.heap.size + 1) wr w3 from (HBN.out.mono hs0).grown hg3 (by simp; omega) (fun g hg => by cases hg; exact Nat.le_refl _))
          have O5b := Lib.hid (zfh O5.out (Nat.lt_succ_self _) hg3)
          have O7b := Lib.hid (zfh O7.out (Nat.lt_succ_self _) hg3)
          have HP3 := Lib.hid hps3
          have HM3 := Lib.hid ((HM.out.leave rfl).later HB3.out)
          have hwk : zcb (⟨b, off, sx, sd, true⟩ :: T) = 1 + zcb T := zed _ _
          have HWK := Lib.hid hwk
          clear hg3 hps3 hwk
          go_wp2
          go_roundg (zcb T)
          case measure => have h1 := HWK.out; have h2 := HK.out; omega
          case rel => exact ⟨N, T, Nat.le_refl _, by have h1 := HWK.out; have h2 := HK2.out; omega, HLE.out, HM3.out, HP3.out, O5b.out, O7b.out, HB.out.trans (HB3.out.mono (by simp))⟩
      · clear HM HK2
        go_wp2
        go_ret
        have h := FIN.out (Or.inr (by omega)) _ HO5.out
        exact ⟨_, rfl, h.1, h.2⟩
def maxD (N:List ENode):Nat:=(N.map ENode.fw).foldr max 0
theorem zr2 (M N:List ENode):maxD (M ++ N)=max (maxD M) (maxD N):=by
 unfold maxD
 induction M with
 | nil=>simp
 | cons a M ih=>simp only [List.cons_append,List.map_cons,List.foldr_cons,ih];omega
mutual
def depX:DExpr→Nat
 | ⟨_,_,_,_,_,_,args⟩=>depL args+1
def depL:List DExpr→Nat
 | []=>0
 | e :: es=>max (depX e) (depL es)
end
theorem zo3 (x:DExpr):depX x=depL x.fc+1:=by cases x;rfl
theorem zkj : ∀ l m:List DExpr,depL (l ++ m)=max (depL l) (depL m)
 | [],m=>by show depL m=max 0 (depL m);omega
 | e :: es,m=>by
  show max (depX e) (depL (es ++ m))=max (max (depX e) (depL es)) (depL m)
  rw [zkj es m];omega
theorem zum {l:List DExpr} {k:Nat} (h:k < l.length):depL (l.take (k+1))=max (depL (l.take k)) (depX (l.getD k default)):=by
 rw [List.take_add_one,zkj,List.getElem?_eq_getElem h,List.getD_eq_getElem?_getD,List.getElem?_eq_getElem h]
 show max _ (max (depX l[k]) 0)=max _ (depX l[k])
 omega
theorem zp8 (P:DExpr→Prop) (hP : ∀ x,P x → ∀ d,maxD (zu x d)=d+depX x - 1) (d:Nat) : ∀ l:List DExpr,(∀ a ∈ l,P a)→max d (maxD (zca l (d+1)))=d+depL l
 | [],_=>by show max d 0=d+0;omega
 | e :: es,h=>by
  have h1:=zp8 P hP d es fun a ha=>h a (List.mem_cons_of_mem _ ha)
  have h2:=hP e (h e (List.mem_cons_self ..)) (d+1)
  have h3:1≤depX e:=by rw [zo3];omega
  show max d (maxD (zu e (d+1) ++ zca es (d+1)))=d+max (depX e) (depL es)
  rw [zr2]
  omega
theorem zmz : ∀ (x:DExpr) (d:Nat),maxD (zu x d)=d+depX x - 1:=by
 intro x
 refine DExpr.ind (P:=fun x=>∀ d,maxD (zu x d)=d+depX x - 1) (fun x ih d=>?_) x
 have h:=zp8 (fun a=>∀ d,maxD (zu a d)=d+depX a - 1) (fun _ h=>h) d x.fc ih
 rw [za2,zo3]
 show max d (maxD (zca x.fc (d+1)))=_
 omega
theorem zsg : ∀ x:DExpr,depX x≤cntX x:=DExpr.ind fun x ih=>by
 rw [zo3,zf9]
 have : ∀ l:List DExpr,(∀ a ∈ l,depX a≤cntX a)→depL l≤(l.map cntX).sum:=by
  intro l
  induction l with
  | nil=>intro _;exact Nat.le_refl _
  | cons e es ihl =>
   intro h;have h1:=h e (List.mem_cons_self ..)
   have h2:=ihl fun a ha=>h a (List.mem_cons_of_mem _ ha)
   rw [List.map_cons,List.sum_cons]
   show max (depX e) (depL es)≤_
   omega
 have:=this x.fc ih
 omega
theorem zkr {w:World} {B g c:Nat} {e:TypeId} {N:List ENode} (h:w.ownsRow B e 8 (.slice (some ⟨g,0,none⟩) N.length c) N.length (zat N)) {k:Nat} (hk:k < N.length) :
  w.cell? ⟨g,k * 8,none⟩=some (.int .i64 (N.getD k default).fh)∧w.cell? ⟨g,k * 8+1,none⟩=some (.int .i64 (N.getD k default).fN)∧w.cell? ⟨g,k * 8+2,none⟩=some (.int .i64 (N.getD k default).fb)∧w.cell? ⟨g,k * 8+3,none⟩=some (.int .i64 (N.getD k default).fk)∧w.cell? ⟨g,k * 8+4,none⟩=some (.string (N.getD k default).fd)∧w.cell? ⟨g,k * 8+5,none⟩=some (.string (N.getD k default).fa)∧w.cell? ⟨g,k * 8+6,none⟩=some (.int .i64 (N.getD k default).fc)∧w.cell? ⟨g,k * 8+7,none⟩=some (.int .i64 (N.getD k default).fw):=by
 have hN : ∀ (N:List ENode) (k j:Nat),k < N.length→j < 8→(zat N)[k * 8+j]? = (N.getD k default).vals[j]?:=by
  intro N
  induction N with
  | nil=>intro k j hk;exact absurd hk (Nat.not_lt_zero _)
  | cons n N ih =>
   intro k j hk hj
   have e0:zat (n :: N)=n.vals ++ zat N:=by unfold zat;rw [List.flatMap_cons]
   have e1:n.vals.length=8:=rfl;rw [e0]
   cases k with
   | zero=>rw [List.getElem?_append_left (by omega),Nat.zero_mul,Nat.zero_add];rfl
   | succ k =>
    rw [List.getElem?_append_right (by omega),e1,show (k+1) * 8+j - 8=k * 8+j by omega,ih k j (by simpa using hk) hj]
    rfl
 have hat : ∀ j,j < 8→w.cell? ⟨g,k * 8+j,none⟩=(N.getD k default).vals[j]?:=fun j hj=>by
  rw [h.cellAt _ (by omega),hN N k j hk hj]
 exact ⟨hat 0 (by decide),hat 1 (by decide),hat 2 (by decide),hat 3 (by decide),hat 4 (by decide),hat 5 (by decide),hat 6 (by decide),hat 7 (by decide)⟩
theorem zs0 {x:DExpr} (h:x.sz≤1048576):zbq x 9223372036854775807=zu x 1:=by
 unfold zbq
 have h1:=zey x;have h2:=zcg x 1
 exact List.take_of_length_le (by rw [show (9223372036854775807:Int).toNat=9223372036854775807 from rfl];omega)
theorem zew {hi c6:Nat} {a6:Option Addr} (x:DExpr) (hsz:x.sz≤1048576) (w:World) (hhi:hi≤w.heap.size) (hs6:Sf 0 hi w 7 x.fc.length (ctE x.fc) a6) :
  Calls Tryz.prog 88 #[.agg #[.int .i64 x.fh,.int .i64 x.fN,.int .i64 x.fb,.int .i64 x.fk,.string x.fd,.string x.fa,.slice a6 x.fc.length c6]] w fun e w'=>∃ v,e = .returned v∧w'.ownsRow w.heap.size 131 8 v (zu x 1).length (zat (zu x 1))∧Below w.heap.size w w':=by
 have hbox:Below w.heap.size w (w.alloc (.cells #[.int .i64 x.fh,.int .i64 x.fN,.int .i64 x.fb,.int .i64 x.fk,.string x.fd,.string x.fa,.slice a6 x.fc.length c6] 90)):=(Below.refl _ _).alloc (Nat.le_refl _) _
 have HC:=yq (zio (c6:=c6) x hsz 9223372036854775807 ⟨by decide,by decide⟩ (w.alloc (.cells #[.int .i64 x.fh,.int .i64 x.fN,.int .i64 x.fb,.int .i64 x.fk,.string x.fd,.string x.fa,.slice a6 x.fc.length c6] 90)) (Nat.le_trans hhi hbox.size) (hs6.later hbox hhi))
 have HM:=yq (zs0 hsz);have HB:=yq hbox;clear hbox hs6
 go_enter Tryz.func88,Tryz.ntmps88
 (go_wp2_with fail);refine HC.out.mono ?_;rintro e w1 ⟨v,rfl,hown,hb1⟩
 have R1:=yq (show w1.ownsRow w.heap.size 131 8 v (zu x 1).length (zat (zu x 1)) from by
  rw [HM.out] at hown;refine ⟨hown.1,hown.2.imp id ?_⟩;rintro ⟨g,cap,cur,h1,h2,h3⟩;refine ⟨g,cap,cur,h1,?_,h3⟩
  simp at h2;omega)
 have R2:=yq (HB.out.trans (hb1.mono HB.out.size));clear hown hb1;go_wp2;go_ret;exact ⟨_,rfl,R1.out,R2.out⟩
theorem zrg (a b:Int) (w:World):Calls Tryz.prog 173 #[.int .i64 a,.int .i64 b] w fun e w'=>e = .returned (.int .i64 (max a b))∧w=w':=by
 by_cases h:b < a
 ·have HM:=yq (show max a b=a by omega)
  go_enter Tryz.func173,Tryz.ntmps173
  go_wp2;go_ret;exact ⟨zan HM.out.symm,rfl⟩
 ·have HM:=yq (show max a b=b by omega)
  go_enter Tryz.func173,Tryz.ntmps173
  go_wp2;go_ret;exact ⟨zan HM.out.symm,rfl⟩
def zdf (x:DExpr):Prop:=∀ ⦃lo hi c6:Nat⦄ ⦃a6:Option Addr⦄ (_hsz:x.sz≤1048576) (w:World) (_hhi:hi≤w.heap.size) (_hs6:Sl lo hi w 7 x.fc.length (ctE x.fc) a6),
 Calls Tryz.prog 138 #[.agg #[.int .i64 x.fh,.int .i64 x.fN,.int .i64 x.fb,.int .i64 x.fk,.string x.fd,.string x.fa,.slice a6 x.fc.length c6]] w fun e w'=>e = .returned (.int .i64 (depX x:Int))∧Below w.heap.size w w'
theorem zfj (x:DExpr) (ih : ∀ a ∈ x.fc,zdf a):zdf x:=by
 intro lo hi c6 a6 hsz w hhi hs6
 have hn:x.fc.length≤1048576:=by have h:=hsz;rw [DExpr.sz_eq] at h;unfold lsz at h;omega
 have HZ:=yq hsz;have IH:=yq ih;have HS:=yq hs6;have hW0:Below w.heap.size w (w.alloc (.cells #[.int .i64 x.fh,.int .i64 x.fN,.int .i64 x.fb,.int .i64 x.fk,.string x.fd,.string x.fa,.slice a6 x.fc.length c6] 90)):=(Below.refl _ _).alloc (Nat.le_refl _) _;have HW0:=yq hW0;clear hsz ih hs6 hW0
 go_enter Tryz.func138,Tryz.ntmps138
 go_wp2
 go_loopw [3,4] (fun n i wr=>∃ k:Nat,k≤x.fc.length∧i = .int .i64 (k:Int)∧n = .int .i64 (depL (x.fc.take k):Int)∧Below (w.heap.size+1) (w.alloc (.cells #[.int .i64 x.fh,.int .i64 x.fN,.int .i64 x.fb,.int .i64 x.fk,.string x.fd,.string x.fa,.slice a6 x.fc.length c6] 90)) wr) (fun n i _=>x.fc.length - (intOf i).toNat)
 case atStart=>exact ⟨0,Nat.zero_le _,rfl,rfl,Below.refl _ _⟩
 case round =>
  obtain ⟨k,hk,rfl,rfl,hbl⟩:=hrel;have HB:=yq hbl
  have p6:wr.cell? ⟨w.heap.size,6,none⟩=some (.slice a6 x.fc.length c6):=(hbl.cell (p:=⟨w.heap.size,6,none⟩) (Nat.lt_succ_self _)).trans (by go_simp)
  have hbw:Below w.heap.size w wr:=HW0.out.trans (hbl.mono (Nat.le_succ _));have HBW:=yq hbw
  have hsz1:w.heap.size+1≤wr.heap.size:=Nat.le_trans (by simp) hbl.size
  clear hbl
  by_cases hlt:k < x.fc.length
  ·obtain ⟨rb,ro,rfl,_,hrb,hc⟩:=(HS.out.later (hbw.mono hhi) (Nat.le_refl _)).at k hlt
   rw [zb6 hlt] at hc;obtain ⟨a9,c9,hc0,hc1,hc2,hc3,hc4,hc5,hc6,hs9⟩:=DExpr.open hc;have hszk:=zab (f:=DExpr.sz) x.fc k hlt;have hszx:=HZ.out;rw [DExpr.sz_eq] at hszx;have IK:=yq (IH.out _ (zbg hlt));clear hbw hc
   have HC:=yq (fun (W:World) (hW:Below wr.heap.size wr W)=>IK.out (c6:=c9) (by omega) W (Nat.le_trans hhi (Nat.le_trans HBW.out.size hW.size)) (hs9.later (hW.mono (Nat.le_trans hhi HBW.out.size)) (Nat.le_refl _)))
   have HPS:=yq (zum hlt);clear hs9 hszk hszx;generalize depL (x.fc.take k)=D0 at *;generalize x.fc.getD k default=y at *;generalize depX y=D1 at *;(go_wp2_with fail);refine (HC.out _ (Below.refl _ _)).mono ?_;rintro e w1 ⟨rfl,hb1⟩;have HB1:=yq (HB.out.trans (hb1.mono hsz1));clear hb1;(go_wp2_with fail);refine (zrg _ _ _).mono ?_;rintro e w2 ⟨rfl,rfl⟩;go_wp2;go_roundw
   case rel=>exact ⟨k+1,by omega,by go_num,by rw [HPS.out];congr 1;omega,HB1.out⟩
   case measure=>simp [intOf];omega
  ·obtain rfl:k=x.fc.length:=by omega
   clear hbw;have hd:=zo3 x;have hdc:=zsg x;have hcl:=zey x;have HZ2:=HZ.out;rw [List.take_of_length_le (Nat.le_refl _)]
   have FIN:=yq (show (depL x.fc:Int)+1=(depX x:Int) by omega)
   have hb2:(depL x.fc:Int)≤1048577:=by omega
   clear hd hdc hcl HZ2;go_wp2;go_ret
   exact ⟨zan (by first|exact FIN.out|(rw [IntKind.wrap_i64];have:=FIN.out;omega)),HBW.out⟩
theorem zi8 {lo hi c0_0:Nat} {a6:Option Addr} (x:DExpr) (_:x.ok) (hsz:x.sz≤1048576) (w:World) (hhi:hi≤w.heap.size) (hs6:Sl lo hi w 7 x.fc.length (ctE x.fc) a6) :
  Calls Tryz.prog 138 #[.agg #[.int .i64 x.fh,.int .i64 x.fN,.int .i64 x.fb,.int .i64 x.fk,.string x.fd,.string x.fa,.slice a6 x.fc.length c0_0]] w fun e w'=>e = .returned (.int .i64 (depX x:Int))∧Below w.heap.size w w' :=
 DExpr.ind (P:=zdf) zfj x hsz w hhi hs6
theorem zj0 (P:DExpr→Prop) (q:ENode→Bool) (r:DExpr→Bool) (hP : ∀ x,P x → ∀ d,(zu x d).any q=r x) (d:Nat) : ∀ l:List DExpr,(∀ a ∈ l,P a)→(zca l d).any q=l.any r
 | [],_=>rfl
 | e :: es,h=>by
  show (zu e d ++ zca es d).any q=_
  rw [List.any_append,hP e (h e (List.mem_cons_self ..)),zj0 P q r hP d es fun a ha=>h a (List.mem_cons_of_mem _ ha),List.any_cons]
theorem zwd {α : Type} [Inhabited α] {p : α → Bool} {l:List α} (h:zah p l l.length):l.any p=false:=by
 rw [List.any_eq_false];intro a ha;obtain ⟨k,hk,rfl⟩:=List.getElem_of_mem ha
 have:=h k hk
 rw [List.getD_eq_getElem?_getD,List.getElem?_eq_getElem hk] at this
 simpa using this
theorem zxv {α : Type} [Inhabited α] {p : α → Bool} {l:List α} {k:Nat} (hk:k < l.length) (h:p (l.getD k default)=true):l.any p=true :=
 List.any_eq_true.2 ⟨_,zbg hk,h⟩
end Go.Proofs.YtmbaajangkmjdaaGreat
