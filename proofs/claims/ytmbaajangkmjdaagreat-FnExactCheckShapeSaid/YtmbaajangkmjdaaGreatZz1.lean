/-
  Data that a call made for itself: no cell is frozen, and no two slices share a block.
  A region that draws its order, each of whose operations leaves something that lasts (a value; blocks behind all that was there): walked once, each operation by itself, in whatever world it comes: no order is gone through.
  Data in memory, none of whose blocks is frozen: as Lies and Sl, and the blocks can be compared by address.
-/
import Derived.Test.YtmbaajangkmjdaaGreatZCt
import Derived.WalkSmall
import Derived.StillTail
namespace Go.Proofs.YtmbaajangkmjdaaGreat
open Go.ChangeShapes Go.WideShapes Go.ChangeAt Go.RowKit Go.Deep
inductive Own (w:World):(Nat→Prop)→Ct→Value→Prop
 | lit (F:Nat→Prop) (v:Value):Own w F (.lit v) v
 | nil (F:Nat→Prop) (n:Nat) (f:Nat→Nat→Ct) (a:Option Addr) (cap:Nat):Own w F (.sl n 0 f) (.slice a 0 cap)
 | row (F:Nat→Prop) (n len:Nat) (f:Nat→Nat→Ct) (b off cap:Nat) (u:Nat→Nat→Value) (G:Nat→Nat→Nat→Prop) (hF:F b) (hb:b < w.heap.size)
   (hc : ∀ k,k < len → ∀ j,j < n→w.cell? ⟨b,off+k * n+j,none⟩=some (u k j))
   (hz : ∀ o,w.frozen? ⟨b,o,none⟩=false)
   (hl : ∀ k,k < len → ∀ j,j < n→Own w (G k j) (f k j) (u k j))
   (hG : ∀ k,k < len → ∀ j,j < n → ∀ x,G k j x→F x∧x≠b)
   (hd : ∀ k,k < len → ∀ j,j < n → ∀ k',k' < len → ∀ j',j' < n → ∀ x,G k j x→G k' j' x→k=k'∧j=j'):Own w F (.sl n len f) (.slice (some ⟨b,off,none⟩) len cap)
def Kept (F:Nat→Prop) (w w':World):Prop:=w.heap.size≤w'.heap.size ∧ ∀ b,F b→b < w.heap.size→w'.heap[b]? = w.heap[b]?
theorem Kept.cell {F:Nat→Prop} {w w':World} (h:Kept F w w') {p:Addr} (hF:F p.block) (hp:p.block < w.heap.size):w'.cell? p=w.cell? p:=World.cell?_of_block (h.2 p.block hF hp)
theorem Kept.frozen {F:Nat→Prop} {w w':World} (h:Kept F w w') {p:Addr} (hF:F p.block) (hp:p.block < w.heap.size):w'.frozen? p=w.frozen? p:=World.frozen?_of_block (h.2 p.block hF hp)
theorem Kept.sub {F G:Nat→Prop} {w w':World} (h:Kept F w w') (hG : ∀ x,G x→F x):Kept G w w':=⟨h.1,fun b hb hs=>h.2 b (hG b hb) hs⟩
theorem Kept.refl {F:Nat→Prop} {w:World}:Kept F w w:=⟨Nat.le_refl _,fun _ _ _=>rfl⟩
theorem Kept.trans {F:Nat→Prop} {a b c:World} (h:Kept F a b) (k:Kept F b c):Kept F a c:=⟨Nat.le_trans h.1 k.1,fun x hx hs=>(k.2 x hx (Nat.lt_of_lt_of_le hs h.1)).trans (h.2 x hx hs)⟩
theorem Kept.of_below {F:Nat→Prop} {B:Nat} {w w':World} (h:Below B w w') (hF : ∀ x,F x→x < B):Kept F w w':=⟨h.size,fun b hb _=>h.block b (hF b hb)⟩
theorem Kept.of_below_all {F:Nat→Prop} {w w':World} (h:Below w.heap.size w w'):Kept F w w':=⟨h.size,fun b _ hs=>h.block b hs⟩
theorem Kept.setCell {F:Nat→Prop} {w:World} {p:Addr} {v:Value} (hF : ¬ F p.block):Kept F w (w.setCell p v) :=
 ⟨by simp [World.setCell],fun b hb _=>Below.heap_setCell _ _ _ _ (fun e=>hF (e ▸ hb))⟩
theorem Kept.put {F:Nat→Prop} {a w:World} {p:Addr} {v:Value} (h:Kept F a w) (hF : ¬ F p.block):Kept F a (w.setCell p v):=h.trans (Kept.setCell hF)
theorem Own.kept {w w':World} {F:Nat→Prop} {c:Ct} {v:Value} (h:Own w F c v) (hk:Kept F w w'):Own w' F c v:=by
 induction h with
 | lit F v=>exact .lit F v
 | nil F n f a cap=>exact .nil F n f a cap
 | row F n len f b off cap u G hF hb hc hz hl hG hd ih =>
  exact .row F n len f b off cap u G hF (Nat.lt_of_lt_of_le hb hk.1) (fun k hk' j hj=>(hk.cell (p:=⟨b,_,none⟩) hF hb).trans (hc k hk' j hj))
   (fun o=>(hk.frozen (p:=⟨b,o,none⟩) hF hb).trans (hz o)) (fun k hk' j hj=>ih k hk' j hj (hk.sub fun x hx=>(hG k hk' j hj x hx).1)) hG hd
theorem Own.sub {w:World} {F F':Nat→Prop} {c:Ct} {v:Value} (h:Own w F c v) (hF' : ∀ x,F x→F' x):Own w F' c v:=by
 cases h with
 | lit F v=>exact .lit F' v
 | nil F n f a cap=>exact .nil F' n f a cap
 | row F n len f b off cap u G hF hb hc hz hl hG hd =>
  exact .row F' n len f b off cap u G (hF' _ hF) hb hc hz hl (fun k hk j hj x hx=>⟨hF' _ (hG k hk j hj x hx).1,(hG k hk j hj x hx).2⟩) hd
theorem Own.lies {w:World} {F:Nat→Prop} {c:Ct} {v:Value} {lo hi:Nat} (h:Own w F c v) (hF : ∀ x,F x→lo≤x∧x < hi):Lies lo hi w c v:=by
 induction h with
 | lit F v=>exact .lit v
 | nil F n f a cap=>exact .nil n f a cap
 | row F n len f b off cap u G hF' hb hc hz hl hG hd ih =>
  exact .row n len f b off cap u (hF b hF').1 (hF b hF').2 hc fun k hk j hj=>ih k hk j hj fun x hx=>hF x (hG k hk j hj x hx).1
def OwnR (w:World) (F:Nat→Prop) (n:Nat) (c:Nat→Ct) (u:Nat→Value):Prop :=
 ∃ G:Nat→Nat→Prop,(∀ j,j < n→Own w (G j) (c j) (u j))∧(∀ j,j < n → ∀ x,G j x→F x) ∧ ∀ j,j < n → ∀ j',j' < n → ∀ x,G j x→G j' x→j=j'
theorem OwnR.kept {w w':World} {F:Nat→Prop} {n:Nat} {c:Nat→Ct} {u:Nat→Value} (h:OwnR w F n c u) (hk:Kept F w w'):OwnR w' F n c u:=by
 obtain ⟨G,h1,h2,h3⟩:=h
 exact ⟨G,fun j hj=>(h1 j hj).kept (hk.sub (h2 j hj)),h2,h3⟩
theorem OwnR.sub {w:World} {F F':Nat→Prop} {n:Nat} {c:Nat→Ct} {u:Nat→Value} (h:OwnR w F n c u) (hF : ∀ x,F x→F' x):OwnR w F' n c u:=by
 obtain ⟨G,h1,h2,h3⟩:=h
 exact ⟨G,h1,fun j hj x hx=>hF x (h2 j hj x hx),h3⟩
theorem OwnR.congr {w:World} {F:Nat→Prop} {n:Nat} {c c':Nat→Ct} {u u':Nat→Value} (h:OwnR w F n c u) (hc : ∀ j,j < n→c j=c' j) (hu : ∀ j,j < n→u j=u' j):OwnR w F n c' u':=by
 obtain ⟨G,h1,h2,h3⟩:=h
 exact ⟨G,fun j hj=>by rw [← hc j hj,← hu j hj];exact h1 j hj,h2,h3⟩
theorem OwnR.lits {w:World} {F:Nat→Prop} {n:Nat} {c:Nat→Ct} {u:Nat→Value} (h : ∀ j,j < n→c j = .lit (u j)):OwnR w F n c u :=
 ⟨fun _ _=>False,fun j hj=>by rw [h j hj];exact .lit _ _,fun _ _ _ hx=>hx.elim,fun _ _ _ _ _ hx=>hx.elim⟩
theorem OwnR.lies {w:World} {F:Nat→Prop} {n:Nat} {c:Nat→Ct} {u:Nat→Value} {lo hi:Nat} (h:OwnR w F n c u) (hF : ∀ x,F x→lo≤x∧x < hi) (j:Nat) (hj:j < n):Lies lo hi w (c j) (u j):=by
 obtain ⟨G,h1,h2,h3⟩:=h
 exact (h1 j hj).lies fun x hx=>hF x (h2 j hj x hx)
theorem OwnR.one {w : World} {F : Nat → Prop} {c : Nat → Ct} {u : Nat → Value} (h : Own w F (c 0) (u 0)) : OwnR w F 1 c u :=
  ⟨fun _ => F, fun j hj => by obtain rfl : j = 0 := by omega
                              exact h, fun _ _ _ hx => hx, fun j hj j' hj' _ _ _ => by omega⟩
theorem OwnR.append {w:World} {F F1 F2:Nat→Prop} {m n:Nat} {c:Nat→Ct} {u:Nat→Value} (h1:OwnR w F1 m c u) (h2:OwnR w F2 n (fun j=>c (m+j)) (fun j=>u (m+j))) (hd : ∀ x,F1 x→F2 x→False) (hF1 : ∀ x,F1 x→F x) (hF2 : ∀ x,F2 x→F x):OwnR w F (m+n) c u:=by
 obtain ⟨G1,a1,b1,d1⟩:=h1;obtain ⟨G2,a2,b2,d2⟩:=h2
 refine ⟨fun j=>if j < m then G1 j else G2 (j - m),fun j hj=>?_,fun j hj x hx=>?_,fun j hj j' hj' x hx hx'=>?_⟩
 ·by_cases h:j < m
  ·simp only [if_pos h];exact a1 j h
  ·simp only [if_neg h]
   have:Own w (G2 (j - m)) (c (m+(j - m))) (u (m+(j - m))):=a2 (j - m) (by omega)
   rw [show m+(j - m)=j by omega] at this
   exact this
 ·by_cases h:j < m
  ·simp only [if_pos h] at hx;exact hF1 x (b1 j h x hx)
  ·simp only [if_neg h] at hx;exact hF2 x (b2 (j - m) (by omega) x hx)
 ·by_cases h:j < m<;>by_cases h':j' < m
  ·simp only [if_pos h] at hx;simp only [if_pos h'] at hx';exact d1 j h j' h' x hx hx'
  ·simp only [if_pos h] at hx;simp only [if_neg h'] at hx';exact (hd x (b1 j h x hx) (b2 (j' - m) (by omega) x hx')).elim
  ·simp only [if_neg h] at hx;simp only [if_pos h'] at hx';exact (hd x (b1 j' h' x hx') (b2 (j - m) (by omega) x hx)).elim
  ·simp only [if_neg h] at hx;simp only [if_neg h'] at hx'
   have:=d2 (j - m) (by omega) (j' - m) (by omega) x hx hx'
   omega
def za7 (B:Nat) (w:World) (n k:Nat) (c:Nat→Nat→Ct) (xs:List Value):Prop :=
 ∃ s:Nat→Nat,(∀ i,B < s i)∧(∀ i,i < k→s i≤s (i+1))∧s k≤w.heap.size ∧ ∀ i,i < k→OwnR w (fun x=>s i≤x∧x < s (i+1)) n (c i) (fun j=>xs.getD (i * n+j) .nilFunc)
theorem za7.zero {B n:Nat} {w:World} {c:Nat→Nat→Ct} {xs:List Value} (h:B < w.heap.size):za7 B w n 0 c xs:=⟨fun _=>B+1,fun _=>Nat.lt_succ_self B,fun _ h=>absurd h (Nat.not_lt_zero _),h,fun _ h=>absurd h (Nat.not_lt_zero _)⟩
theorem za7.mono {k : Nat} {s : Nat → Nat} (h : ∀ i, i < k → s i ≤ s (i + 1)) : ∀ i j, i ≤ j → j ≤ k → s i ≤ s j := by
  intro i j hij hjk
  induction j with
  | zero => obtain rfl : i = 0 := by omega
            exact Nat.le_refl _
  | succ j ih =>
    rcases Nat.lt_or_ge i (j + 1) with h' | h'
    · exact Nat.le_trans (ih (by omega) (by omega)) (h j (by omega))
    · obtain rfl : i = j + 1 := by omega
      exact Nat.le_refl _
theorem za7.step {B n k:Nat} {w0 w:World} {c:Nat→Nat→Ct} {xs ys:List Value} (h:za7 B w0 n k c xs) (hk:Kept (fun x=>B < x) w0 w) {u:Nat→Value} (hu:OwnR w (fun x=>w0.heap.size≤x∧x < w.heap.size) n (c k) u)
  (hy1 : ∀ i,i < k → ∀ j,j < n→ys.getD (i * n+j) .nilFunc=xs.getD (i * n+j) .nilFunc) (hy2 : ∀ j,j < n→ys.getD (k * n+j) .nilFunc=u j):za7 B w n (k+1) c ys:=by
 obtain ⟨s,h1,h2,h3,h4⟩:=h
 refine ⟨fun i=>if i≤k then s i else w.heap.size,fun i=>?_,fun i hi=>?_,?_,fun i hi=>?_⟩
 ·by_cases hik:i≤k
  ·simp only [if_pos hik];exact h1 i
  ·simp only [if_neg hik];exact Nat.lt_of_lt_of_le (h1 k) (Nat.le_trans h3 hk.1)
 ·by_cases hik:i < k
  ·simp only [if_pos (show i≤k by omega),if_pos (show i+1≤k by omega)];exact h2 i hik
  ·simp only [if_pos (show i≤k by omega),if_neg (show ¬ i+1≤k by omega)]
   obtain rfl:i=k:=by omega
   exact Nat.le_trans h3 hk.1
 ·simp only [if_neg (show ¬ k+1≤k by omega)];exact Nat.le_refl _
 ·by_cases hik:i < k
  ·simp only [if_pos (show i≤k by omega),if_pos (show i+1≤k by omega)]
   exact ((h4 i hik).kept (hk.sub fun x hx=>Nat.lt_of_lt_of_le (h1 i) hx.1)).congr (fun _ _=>rfl) fun j hj=>(hy1 i hik j hj).symm
  ·simp only [if_pos (show i≤k by omega),if_neg (show ¬ i+1≤k by omega)]
   obtain rfl:i=k:=by omega
   exact (hu.sub fun x hx=>⟨Nat.le_trans h3 hx.1,hx.2⟩).congr (fun _ _=>rfl) fun j hj=>(hy2 j hj).symm
theorem za7.own {B n len cap:Nat} {w:World} {c:Nat→Nat→Ct} {xs:List Value} (h:za7 B w n len c xs) (hb:B < w.heap.size)
  (hc : ∀ i,i < len * n→w.cell? ⟨B,i,none⟩=some (xs.getD i .nilFunc)) (hz : ∀ o,w.frozen? ⟨B,o,none⟩=false):Own w (fun x=>B≤x∧x < w.heap.size) (.sl n len c) (.slice (some ⟨B,0,none⟩) len cap):=by
 obtain ⟨s,h1,h2,h3,h4⟩:=h
 classical
 refine .row _ n len c B 0 cap (fun k j=>xs.getD (k * n+j) .nilFunc) (fun k j=>if hk:k < len then Classical.choose (h4 k hk) j else fun _=>False) ⟨Nat.le_refl _,hb⟩ hb (fun k hk j hj=>?_) hz (fun k hk j hj=>?_) (fun k hk j hj x hx=>?_) (fun k hk j hj k' hk' j' hj' x hx hx'=>?_)
 ·rw [Nat.zero_add]
  refine hc _ ?_
  calc k * n+j < k * n+n:=by omega
   _=(k+1) * n:=by rw [Nat.add_mul,Nat.one_mul]
   _≤len * n:=Nat.mul_le_mul_right n (by omega)
 ·simp only [dif_pos hk];exact (Classical.choose_spec (h4 k hk)).1 j hj
 ·simp only [dif_pos hk] at hx
  have h5:=(Classical.choose_spec (h4 k hk)).2.1 j hj x hx;have h6:=h1 k
  have h7:s (k+1)≤s len:=za7.mono h2 (k+1) len (by omega) (Nat.le_refl _)
  exact ⟨⟨by omega,by omega⟩,by omega⟩
 ·simp only [dif_pos hk] at hx
  simp only [dif_pos hk'] at hx'
  have h5:=(Classical.choose_spec (h4 k hk)).2.1 j hj x hx;have h6:=(Classical.choose_spec (h4 k' hk')).2.1 j' hj' x hx'
  have hkk:k=k':=by
   rcases Nat.lt_trichotomy k k' with h|h|h
   ·have:=za7.mono h2 (k+1) k' (by omega) (by omega)
    omega
   ·exact h
   ·have:=za7.mono h2 (k'+1) k (by omega) (by omega)
    omega
  subst hkk;exact ⟨rfl,(Classical.choose_spec (h4 k hk)).2.2 j hj j' hj' x hx hx'⟩
theorem zak {w:World} {B:Nat} {e:TypeId} {n len g cap:Nat} {xs:List Value} (h:w.ownsRow B e n (.slice (some ⟨g,0,none⟩) len cap) len xs) :
  g < w.heap.size∧B≤g∧(∀ i,i < len * n→w.cell? ⟨g,i,none⟩=some (xs.getD i .nilFunc)) ∧ ∀ o,w.frozen? ⟨g,o,none⟩=false:=by
 have h0:=h;have hlen:xs.length=len * n:=h.1
 rcases h.2 with ⟨h',_⟩|⟨g',cap',cur,h',hB,hg,_⟩
 ·cases h'
 ·simp only [Value.slice.injEq,Option.some.injEq,Addr.mk.injEq,and_true,true_and] at h'
  obtain ⟨h1,h2⟩:=h';subst h1
  refine ⟨(Array.getElem?_eq_some_iff.1 hg).1,hB,fun i hi=>?_,fun o=>h0.frozenAt o⟩
  rw [h0.cellAt i hi,List.getD_eq_getElem?_getD,List.getElem?_eq_getElem (show i < xs.length by rw [hlen];exact hi)]
  rfl
theorem zl {w w':World} {B:Nat} {e:TypeId} {n len:Nat} {v:Value} {xs:List Value} (h:w.ownsRow B e n v len xs) (hb:Below w.heap.size w w'):w'.ownsRow B e n v len xs:=by
 obtain ⟨h1,h2⟩:=h;refine ⟨h1,?_⟩
 rcases h2 with h2|⟨g,cap,cur,hv,hB,hg,h3⟩
 ·exact Or.inl h2
 ·exact Or.inr ⟨g,cap,cur,hv,hB,by rw [hb.block g (Array.getElem?_eq_some_iff.1 hg).1];exact hg,h3⟩
theorem ze {w:World} {o:Obj} {k:Nat} (h:k=w.heap.size):(w.alloc o).heap[k]? = some o:=by
 subst h
 show (w.heap.push o)[w.heap.size]? = _
 rw [Array.getElem?_push,if_pos rfl]
theorem zn {w:World} {o:Obj} {k:Nat} {r:Option Obj} (h:k < w.heap.size) (hr:w.heap[k]? = r):(w.alloc o).heap[k]? = r:=(Below.heap_alloc _ _ _ h).trans hr
theorem zaj {w:World} {a:Addr} {u:Value} {k:Nat} {r:Option Obj} (h:k≠a.block) (hr:w.heap[k]? = r):(w.setCell a u).heap[k]? = r:=(Below.heap_setCell _ _ _ _ h).trans hr
theorem zm {w:World} {g j:Nat} {u:Value} {cs:Array Value} {t:TypeId} {fr:Nat × Nat} (h:w.heap[g]? = some (.cells cs t fr)):(w.setCell ⟨g,j,none⟩ u).heap[g]? = some (.cells (cs.setIfInBounds j u) t fr):=by
 simp only [World.setCell,Array.getElem?_modify,h]
 rfl
theorem zy {P:Program} {fn:Func} {p u:Tmp} {ty:TypeId} (h:fn.results = #[.cell p ty,.tmp u]) (tmps:Array Value) (w:World) (g:Nat) (t:TypeId) (cs:Array Value) (fr:Nat × Nat) (d:TypeDesc)
  (hp:tmps.getD p undef = .pointer (some ⟨g,0,none⟩)) (hg:w.heap[g]? = some (.cells cs t fr))
  (hu:P.underlying ty=some d) (hd:(match d with | .struct _ | .array _ _=>true|_=>false)=true) (hi:(P.info? ty).map (·.size)=some cs.size) :
  (results fn tmps).run P w = .ok (.tuple #[.agg cs,tmps.getD u undef]) w:=by
 have hp':tmps[p]?.getD undef = .pointer (some ⟨g,0,none⟩):=by simpa using hp
 simp [results,h,hp',asAddr,run_loadVar_row w g t ty cs fr d hg hu hd hi]
def zir (xs:List Value) (p:Nat):List Value→List Value
 | []=>xs
 | u :: us=>zir (xs.set p u) (p+1) us
def setCells (w:World) (g p:Nat):List Value→World
 | []=>w
 | u :: us=>setCells (w.setCell ⟨g,p,none⟩ u) g (p+1) us
theorem zin (us:List Value) : ∀ (xs:List Value) (p i:Nat) (d:Value),(i < p∨p+us.length≤i)→(zir xs p us).getD i d=xs.getD i d:=by
 induction us with
 | nil=>intro xs p i d _;rfl
 | cons u us ih =>
  intro xs p i d h;rw [List.length_cons] at h
  unfold zir
  rw [ih _ _ _ _ (by omega),List.getD_eq_getElem?_getD,List.getD_eq_getElem?_getD,List.getElem?_set_ne (by omega)]
theorem zts (us:List Value) : ∀ (xs:List Value) (p j:Nat) (d:Value),j < us.length→p+us.length≤xs.length→(zir xs p us).getD (p+j) d=us.getD j d:=by
 induction us with
 | nil=>intro xs p j d h _;exact absurd h (Nat.not_lt_zero _)
 | cons u us ih =>
  intro xs p j d h hp;rw [List.length_cons] at h hp
  unfold zir
  cases j with
  | zero =>
   rw [zin us _ _ _ _ (by omega),List.getD_eq_getElem?_getD,Nat.add_zero,List.getElem?_set_self (by omega)]
   rfl
  | succ j =>
   rw [show p+(j+1)=p+1+j by omega,ih _ _ _ _ (by omega) (by rw [List.length_set];omega)]
   rfl
theorem zqc {base:Nat} {e:TypeId} {n len g cap:Nat} (us:List Value) : ∀ {w:World} {xs:List Value} (p:Nat),w.ownsRow base e n (.slice (some ⟨g,0,none⟩) len cap) len xs →
  (setCells w g p us).ownsRow base e n (.slice (some ⟨g,0,none⟩) len cap) len (zir xs p us):=by
 induction us with
 | nil=>intro w xs p h;exact h
 | cons u us ih=>intro w xs p h;exact ih (p+1) (h.stored p u).1
theorem zhc {F:Nat→Prop} {g:Nat} (hF : ¬ F g) (us:List Value) : ∀ (w:World) (p:Nat),Kept F w (setCells w g p us):=by
 induction us with
 | nil=>intro w p;exact Kept.refl
 | cons u us ih=>intro w p;exact (Kept.setCell (p:=⟨g,p,none⟩) (v:=u) hF).trans (ih _ _)
theorem za8 {B g:Nat} {a:World} (hg:B≤g) (us:List Value) : ∀ {w:World} (p:Nat),Below B a w→Below B a (setCells w g p us):=by
 induction us with
 | nil=>intro w p h;exact h
 | cons u us ih=>intro w p h;exact ih _ (h.setCell (p:=⟨g,p,none⟩) hg u)
theorem zop (us:List Value) : ∀ (w:World) (g p:Nat),(setCells w g p us).heap.size=w.heap.size:=by
 induction us with
 | nil=>intro w g p;rfl
 | cons u us ih=>intro w g p;unfold setCells;rw [ih];simp [World.setCell]
theorem za7.stored {B n len k cap:Nat} {e:TypeId} {w0 w:World} {c:Nat→Nat→Ct} {xs:List Value} (h:za7 B w0 n k c xs) (hw:Below w0.heap.size w0 w) (hB:B < w0.heap.size)
  (hrow:w.ownsRow B e n (.slice (some ⟨B,0,none⟩) len cap) len xs) (hk:k < len) (us:List Value) (hus:us.length=n) (hu:OwnR w (fun x=>w0.heap.size≤x∧x < w.heap.size) n (c k) (fun j=>us.getD j .nilFunc)) :
  (setCells w B (k * n) us).ownsRow B e n (.slice (some ⟨B,0,none⟩) len cap) len (zir xs (k * n) us)∧za7 B (setCells w B (k * n) us) n (k+1) c (zir xs (k * n) us):=by
 have hlen:xs.length=len * n:=hrow.1
 have hkn:k * n+n≤len * n:=by
  have:(k+1) * n≤len * n:=Nat.mul_le_mul_right n (by omega)
  rw [Nat.add_mul,Nat.one_mul] at this;exact this
 refine ⟨zqc us (k * n) hrow,?_⟩
 refine za7.step h (xs:=xs) ((Kept.of_below_all hw).trans (zhc (by omega) us w _)) (u:=fun j=>us.getD j .nilFunc) ?_ (fun i hi j hj=>?_) (fun j hj=>?_)
 ·rw [zop]
  exact hu.kept (zhc (by omega) us w _)
 ·refine zin us xs _ _ _ (Or.inl ?_)
  calc i * n+j < i * n+n:=by omega
   _=(i+1) * n:=by rw [Nat.add_mul,Nat.one_mul]
   _≤k * n:=Nat.mul_le_mul_right n (by omega)
 ·exact zts us xs _ j _ (by omega) (by omega)
abbrev Sp:=(Nat→Value)→Nat→Nat→World→Prop
def upd (V:Nat→Value) (i:Nat) (v:Value):Nat→Value:=fun j=>if j=i then v else V j
theorem zam {V:Nat→Value} {i:Nat} {v:Value} {j:Nat} (h:j≠i):upd V i v j=V j:=if_neg h
theorem zb {V:Nat→Value} {i:Nat} {v:Value}:upd V i v i=v:=if_pos rfl
def zxx (B:Nat) (G:Sp):Prop:=∀ V L H w w',B≤w.heap.size→H≤w.heap.size→Kept (fun y=>y < B∨L≤y∧y < H) w w'→G V L H w→G V L H w'
structure Touches (L H:Nat) (w w':World):Prop where
 os:w'.os=w.os
 tape:w'.tape=w.tape
 output:w'.output=w.output
 size:w.heap.size≤w'.heap.size
 block : ∀ k,k < w.heap.size → ¬ (L≤k∧k < H)→w'.heap[k]? = w.heap[k]?
theorem Touches.refl {L H:Nat} {w:World}:Touches L H w w:=⟨rfl,rfl,rfl,Nat.le_refl _,fun _ _ _=>rfl⟩
theorem Touches.put {L H:Nat} {a w:World} (h:Touches L H a w) {p:Addr} (hp:L≤p.block∧p.block < H) (u:Value):Touches L H a (w.setCell p u) :=
 ⟨h.os,h.tape,h.output,by simp [World.setCell];exact h.size,fun k hk hn=>(Below.heap_setCell _ _ _ _ (fun e=>hn (by rw [e];exact hp))).trans (h.block k hk hn)⟩
def zby (on:Nat→Bool) (V:Nat→Value):Nat→List Oper→Act→Act
 | _,[],a=>a
 | k,o :: l,a=>zby on V (k+1) l (if on k then a.put o.dst (V k) else a)
def zbk (V:Nat→Value):Nat→List Oper→Act→Act
 | _,[],a=>a
 | k,o :: l,a=>zbk V (k+1) l (a.put o.dst (V k))
theorem zco (a:Act) (x:Option Tmp) (v:Value):(a.put x v).tmps.size=a.tmps.size:=by
 cases x<;>simp [Act.put]
theorem zg4 (a a':Act) (t:Tmp) (v:Value) (h:a.tmps.size=a'.tmps.size):(a.put (some t) v).eval (.tmp t)=(a'.put (some t) v).eval (.tmp t):=by
 by_cases ht:t < a.tmps.size
 ·simp [Act.eval,Act.put,ht,h ▸ ht]
 ·have ht' : ¬ t < a'.tmps.size:=h ▸ ht
  simp [Act.eval,Act.put,ht,ht']
theorem zti {lx a:Act} {x:Option Tmp} {v v':Value} (hs:a.tmps.size=lx.tmps.size) (h:lx.put x v=lx.put x v'):a.put x v=a.put x v':=by
 cases x with
 | none=>rfl
 | some d =>
  by_cases hd:d < lx.tmps.size
  ·have h1:(lx.put (some d) v).tmps[d]? = (lx.put (some d) v').tmps[d]?:=by rw [h]
   simp [Act.put,hd] at h1
   rw [h1]
  ·have hd':a.tmps.size≤d:=by rw [hs];exact Nat.le_of_not_lt hd
   simp only [Act.put]
   rw [Array.setIfInBounds_eq_of_size_le hd',Array.setIfInBounds_eq_of_size_le hd']
theorem zkf {on on':Nat→Bool} {V V':Nat→Value} : ∀ (l:List Oper) (k:Nat) (a:Act),(∀ j,k≤j→on j=on' j∧V j=V' j)→zby on V k l a=zby on' V' k l a
 | [],_,_,_=>rfl
 | o :: l,k,a,h=>by
  simp only [zby]
  rw [(h k (Nat.le_refl _)).1,(h k (Nat.le_refl _)).2]
  exact zkf l (k+1) _ fun j hj=>h j (by omega)
theorem zky {on:Nat→Bool} {V:Nat→Value} {x:Option Tmp} {v:Value} : ∀ (l:List Oper) (k:Nat) (a:Act),(∀ o ∈ l,∀ d,x=some d→o.dst≠some d)→zby on V k l (a.put x v)=(zby on V k l a).put x v
 | [],_,_,_=>rfl
 | o :: l,k,a,h=>by
  simp only [zby]
  cases on k
  ·exact zky l (k+1) a fun o ho=>h o (List.mem_cons_of_mem _ ho)
  ·simp only [if_true]
   rw [Act.put_comm a v (V k) (fun d hd=>h o List.mem_cons_self d hd)]
   exact zky l (k+1) _ fun o ho=>h o (List.mem_cons_of_mem _ ho)
theorem zkw {on:Nat→Bool} {V:Nat→Value} {v:Value} : ∀ (l:List Oper) (k m:Nat) (a:Act) (o:Oper),l[m]? = some o→(∀ m' o',l[m']? = some o'→m'≠m → ∀ d,o.dst=some d→o'.dst≠some d) →
  zby (fun j=>j == k+m || on j) (fun j=>if j=k+m then v else V j) k l a=(zby on V k l a).put o.dst v∨on (k+m)=true
 | [],_,_,_,_,h,_=>by simp at h
 | o' :: l,k,0,a,o,h,hd=>by
  obtain rfl:o'=o:=by simpa using h
  cases hk:on k
  ·left
   simp only [zby,Nat.add_zero,hk,Bool.or_false,beq_self_eq_true,if_true,Bool.false_eq_true,if_false]
   rw [← zky l (k+1) a fun o2 ho2 d hdd=>by
    obtain ⟨m,hm⟩:=List.mem_iff_getElem?.1 ho2
    exact hd (m+1) o2 (by simpa using hm) (by omega) d hdd]
   exact zkf l (k+1) _ fun j hj=>⟨by simp [show j≠k by omega],by simp [show j≠k by omega]⟩
  ·right;rfl
 | o' :: l,k,m+1,a,o,h,hd=>by
  have h':l[m]? = some o:=by simpa using h
  have e:k+(m+1)=(k+1)+m:=by omega
  simp only [zby,e,show (k == k+1+m)=false by simp;omega,Bool.false_or,show ¬ k=k+1+m by omega,if_false]
  exact zkw l (k+1) m _ o h' fun m' o2 h2 hne d hdd=>hd (m'+1) o2 (by simpa using h2) (by omega) d hdd
theorem zd0 {on:Nat→Bool} {V:Nat→Value} : ∀ (l:List Oper) (k:Nat) (a:Act),(zby on V k l a).tmps.size=a.tmps.size
 | [],_,_=>rfl
 | o :: l,k,a=>by
  simp only [zby]
  rw [zd0 l]
  split
  ·exact zco _ _ _
  ·rfl
theorem zdu {V:Nat→Value} : ∀ (l:List Oper) (k:Nat) (a:Act),(zbk V k l a).tmps.size=a.tmps.size
 | [],_,_=>rfl
 | o :: l,k,a=>by simp only [zbk];rw [zdu l,zco]
theorem zh6 {V:Nat→Value} : ∀ (l:List Oper) (k:Nat) (a:Act) (o:Oper),zbk V k (l ++ [o]) a=(zbk V k l a).put o.dst (V (k+l.length))
 | [],_,_,_=>rfl
 | o' :: l,k,a,o=>by simp only [List.cons_append,zbk];rw [zh6 l,List.length_cons,show k+1+l.length=k+(l.length+1) by omega]
theorem zj3 {on:Nat→Bool} {V:Nat→Value} : ∀ (l:List Oper) (k:Nat) (a:Act),(∀ m,m < l.length→on (k+m)=true)→zby on V k l a=zbk V k l a
 | [],_,_,_=>rfl
 | o :: l,k,a,h=>by
  simp only [zby,zbk]
  rw [show on k=true from h 0 (by simp),if_pos rfl]
  exact zj3 l (k+1) _ fun m hm=>by rw [show k+1+m=k+(m+1) by omega];exact h (m+1) (by simp;omega)
theorem zkn {on:Nat→Bool} {V:Nat→Value} : ∀ (l:List Oper) (k:Nat) (a:Act),(∀ m,m < l.length→on (k+m)=false)→zby on V k l a=a
 | [],_,_,_=>rfl
 | o :: l,k,a,h=>by
  simp only [zby]
  rw [show on k=false from h 0 (by simp)]
  simp only [Bool.false_eq_true,if_false]
  exact zkn l (k+1) _ fun m hm=>by rw [show k+1+m=k+(m+1) by omega];exact h (m+1) (by simp;omega)
theorem zcj {a:Act} {x:Option Tmp} {v:Value} {t:Tmp} (h:x≠some t):(a.put x v).eval (.tmp t)=a.eval (.tmp t) :=
 Act.eval_put fun d hd hx=>h (by rw [hd];cases hx;rfl)
theorem zm1 {on:Nat→Bool} {V:Nat→Value} {t:Tmp} : ∀ (l:List Oper) (k:Nat) (a:Act),(∀ o ∈ l,o.dst≠some t)→(zby on V k l a).eval (.tmp t)=a.eval (.tmp t)
 | [],_,_,_=>rfl
 | o :: l,k,a,h=>by
  simp only [zby]
  rw [zm1 l (k+1) _ fun o ho=>h o (List.mem_cons_of_mem _ ho)]
  split
  ·exact zcj (h o List.mem_cons_self)
  ·rfl
theorem zw9 {on:Nat→Bool} {V:Nat→Value} {t:Tmp} : ∀ (l:List Oper) (k i:Nat) (a a':Act),a.tmps.size=a'.tmps.size→a.eval (.tmp t)=a'.eval (.tmp t)→(∀ m o,l[m]? = some o→o.dst=some t→m < i∧on (k+m)=true) →
  (zby on V k l a).eval (.tmp t)=(zbk V k (l.take i) a').eval (.tmp t)
 | [],k,i,a,a',_,he,_=>by simpa [zby,zbk] using he
 | o :: l,k,0,a,a',hs,he,h=>by
  simp only [List.take_zero,zbk]
  rw [zm1 (o :: l) k a fun o2 ho2 hd=>by
   obtain ⟨m,hm⟩:=List.mem_iff_getElem?.1 ho2
   exact absurd (h m o2 hm hd).1 (by omega)]
  exact he
 | o :: l,k,i+1,a,a',hs,he,h=>by
  simp only [List.take_succ_cons,zbk,zby]
  have h' : ∀ m o2,l[m]? = some o2→o2.dst=some t→m < i∧on (k+1+m)=true:=fun m o2 hm hd=>by
   have:=h (m+1) o2 (by simpa using hm) hd
   exact ⟨by omega,by rw [show k+1+m=k+(m+1) by omega];exact this.2⟩
  by_cases hd:o.dst=some t
  ·have h0:=(h 0 o (by simp) hd).2
   rw [show on k=true from h0,if_pos rfl]
   refine zw9 l (k+1) i _ _ (by rw [zco,zco];exact hs) ?_ h'
   rw [hd];exact zg4 a a' t (V k) hs
  ·refine zw9 l (k+1) i _ _ ?_ ?_ h'
   ·rw [zco];split<;>simp [zco,hs]
   ·rw [zcj hd];split
    ·rw [zcj hd];exact he
    ·exact he
section
variable {P:Program}
def zbv (Q:Exit→Act→World→Prop) (lx:Act) (x:Option Tmp) (R:Value→World→Prop):Exit→Act→World→Prop
 | .normal,a',w'=>∃ v,a'=lx.put x v∧R v w'
 | .outgrown,a',w'=>Q .outgrown a' w'
 | _,_,_=>False
theorem zc {Q:Exit→Act→World→Prop} {lx a':Act} {x:Option Tmp} {w':World} {R:Value→World→Prop} (v:Value) (ha:a'=lx.put x v) (h:R v w'):zbv Q lx x R .normal a' w':=⟨v,ha,h⟩
theorem zuj {lo hi n len:Nat} {f:Nat→Nat→Ct} {a:Option Addr} {w w':World} {F:Nat→Prop} (h:Sl lo hi w n len f a) (hk:Kept F w w') (hF : ∀ b,lo≤b→b < hi→F b) (hh:hi≤w.heap.size):Sl lo hi w' n len f a :=
 h.frame fun b o h1 h2=>hk.cell (p:=⟨b,o,none⟩) (hF b h1 h2) (Nat.lt_of_lt_of_le h2 hh)
theorem ziv {Q:Exit→Act→World→Prop} {lx:Act} {x:Option Tmp} {R:Value→World→Prop} (h:LetsOut (zbv Q lx x R)):LetsOut Q:=h
theorem zu5 {a lx:Act} {t:Tmp} (hsz:a.tmps.size=lx.tmps.size) (h:a.eval (.tmp t)=lx.eval (.tmp t)):a.tmps[t]? = lx.tmps[t]?:=by
 by_cases ht:t < a.tmps.size
 ·have ht':t < lx.tmps.size:=hsz ▸ ht
  simp [Act.eval,ht,ht'] at h ⊢
  exact h
 ·have ht' : ¬ t < lx.tmps.size:=hsz ▸ ht
  simp [ht,ht']
theorem zl2 {ops:Array Oper} {o:Oper} {a lx:Act} (hsz:a.tmps.size=lx.tmps.size) (h : ∀ t,t ∈ o.looksAt ops→a.eval (.tmp t)=lx.eval (.tmp t)):Region.wanted o (yielded ops a.tmps)=Region.wanted o (yielded ops lx.tmps):=by
 unfold Region.wanted
 cases hg:o.guard with
 | none=>rfl
 | some gw =>
  obtain ⟨g,want⟩:=gw
  have hy:yielded ops a.tmps g=yielded ops lx.tmps g:=by
   unfold yielded
   cases ht:(ops[g]?).bind (·.dst) with
   | none=>rfl
   | some t =>
    have:=zu5 hsz (h t (by simp [Oper.looksAt,hg,ht]))
    simp [this]
  simp only [hy]
theorem zm7 {o:Oper} {lx a:Act} {w:World} {Q:Exit→Act→World→Prop} {K:Act→World→Prop} {R:Value→World→Prop} {ops:Array Oper}
  (hw:Region.wanted o (yielded ops a.tmps)=Region.wanted o (yielded ops lx.tmps)) (hs : ∀ cs b,o.op ≠ .select cs b) (hev : ∀ x ∈ o.op.operands,a.eval x=lx.eval x) (hsz:a.tmps.size=lx.tmps.size)
  (hK : ∀ v w',R v w'→K (a.put o.dst v) w')
  (h:wpList P ops (zbv Q lx o.dst R) [o] lx w):if Region.wanted o (yielded ops a.tmps) then o.wp P a w K Q∨(o.asks P a w∧LetsOut Q) else K (a.put o.dst undef) w:=by
 have he:execOp a.eval o=execOp lx.eval o:=execOp_congr o hs hev
 unfold wpList at h
 rw [hw]
 by_cases hwn:Region.wanted o (yielded ops lx.tmps)=true
 case neg =>
  rw [if_neg hwn] at h ⊢;obtain ⟨v,h1,h2⟩:=h;rw [zti hsz h1];exact hK v w h2
 rw [if_pos hwn] at h ⊢
 rcases h with h|⟨h,hl⟩
 ·left
  unfold Oper.wp at *
  rw [he];generalize (execOp lx.eval o).run P w=r at *
  have key : ∀ v w',zbv Q lx o.dst R .normal (lx.put o.dst v) w'→K (a.put o.dst v) w':=fun v w' ⟨v',h1,h2⟩=>by
   rw [zti hsz h1];exact hK v' w' h2
  cases r with
  | ok n w' =>
   cases n<;>simp only [Oper.upon] at h ⊢
   case value v=>exact key v w' h
   case skip=>exact key _ w' h
   case defer d =>
    obtain ⟨v',h1,_⟩:=h
    have h2:=congrArg (fun x=>x.defers.length) h1
    cases hd:o.dst<;>simp [Act.put,hd] at h2
   case enter f args =>
    refine Calls.mono h fun e w'' he'=>?_
    cases e with
    | returned v=>exact key v w'' he'
    | panicked c=>exact he'.elim
    | outgrown=>exact ziv he'
   case row r args=>exact Rows.mono h fun v w'' he'=>key v w'' he'
  | halt x w'=>cases x<;>simp only [Oper.upon] at h ⊢<;>exact h.elim
 ·right
  refine ⟨?_,ziv hl⟩
  unfold Oper.asks at *
  rw [he];exact h
abbrev Line:=List Nat × Option Nat
def ovOf (ls:List Line) (i:Nat):Option Nat:=(ls.getD i ([],none)).2
def zxc (l:List Oper) (ls:List Line) (live:List Nat):Bool :=
 Region.noSelect l.toArray && ls.length == l.length &&
 ((List.range l.length).all fun i=>match l[i]? with
  | none=>true
  | some o=>(o.after.all fun e=>!Region.binds .any e || decide (e.on < i)) &&
   (List.range l.length).all fun j=>i == j || match l[j]? with
    | none=>true
    | some oj=>match oj.dst with
     | none=>true
     | some d=>(!(o.looksAt l.toArray).contains d || Region.waitsFor .any l.toArray i j) && o.dst != some d) &&
 ((List.range l.length).all fun i=>match l[i]? with
  | none=>true
  | some o=>match o.dst with
   | none=>true
   | some d=>!(o.looksAt l.toArray).contains d) &&
 ((List.range l.length).all fun i=>match ovOf ls i with
  | none=>true
  | some t=>Region.waitsFor .any l.toArray i t && (List.range l.length).all fun j=>i == j || ovOf ls j != some t) &&
 ((List.range l.length).all fun i=>(ls.getD i ([],none)).1.all fun j=>Region.waitsFor .any l.toArray i j && (List.range l.length).all fun s=>s == i || ovOf ls s != some j) &&
 live.all fun i=>decide (i < l.length) && (List.range l.length).all fun s=>ovOf ls s != some i
structure FreeOk (l:List Oper) (ls:List Line) (live:List Nat):Prop where
 sel:Region.noSelect l.toArray=true
 len:ls.length=l.length
 back : ∀ (i:Nat) (o:Oper),l[i]? = some o → ∀ e ∈ o.after,Region.binds .any e=true→e.on < i
 looks : ∀ (i:Nat) (o:Oper) (j:Nat) (oj:Oper) d,l[i]? = some o→l[j]? = some oj→oj.dst=some d→d ∈ o.looksAt l.toArray→Region.waitsFor .any l.toArray i j=true
 dst : ∀ (i:Nat) (o:Oper) (j:Nat) (oj:Oper) d,i≠j→l[i]? = some o→l[j]? = some oj→oj.dst=some d→o.dst≠some d
 over : ∀ i t,i < l.length→ovOf ls i=some t→Region.waitsFor .any l.toArray i t=true ∧ ∀ j,j < l.length→ovOf ls j=some t→j=i
 deps : ∀ i j,i < l.length→j ∈ (ls.getD i ([],none)).1→Region.waitsFor .any l.toArray i j=true ∧ ∀ s,s < l.length→ovOf ls s=some j→s=i
 lives : ∀ i,i ∈ live→i < l.length ∧ ∀ s,s < l.length→ovOf ls s≠some i
theorem za0 {l:List Oper} {i:Nat} {o:Oper} (h:l[i]? = some o):i < l.length:=(List.getElem?_eq_some_iff.1 h).1
theorem zxz {l:List Oper} {ls:List Line} {live:List Nat} (h:zxc l ls live=true):FreeOk l ls live:=by
 simp only [zxc,Bool.and_eq_true,decide_eq_true_eq,List.all_eq_true,List.mem_range,Bool.or_eq_true,beq_iff_eq] at h
 obtain ⟨⟨⟨⟨⟨⟨h1,h2⟩,h3⟩,h4⟩,h5⟩,h6⟩,h7⟩:=h
 refine ⟨h1,h2,fun i o ho e he hb=>?_,fun i o j oj d ho hoj hd hl=>?_,fun i o j oj d hij ho hoj hd=>?_,fun i t hi ht=>?_,fun i j hi hj=>?_,fun i hi=>?_⟩
 ·have:=h3 i (za0 ho)
  simp only [ho,Bool.and_eq_true] at this
  have h7:=Array.all_eq_true_iff_forall_mem.1 this.1 e he
  simpa [hb] using h7
 ·by_cases hij:i=j
  ·subst hij
   have:=h4 i (za0 ho)
   obtain rfl:o=oj:=Option.some.inj (ho.symm.trans hoj)
   simp [ho,hd,hl] at this
  ·have:=h3 i (za0 ho)
   simp only [ho,Bool.and_eq_true,List.all_eq_true,List.mem_range] at this
   have h7:=this.2 j (za0 hoj)
   simp [hij,hoj,hd,hl] at h7
   exact h7.1
 ·have:=h3 i (za0 ho)
  simp only [ho,Bool.and_eq_true,List.all_eq_true,List.mem_range] at this
  have h7:=this.2 j (za0 hoj)
  simp [hij,hoj,hd] at h7
  exact h7.2
 ·have:=h5 i hi
  rw [ht] at this
  simp only [Bool.and_eq_true,List.all_eq_true,List.mem_range,Bool.or_eq_true,beq_iff_eq] at this
  exact ⟨this.1,fun j hj hjt=>by
   rcases this.2 j hj with h|h
   ·exact h.symm
   ·simp [hjt] at h⟩
 ·have:=h6 i hi j hj
  exact ⟨this.1,fun s hs hsj=>by
   rcases this.2 s hs with h|h
   ·exact h
   ·simp [hsj] at h⟩
 ·have:=h7 i hi
  exact ⟨this.1,fun s hs hsi=>by have:=this.2 s hs;simp [hsi] at this⟩
theorem zgc {p q:Nat→Bool} {i:Nat} : ∀ (r:List Nat),r.Nodup→i ∈ r→p i=true→q i=false→(∀ j,j≠i→p j=q j)→r.countP p=r.countP q+1
 | [],_,h,_,_,_=>by simp at h
 | x :: r,hn,h,hp,hq,he=>by
  obtain ⟨hx,hr⟩:=List.nodup_cons.1 hn
  by_cases hxi:x=i
  ·subst hxi
   rw [List.countP_cons_of_pos hp,List.countP_cons_of_neg (by simp [hq])]
   congr 1
   exact List.countP_congr fun j hj=>by rw [he j (fun e=>hx (e ▸ hj))]
  ·have hi:i ∈ r:=by
    rcases List.mem_cons.1 h with h|h
    ·exact absurd h.symm hxi
    ·exact h
   have ih:=zgc r hr hi hp hq he;rw [List.countP_cons,List.countP_cons,ih,he x hxi]
   omega
def zkb (B:Nat) (Gs:Nat→Sp) (V:Nat→Value) (L H:Nat→Nat) (w:World) (j:Nat):Prop:=B≤L j∧L j≤H j∧H j≤w.heap.size∧Gs j V (L j) (H j) w
def Live (l:List Oper) (ls:List Line) (on:Nat→Bool) (i:Nat):Prop:=i < l.length∧on i=true ∧ ∀ s,s < l.length→ovOf ls s=some i→on s=false
structure FreeInv (l:List Oper) (ls:List Line) (a0:Act) (w0:World) (Gs:Nat→Sp) (listed:Array Bool) (V:Nat→Value) (L H:Nat→Nat) (a:Act) (w:World):Prop where
 size:listed.size=l.length
 closed : ∀ j oj,l[j]? = some oj→listed.getD j false=true → ∀ e ∈ oj.after,Region.binds .any e=true→listed.getD e.on false=true
 act:a=zby (fun k=>listed.getD k false) V 0 l a0
 below:Below w0.heap.size w0 w
 held : ∀ i,Live l ls (fun k=>listed.getD k false) i→zkb w0.heap.size Gs V L H w i
 dead : ∀ s i,s < l.length→ovOf ls s=some i→listed.getD s false=true→L s=L i∧H s=H i ∧ ∃ wo,Gs i V (L i) (H i) wo
 apart : ∀ i j,i≠j→Live l ls (fun k=>listed.getD k false) i→Live l ls (fun k=>listed.getD k false) j→H i≤L j∨H j≤L i
theorem zsr {l:List Oper} {ls:List Line} {live:List Nat} (ok:FreeOk l ls live) {listed:Array Bool} (hsz:listed.size=l.length) : ∀ i,i < l.length→listed.getD i true=false → ∃ j,j ∈ Region.ready .any l.toArray listed:=by
 intro i
 induction i using Nat.strongRecOn with
 | _ i ih =>
  intro hil hu
  by_cases hr:i ∈ Region.ready .any l.toArray listed
  ·exact ⟨i,hr⟩
  ·have h1 : ¬ (listed.getD i true=false ∧ ∃ o,l.toArray[i]? = some o ∧ ∀ e ∈ o.after,Region.binds .any e=true→listed.getD e.on false=true):=fun h=>hr (mem_ready.2 h)
   have h2 : ∃ e ∈ (l[i]'hil).after,Region.binds .any e=true ∧ ¬ listed.getD e.on false=true:=by
    by_cases h3 : ∃ e ∈ (l[i]'hil).after,Region.binds .any e=true ∧ ¬ listed.getD e.on false=true
    ·exact h3
    ·exact absurd ⟨hu,l[i]'hil,by simp [hil],fun e he hb=>by
      by_cases h4:listed.getD e.on false=true
      ·exact h4
      ·exact absurd ⟨e,he,hb,h4⟩ h3⟩ h1
   obtain ⟨e,he,hb,hn⟩:=h2
   have hlt:=ok.back i _ (by simp [hil]) e he hb
   exact ih e.on hlt (by omega) (getD_in (by omega) (by simpa using hn))
def zyb (ls:List Line) (Gs:Nat→Sp):Prop:=∀ k V V' L H w,V k=V' k→(∀ j,j ∈ (ls.getD k ([],none)).1→V j=V' j)→Gs k V L H w→Gs k V' L H w
def zrj (ls:List Line) (Gs:Nat→Sp) (V:Nat→Value) (L H:Nat→Nat) (w:World) (i:Nat) (v:Value) (w':World):Prop :=
 match ovOf ls i with
 | none=>Below w.heap.size w w'∧Gs i (upd V i v) w.heap.size w'.heap.size w'
 | some t=>Touches (L t) (H t) w w'∧Gs i (upd V i v) (L t) (H t) w'
theorem zhl {l:List Oper} {ls:List Line} {live:List Nat} {a0:Act} {w0:World} {Gs:Nat→Sp} {Q:Exit→Act→World→Prop} (ok:FreeOk l ls live)
  (hloc:zyb ls Gs) (hlast : ∀ i,i < l.length→zxx w0.heap.size (Gs i))
  (hrun : ∀ i o,l[i]? = some o → ∀ V L H w,Below w0.heap.size w0 w→(∀ j,j ∈ (ls.getD i ([],none)).1→zkb w0.heap.size Gs V L H w j) →
   wpList P l.toArray (zbv Q (zbk V 0 (l.take i) a0) o.dst (zrj ls Gs V L H w i)) [o] (zbk V 0 (l.take i) a0) w)
  (hend : ∀ V L H w,Below w0.heap.size w0 w→(∀ j,j ∈ live→zkb w0.heap.size Gs V L H w j)→(∀ i j,i ∈ live→j ∈ live→i≠j→H i≤L j∨H j≤L i) →
   (∀ s i,s < l.length→ovOf ls s=some i→L s=L i∧H s=H i ∧ ∃ wo,Gs i V (L i) (H i) wo)→Q .normal (zbk V 0 l a0) w) :
  ∀ (f:Nat) (listed:Array Bool) (V:Nat→Value) (L H:Nat→Nat) (a:Act) (w:World),FreeInv l ls a0 w0 Gs listed V L H a w →
   (List.range l.length).countP (fun i=>listed.getD i true == false)=f→wpAny P .any l.toArray Q f listed a w
 | 0,listed,V,L,H,a,w,inv,hf=>by
  have hall : ∀ i,i < l.length→listed.getD i true=true:=fun i hi=>by
   have h1:=List.countP_eq_zero.1 hf i (List.mem_range.2 hi)
   simpa using h1
  have hallf : ∀ i,i < l.length→listed.getD i false=true:=fun i hi=>by
   have h1:=hall i hi
   have h2:i < listed.size:=by have:=inv.size;omega
   simp [h2] at h1 ⊢;exact h1
  have hlv : ∀ i,i ∈ live→Live l ls (fun k=>listed.getD k false) i:=fun i hi=>⟨(ok.lives i hi).1,hallf i (ok.lives i hi).1,fun s hs h=>absurd h ((ok.lives i hi).2 s hs)⟩
  have hact:a=zbk V 0 l a0:=by
   rw [inv.act]
   exact zj3 _ _ _ fun m hm=>by rw [Nat.zero_add];exact hallf m hm
  refine ⟨?_,?_⟩
  ·cases hr:Region.ready .any l.toArray listed with
   | nil=>rfl
   | cons i r =>
    have hi:i ∈ Region.ready .any l.toArray listed:=by rw [hr];exact List.mem_cons_self
    obtain ⟨hun,o,ho,_⟩:=mem_ready.1 hi
    have hil:i < l.length:=za0 (by simpa using ho)
    rw [hall i hil] at hun
    cases hun
  ·rw [hact]
   exact hend V L H w inv.below (fun j hj=>inv.held j (hlv j hj)) (fun i j hi hj hij=>inv.apart i j hij (hlv i hi) (hlv j hj)) (fun s i hs hsi=>inv.dead s i hs hsi (hallf s hs))
 | f+1,listed,V,L,H,a,w,inv,hf=>by
  have hsz:=inv.size
  have hex : ∃ i,i < l.length∧listed.getD i true=false:=by
   have h1:0 < (List.range l.length).countP (fun i=>listed.getD i true == false):=by omega
   obtain ⟨i,hi,h2⟩:=List.countP_pos_iff.1 h1
   exact ⟨i,List.mem_range.1 hi,by simpa using h2⟩
  obtain ⟨i0,hi0,hu0⟩:=hex
  refine ⟨fun h0=>?_,fun i hi=>?_⟩
  ·obtain ⟨j,hj⟩:=zsr ok hsz i0 hi0 hu0
   rw [h0] at hj;cases hj
  ·obtain ⟨hun,o,ho,hall⟩:=mem_ready.1 hi
   have ho':l[i]? = some o:=by simpa using ho
   have hil:=za0 ho';have hoff:listed.getD i false=false:=getD_both hun
   have hwaits : ∀ j,Region.waitsFor .any l.toArray i j=true→j < i∧listed.getD j false=true:=fun j hj=>by
    obtain ⟨oj,hoj,e,he,hb,hon⟩:=Region.waitsFor_spec hj;obtain rfl:oj=o:=Option.some.inj (hoj.symm.trans ho);exact ⟨hon ▸ ok.back i oj ho' e he hb,hon ▸ hall e he hb⟩
   have hlive : ∀ j,Region.waitsFor .any l.toArray i j=true→(∀ s,s < l.length→ovOf ls s=some j→s=i)→Live l ls (fun k=>listed.getD k false) j:=fun j hj hs =>
    ⟨by have:=(hwaits j hj).1;omega,(hwaits j hj).2,fun s hsl hsj=>by rw [hs s hsl hsj];exact hoff⟩
   have hR:=hrun i o ho' V L H w inv.below (fun j hj=>inv.held j (hlive j (ok.deps i j hil hj).1 (ok.deps i j hil hj).2))
   have hagree : ∀ t,t ∈ o.looksAt l.toArray→a.eval (.tmp t)=(zbk V 0 (l.take i) a0).eval (.tmp t):=fun t ht=>by
    rw [inv.act]
    refine zw9 l 0 i a0 a0 rfl rfl fun m o2 hm hd=>?_
    have hw:=ok.looks i o m o2 t ho' hm hd ht;rw [Nat.zero_add];exact hwaits m hw
   unfold wpOp
   simp only [ho]
   refine zm7 (zl2 (by rw [inv.act,zd0,zdu]) fun t ht=>hagree t ht) (Region.noSelect_spec ok.sel i o · · ho) (fun x hx=>?_) (by rw [inv.act,zd0,zdu]) (fun v w' hS=>?_) hR
   ·cases x with
    | tmp t=>exact hagree t (List.mem_append_left _ (List.mem_filterMap.2 ⟨.tmp t,by simpa using hx,rfl⟩))
    | _=>rfl
   ·have hgs : ∀ j,(listed.setIfInBounds i true).getD j false=(j == 0+i || listed.getD j false):=fun j=>by
     by_cases hji:j=i
     ·subst hji;simp [show j < listed.size by omega]
     ·rw [getD_set_ne false (Ne.symm hji)];simp [hji]
    have hact:zby (fun k=>(listed.setIfInBounds i true).getD k false) (upd V i v) 0 l a0=a.put o.dst v:=by
     have hact:=zkw (on:=fun k=>listed.getD k false) (V:=V) (v:=v) l 0 i a0 o ho' (fun m' o2 hm hne d hd hd2=>ok.dst m' o2 i o d hne hm ho' hd hd2)
     rcases hact with hact|hact
     ·rw [inv.act,← hact]
      congr 1
      ·funext j;exact hgs j
      ·funext j;simp [upd]
     ·rw [Nat.zero_add] at hact;rw [hact] at hoff;cases hoff
    have hclosed : ∀ j oj,l[j]? = some oj→(listed.setIfInBounds i true).getD j false=true → ∀ e ∈ oj.after,Region.binds .any e=true→(listed.setIfInBounds i true).getD e.on false=true:=fun j oj hoj hl e he hb=>by
     by_cases hij:i=j
     ·subst hij
      obtain rfl:oj=o:=Option.some.inj (hoj.symm.trans ho');exact getD_set_true (hall e he hb)
     ·rw [getD_set_ne false hij] at hl
      exact getD_set_true (inv.closed j oj hoj hl e he hb)
    have hcnt:(List.range l.length).countP (fun j=>(listed.setIfInBounds i true).getD j true == false)=f:=by
     have h1:=zgc (p:=fun j=>listed.getD j true == false) (q:=fun j=>(listed.setIfInBounds i true).getD j true == false) (i:=i) (List.range l.length) List.nodup_range (List.mem_range.2 hil) (by simpa using hun) (by simp [show i < listed.size by omega]) (fun j hj=>by simp only [getD_set_ne true (Ne.symm hj)])
     omega
    have hold : ∀ j,j≠i→Live l ls (fun k=>(listed.setIfInBounds i true).getD k false) j→Live l ls (fun k=>listed.getD k false) j∧ovOf ls i≠some j:=fun j hji ⟨h1,h2,h3⟩ =>
     ⟨⟨h1,by have:=h2;simp only [hgs j,Nat.zero_add] at this;simpa [hji] using this,fun s hs hsj=>by
       have h4:=h3 s hs hsj
       simp only [hgs s,Bool.or_eq_false_iff] at h4
       exact h4.2⟩,fun h=>by have h4:=h3 i hil h;simp [hgs i] at h4⟩
    have htgt : ∀ s t,s < l.length→ovOf ls s=some t→listed.getD s false=true→listed.getD t false=true:=fun s t hs hst hl=>by
     obtain ⟨os,hos,e,he,hb,hon⟩:=Region.waitsFor_spec (ok.over s t hs hst).1
     exact hon ▸ inv.closed s os (by simpa using hos) hl e he hb
    have hni : ∀ t,listed.getD t false=true→t≠i:=fun t ht e=>by rw [e,hoff] at ht;cases ht
    have hmv : ∀ k,k < l.length→listed.getD k false=true → ∀ L H w,Gs k V L H w→Gs k (upd V i v) L H w:=fun k hk hon L H w hG =>
     hloc k V (upd V i v) L H w (zam (hni k hon)).symm (fun j hj=>(zam (hni j (by
      obtain ⟨ok',hok',e,he,hb,hone⟩:=Region.waitsFor_spec (ok.deps k j hk hj).1
      exact hone ▸ inv.closed k ok' (by simpa using hok') hon e he hb))).symm) hG
    cases hov:ovOf ls i with
    | none =>
     unfold zrj at hS
     rw [hov] at hS;obtain ⟨hb,hG⟩:=hS
     refine zhl ok hloc hlast hrun hend f (listed.setIfInBounds i true) (upd V i v) (fun j=>if j=i then w.heap.size else L j) (fun j=>if j=i then w'.heap.size else H j) _ w' ⟨by simpa using hsz,hclosed,hact.symm,inv.below.trans (hb.mono inv.below.size),?_,?_,?_⟩ hcnt
     ·intro j hj
      unfold zkb
      by_cases hji:j=i
      ·subst hji
       simp only [if_true]
       exact ⟨inv.below.size,hb.size,Nat.le_refl _,hG⟩
      ·simp only [hji,if_false]
       obtain ⟨h1,h2,h3,h4⟩:=inv.held j (hold j hji hj).1;exact ⟨h1,h2,Nat.le_trans h3 hb.size,hlast j hj.1 _ _ _ w w' inv.below.size h3 (Kept.of_below_all hb) (hmv j hj.1 (hold j hji hj).1.2.1 _ _ _ h4)⟩
     ·intro s t hs hst hl
      rw [hgs s] at hl
      by_cases hsi:s=i
      ·subst hsi;rw [hov] at hst;cases hst
      ·have hl':listed.getD s false=true:=by simpa [hsi] using hl
       have hti:=hni t (htgt s t hs hst hl');obtain ⟨e1,e2,wo,hG'⟩:=inv.dead s t hs hst hl'
       simp only [hsi,hti,if_false]
       exact ⟨e1,e2,wo,hmv t (by have:=Region.waitsFor_spec (ok.over s t hs hst).1;obtain ⟨os,hos,e,he,hb,hon⟩:=this;have h5:=ok.back s os (by simpa using hos) e he hb;omega) (htgt s t hs hst hl') _ _ _ hG'⟩
     ·intro j k hjk hlj hlk
      by_cases hji:j=i
      ·subst hji
       simp only [if_true,Ne.symm hjk,if_false]
       exact .inr (inv.held k (hold k (Ne.symm hjk) hlk).1).2.2.1
      ·by_cases hki:k=i
       ·subst hki
        simp only [if_true,hji,if_false]
        exact .inl (inv.held j (hold j hji hlj).1).2.2.1
       ·simp only [hji,hki,if_false]
        exact inv.apart j k hjk (hold j hji hlj).1 (hold k hki hlk).1
    | some t =>
     unfold zrj at hS
     rw [hov] at hS;obtain ⟨hb,hG⟩:=hS;obtain ⟨hwt,huni⟩:=ok.over i t hil hov
     have hlt:Live l ls (fun k=>listed.getD k false) t:=hlive t hwt (fun s hs h=>huni s hs h)
     obtain ⟨t1,t2,t3,t4⟩:=inv.held t hlt
     have hne : ∀ j,j≠i→Live l ls (fun k=>(listed.setIfInBounds i true).getD k false) j→j≠t:=fun j hji hj e=>(hold j hji hj).2 (e ▸ hov)
     refine zhl ok hloc hlast hrun hend f (listed.setIfInBounds i true) (upd V i v) (fun j=>if j=i then L t else L j) (fun j=>if j=i then H t else H j) _ w' ⟨by simpa using hsz,hclosed,hact.symm,inv.below.trans ⟨hb.os,hb.tape,hb.output,hb.size,fun k hk=>hb.block k (Nat.lt_of_lt_of_le hk inv.below.size) (fun h=>by omega)⟩,?_,?_,?_⟩ hcnt
     ·intro j hj
      unfold zkb
      by_cases hji:j=i
      ·subst hji
       simp only [if_true]
       exact ⟨t1,t2,Nat.le_trans t3 hb.size,hG⟩
      ·simp only [hji,if_false]
       have hlj:=(hold j hji hj).1;obtain ⟨h1,h2,h3,h4⟩:=inv.held j hlj;have hap:=inv.apart j t (hne j hji hj) hlj hlt
       exact ⟨h1,h2,Nat.le_trans h3 hb.size,hlast j hj.1 _ _ _ w w' inv.below.size h3 ⟨hb.size,fun b hb1 hb2=>hb.block b hb2 (fun hb3=>by rcases hb1 with hb1|hb1<;>rcases hap with h|h<;>omega)⟩ (hmv j hj.1 hlj.2.1 _ _ _ h4)⟩
     ·intro s u hs hst hl
      rw [hgs s] at hl
      by_cases hsi:s=i
      ·subst hsi
       obtain rfl:t=u:=Option.some.inj (hov.symm.trans hst);have hti:=hni t hlt.2.1
       simp only [hti,if_true,if_false]
       exact ⟨trivial,trivial,w,hmv t hlt.1 hlt.2.1 _ _ _ t4⟩
      ·have hl':listed.getD s false=true:=by simpa [hsi] using hl
       have hti:=hni u (htgt s u hs hst hl');obtain ⟨e1,e2,wo,hG'⟩:=inv.dead s u hs hst hl'
       simp only [hsi,hti,if_false]
       exact ⟨e1,e2,wo,hmv u (by have:=Region.waitsFor_spec (ok.over s u hs hst).1;obtain ⟨os,hos,e,he,hb,hon⟩:=this;have h5:=ok.back s os (by simpa using hos) e he hb;omega) (htgt s u hs hst hl') _ _ _ hG'⟩
     ·intro j k hjk hlj hlk
      by_cases hji:j=i
      ·subst hji
       simp only [if_true,Ne.symm hjk,if_false]
       exact (inv.apart t k (Ne.symm (hne k (Ne.symm hjk) hlk)) hlt (hold k (Ne.symm hjk) hlk).1)
      ·by_cases hki:k=i
       ·subst hki
        simp only [if_true,hji,if_false]
        exact (inv.apart j t (hne j hji hlj) (hold j hji hlj).1 hlt)
       ·simp only [hji,hki,if_false]
        exact inv.apart j k hjk (hold j hji hlj).1 (hold k hki hlk).1
def zim (B:Nat) (Gs:Nat→Sp) (V:Nat→Value) (L H:Nat→Nat) (w:World):List Nat→Prop
 | []=>True
 | j :: js=>zkb B Gs V L H w j∧zim B Gs V L H w js
theorem zko {B:Nat} {Gs:Nat→Sp} {V:Nat→Value} {L H:Nat→Nat} {w:World} : ∀ (js:List Nat),(∀ j ∈ js,zkb B Gs V L H w j)→zim B Gs V L H w js
 | [],_=>trivial
 | j :: js,h=>⟨h j List.mem_cons_self,zko js fun k hk=>h k (List.mem_cons_of_mem _ hk)⟩
def free (P:Program) (ops:Array Oper) (Q:Exit→Act→World→Prop) (w0:World) (Gs:Nat→Sp) (live:List Nat) (ls:List Line):Nat→((Nat→Value)→Act)→List Oper→List Line→Prop
 | _,A,[],[]=>∀ V L H w,Below w0.heap.size w0 w→zim w0.heap.size Gs V L H w live→(∀ i j,i ∈ live→j ∈ live→i≠j→H i≤L j∨H j≤L i)→(∀ s i,s < ls.length→ovOf ls s=some i→L s=L i∧H s=H i ∧ ∃ wo,Gs i V (L i) (H i) wo)→wpList P ops Q [] (A V) w
 | _,_,[],_ :: _=>False
 | _,_,_ :: _,[]=>False
 | k,A,o :: l,(ds,none) :: dss=>(∀ V L H w,Below w0.heap.size w0 w→zim w0.heap.size Gs V L H w ds→wpList P ops (zbv Q (A V) o.dst (fun v w'=>Below w.heap.size w w'∧Gs k (upd V k v) w.heap.size w'.heap.size w')) [o] (A V) w) ∧
   free P ops Q w0 Gs live ls (k+1) (fun V=>(A V).put o.dst (V k)) l dss
 | k,A,o :: l,(ds,some t) :: dss=>(∀ V L H w,Below w0.heap.size w0 w→zim w0.heap.size Gs V L H w ds→wpList P ops (zbv Q (A V) o.dst (fun v w'=>Touches (L t) (H t) w w'∧Gs k (upd V k v) (L t) (H t) w')) [o] (A V) w) ∧
   free P ops Q w0 Gs live ls (k+1) (fun V=>(A V).put o.dst (V k)) l dss
theorem zpd {ops:Array Oper} {Q:Exit→Act→World→Prop} {w0:World} {Gs:Nat→Sp} {live:List Nat} {ls:List Line} {a0:Act} : ∀ (dss pd:List Line) (l pre:List Oper) (A:(Nat→Value)→Act),pd.length=pre.length→(∀ V,A V=zbk V 0 pre a0) →
  free P ops Q w0 Gs live ls pre.length A l dss →
  (∀ i o,l[i]? = some o → ∀ V L H w,Below w0.heap.size w0 w→zim w0.heap.size Gs V L H w (dss.getD i ([],none)).1 →
   wpList P ops (zbv Q (zbk V 0 (pre ++ l.take i) a0) o.dst (zrj (pd ++ dss) Gs V L H w (pre.length+i))) [o] (zbk V 0 (pre ++ l.take i) a0) w) ∧
  (∀ V L H w,Below w0.heap.size w0 w→zim w0.heap.size Gs V L H w live→(∀ i j,i ∈ live→j ∈ live→i≠j→H i≤L j∨H j≤L i)→(∀ s i,s < ls.length→ovOf ls s=some i→L s=L i∧H s=H i ∧ ∃ wo,Gs i V (L i) (H i) wo)→wpList P ops Q [] (zbk V 0 (pre ++ l) a0) w)
 | [],pd,[],pre,A,hp,hA,h=>by
  refine ⟨fun i o hi=>absurd hi (by simp),fun V L H w hb hh hd hx=>?_⟩
  unfold free at h
  have:=h V L H w hb hh hd hx
  rw [hA] at this
  simpa using this
 | [],_,_ :: _,pre,A,hp,hA,h=>by unfold free at h;exact h.elim
 | _ :: _,_,[],pre,A,hp,hA,h=>by unfold free at h;exact h.elim
 | (ds,ov) :: dss,pd,o :: l,pre,A,hp,hA,h=>by
  have hov:ovOf (pd ++ (ds,ov) :: dss) (pre.length+0)=ov:=by
   unfold ovOf
   rw [Nat.add_zero,← hp,List.getD_eq_getElem?_getD,List.getElem?_append_right (Nat.le_refl _)]
   simp
  have hh2:(∀ V L H w,Below w0.heap.size w0 w→zim w0.heap.size Gs V L H w ds→wpList P ops (zbv Q (A V) o.dst (zrj (pd ++ (ds,ov) :: dss) Gs V L H w (pre.length+0))) [o] (A V) w)∧free P ops Q w0 Gs live ls (pre.length+1) (fun V=>(A V).put o.dst (V pre.length)) l dss:=by
   have hsh : ∀ V L H w,zrj (pd ++ (ds,ov) :: dss) Gs V L H w (pre.length+0)=(fun v w'=>match ov with
     | none=>Below w.heap.size w w'∧Gs (pre.length+0) (upd V (pre.length+0) v) w.heap.size w'.heap.size w'
     | some t=>Touches (L t) (H t) w w'∧Gs (pre.length+0) (upd V (pre.length+0) v) (L t) (H t) w'):=fun V L H w=>by
    funext v w'
    unfold zrj
    rw [hov]
    cases ov<;>rfl
   cases ov with
   | none=>unfold free at h;exact ⟨fun V L H w hb hh=>by rw [hsh];exact h.1 V L H w hb hh,h.2⟩
   | some t=>unfold free at h;exact ⟨fun V L H w hb hh=>by rw [hsh];exact h.1 V L H w hb hh,h.2⟩
  obtain ⟨h1,h2⟩:=hh2
  have ih:=zpd (a0:=a0) dss (pd ++ [(ds,ov)]) l (pre ++ [o]) (fun V=>(A V).put o.dst (V pre.length)) (by simp [hp]) (fun V=>by rw [hA V,zh6,Nat.zero_add]) (by simpa using h2)
  refine ⟨fun i o' ho V L H w hb hh=>?_,fun V L H w hb hh hd hx=>?_⟩
  ·cases i with
   | zero =>
    obtain rfl:o=o':=by simpa using ho
    have:=h1 V L H w hb (by simpa using hh)
    rw [hA] at this
    simpa using this
   | succ i =>
    have:=ih.1 i o' (by simpa using ho) V L H w hb (by simpa using hh)
    simpa [Nat.add_assoc,Nat.add_comm 1 i] using this
  ·have:=ih.2 V L H w hb hh hd hx
   simpa using this
theorem zcn {id:Nat} {Q:Exit→Act→World→Prop} {a:Act} {w:World} {l:List Oper} (ls:List Line) (live:List Nat) (Gs:Nat→Sp) (hm:P.follows .mixedOrders=true)
  (hB:zxc l ls live=true) (hloc:zyb ls Gs) (hlast : ∀ i,i < l.length→zxx w.heap.size (Gs i))
  (h:free P l.toArray Q w Gs live ls 0 (fun _=>a) l ls):(Code.region id l.toArray true).wp P Q a w:=by
 have ok:=zxz hB
 obtain ⟨h1,h2⟩:=zpd (a0:=a) ls [] l [] (fun _=>a) rfl (fun _=>rfl) h
 simp only [List.nil_append,List.length_nil,Nat.zero_add] at h1 h2
 refine wp_region_any hm ?_
 have hcount:(List.range l.length).countP (fun i=>(Array.replicate l.toArray.size false).getD i true == false)=l.length:=by
  rw [List.countP_eq_length.2,List.length_range];intro i hi
  have:i < l.length:=List.mem_range.1 hi
  simp [this]
 have:=zhl (P:=P) (Q:=Q) (a0:=a) (w0:=w) (Gs:=Gs) ok hloc hlast (fun i o ho V L H w' hb hd=>h1 i o ho V L H w' hb (zko _ hd))
  (fun V L H w' hb hd hap hdead=>by simpa [wpList] using h2 V L H w' hb (zko _ hd) hap (fun s i hs=>hdead s i (ok.len ▸ hs)))
  _ (Array.replicate l.toArray.size false) (fun _=>undef) (fun _=>0) (fun _=>0) a { w with drawn:=w.drawn+1 }
  ⟨by simp,fun j oj _ hl=>(by rw [getD_replicate_false] at hl;cases hl),
   (zkn _ _ _ fun m _=>getD_replicate_false _ _).symm,⟨rfl,rfl,rfl,Nat.le_refl _,fun _ _=>rfl⟩,fun i hl=>absurd hl.2.1 (by simp only [getD_replicate_false];decide),fun s i _ _ hl=>(by rw [getD_replicate_false] at hl;cases hl),fun i j _ hl=>absurd hl.2.1 (by simp only [getD_replicate_false];decide)⟩ hcount
 simpa using this
end
inductive Soft (lo hi:Nat) (w:World):Ct→Value→Prop
 | lit (v:Value):Soft lo hi w (.lit v) v
 | nil (n:Nat) (f:Nat→Nat→Ct) (a:Option Addr) (cap:Nat):Soft lo hi w (.sl n 0 f) (.slice a 0 cap)
 | row (n len:Nat) (f:Nat→Nat→Ct) (b off cap:Nat) (u:Nat→Nat→Value) (hlo:lo≤b) (hhi:b < hi)
   (hc : ∀ k,k < len → ∀ j,j < n→w.cell? ⟨b,off+k * n+j,none⟩=some (u k j)) (hz : ∀ o,w.frozen? ⟨b,o,none⟩=false)
   (hl : ∀ k,k < len → ∀ j,j < n→Soft lo hi w (f k j) (u k j)):Soft lo hi w (.sl n len f) (.slice (some ⟨b,off,none⟩) len cap)
theorem Soft.lies {lo hi:Nat} {w:World} {c:Ct} {v:Value} (h:Soft lo hi w c v):Lies lo hi w c v:=by
 induction h with
 | lit v=>exact .lit v
 | nil n f a cap=>exact .nil n f a cap
 | row n len f b off cap u hlo hhi hc hz hl ih=>exact .row n len f b off cap u hlo hhi hc ih
theorem Soft.frame {lo hi:Nat} {w w':World} (hw : ∀ b o,lo≤b→b < hi→w'.cell? ⟨b,o,none⟩=w.cell? ⟨b,o,none⟩∧w'.frozen? ⟨b,o,none⟩=w.frozen? ⟨b,o,none⟩) {c:Ct} {v:Value} (h:Soft lo hi w c v):Soft lo hi w' c v:=by
 induction h with
 | lit v=>exact .lit v
 | nil n f a cap=>exact .nil n f a cap
 | row n len f b off cap u hlo hhi hc hz hl ih=>exact .row n len f b off cap u hlo hhi (fun k hk j hj=>(hw b _ hlo hhi).1.trans (hc k hk j hj)) (fun o=>(hw b o hlo hhi).2.trans (hz o)) ih
theorem Soft.mono {lo hi lo' hi':Nat} {w:World} (h1:lo'≤lo) (h2:hi≤hi') {c:Ct} {v:Value} (h:Soft lo hi w c v):Soft lo' hi' w c v:=by
 induction h with
 | lit v=>exact .lit v
 | nil n f a cap=>exact .nil n f a cap
 | row n len f b off cap u hlo hhi hc hz hl ih=>exact .row n len f b off cap u (by omega) (by omega) hc hz ih
theorem Soft.later {lo hi B:Nat} {w w':World} {c:Ct} {v:Value} (h:Soft lo hi w c v) (hb:Below B w w') (hB:hi≤B):Soft lo hi w' c v :=
 h.frame fun b o _ h2=>⟨hb.cell (p:=⟨b,o,none⟩) (by show b < B;omega),hb.frozen (p:=⟨b,o,none⟩) (by show b < B;omega)⟩
theorem zv {lo hi:Nat} {w:World} {u v:Value} (h:Soft lo hi w (.lit u) v):v=u:=by cases h;rfl
def Sf (lo hi:Nat) (w:World) (n len:Nat) (f:Nat→Nat→Ct) (a:Option Addr):Prop:=∀ cap,Soft lo hi w (.sl n len f) (.slice a len cap)
section
variable {lo hi lo' hi' B:Nat} {w w':World} {n len:Nat} {f g:Nat→Nat→Ct} {a:Option Addr}
theorem zeg {v:Value} (h:Soft lo hi w (.sl n len f) v) : ∃ a cap,v = .slice a len cap∧Sf lo hi w n len f a:=by
 cases h with
 | nil n f a cap=>exact ⟨a,cap,rfl,fun _=>.nil n f a _⟩
 | row n len f b off cap u hlo hhi hc hz hl=>exact ⟨_,cap,rfl,fun _=>.row n len f b off _ u hlo hhi hc hz hl⟩
theorem Sf.of {l cap:Nat} (h:Soft lo hi w (.sl n len f) (.slice a l cap)):Sf lo hi w n len f a:=by
 obtain ⟨a',cap',h1,h2⟩:=zeg h
 simp only [Value.slice.injEq] at h1
 rw [h1.1];exact h2
theorem Sf.sl (h:Sf lo hi w n len f a):Sl lo hi w n len f a:=fun cap=>(h cap).lies
theorem Sf.later (h:Sf lo hi w n len f a) (hb:Below B w w') (hB:hi≤B):Sf lo hi w' n len f a:=fun cap=>(h cap).later hb hB
theorem Sf.mono (h:Sf lo hi w n len f a) (h1:lo'≤lo) (h2:hi≤hi'):Sf lo' hi' w n len f a:=fun cap=>(h cap).mono h1 h2
theorem Sf.up (h:Sf lo hi w n len f a) (hb:Below w.heap.size w w') (hB:hi≤w.heap.size):Sf lo w'.heap.size w' n len f a:=(h.later hb hB).mono (Nat.le_refl _) (Nat.le_trans hB hb.size)
theorem Sf.frame (h:Sf lo hi w n len f a) (hw : ∀ b o,lo≤b→b < hi→w'.cell? ⟨b,o,none⟩=w.cell? ⟨b,o,none⟩∧w'.frozen? ⟨b,o,none⟩=w.frozen? ⟨b,o,none⟩):Sf lo hi w' n len f a:=fun cap=>(h cap).frame hw
theorem Sf.at (h:Sf lo hi w n len f a) (k:Nat) (hk:k < len) :
  ∃ b off:Nat,a=some ⟨b,off,none⟩∧lo≤b∧b < hi∧(∀ o,w.frozen? ⟨b,o,none⟩=false) ∧ ∀ j,j < n → ∃ u,w.cell? ⟨b,off+k * n+j,none⟩=some u∧Soft lo hi w (f k j) u:=by
 have h':=h 0
 cases h' with
 | nil=>exact absurd hk (Nat.not_lt_zero _)
 | row n len f b off cap u hlo hhi hc hz hl=>exact ⟨b,off,rfl,hlo,hhi,hz,fun j hj=>⟨u k j,hc k hk j hj,hl k hk j hj⟩⟩
theorem Sf.row (h:Sf lo hi w n len f a) (h0:0 < len) :
  ∃ b off:Nat,a=some ⟨b,off,none⟩∧lo≤b∧b < hi∧(∀ o,w.frozen? ⟨b,o,none⟩=false) ∧ ∀ k,k < len → ∀ j,j < n → ∃ u,w.cell? ⟨b,off+k * n+j,none⟩=some u∧Soft lo hi w (f k j) u:=by
 have h':=h 0
 cases h' with
 | nil=>exact absurd h0 (Nat.not_lt_zero _)
 | row n len f b off cap u hlo hhi hc hz hl=>exact ⟨b,off,rfl,hlo,hhi,hz,fun k hk j hj=>⟨u k j,hc k hk j hj,hl k hk j hj⟩⟩
theorem Sf.nil:Sf lo hi w n 0 f a:=fun _=>.nil n f a _
end
theorem Own.soft {w:World} {F:Nat→Prop} {c:Ct} {v:Value} (h:Own w F c v) {lo hi:Nat} (hF : ∀ x,F x→lo≤x∧x < hi):Soft lo hi w c v:=by
 induction h with
 | lit F v=>exact .lit v
 | nil F n f a cap=>exact .nil n f a cap
 | row F n len f b off cap u G hFb hb hc hz hl hG hd ih =>
  exact .row n len f b off cap u (hF b hFb).1 (hF b hFb).2 hc hz fun k hk j hj=>ih k hk j hj fun x hx=>hF x (hG k hk j hj x hx).1
theorem OwnR.soft {w:World} {F:Nat→Prop} {n:Nat} {c:Nat→Ct} {u:Nat→Value} {lo hi:Nat} (h:OwnR w F n c u) (hF : ∀ x,F x→lo≤x∧x < hi) (j:Nat) (hj:j < n):Soft lo hi w (c j) (u j):=by
 obtain ⟨G,h1,h2,h3⟩:=h
 exact (h1 j hj).soft fun x hx=>hF x (h2 j hj x hx)
end Go.Proofs.YtmbaajangkmjdaaGreat
