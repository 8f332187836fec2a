/-
  The order of occurrences: by position, then by name.
  Putting one by one: the place, and the lists that come of it.
  l4Before of the model.
  cmp.Compare at int and string, cmp.Or at int: what compareOccurrences asks.
-/
import Derived.Test.YtmbaajangkmjdaaGreatZUniq
import Derived.Test.YtmbaajangkmjdaaGreatZz3
import Derived.Sort.Walk0
set_option maxHeartbeats 6400000
set_option maxRecDepth 100000
namespace Go.Proofs.YtmbaajangkmjdaaGreat
open Go.ChangeShapes Go.WideShapes Go.ChangeAt Go.RowKit
def ltN (a b:ByteArray):Bool:=Op.bytesLess a.toList b.toList
def ltO (a b:DOccurrence):Bool:=decide (a.fb < b.fb) || (decide (a.fb=b.fb) && ltN a.fa b.fa)
theorem zih {a b:ByteArray}:ltN a b=true↔a.data.toList < b.data.toList:=by
 unfold ltN
 rw [Go.Proofs.bytesLess_eq,decide_eq_true_eq,Lib.toList_data,Lib.toList_data]
theorem zrs:Strict ltN where
 irrefl a:=by
  cases h:ltN a a
  ·rfl
  ·exact absurd (zih.1 h) (List.lt_irrefl _)
 trans a b c h1 h2:=zih.2 (List.lt_trans (zih.1 h1) (zih.1 h2))
 total a b h1 h2:=by
  have n1 : ¬ a.data.toList < b.data.toList:=fun h=>by rw [zih.2 h] at h1;cases h1
  have n2 : ¬ b.data.toList < a.data.toList:=fun h=>by rw [zih.2 h] at h2;cases h2
  have h:a.data.toList=b.data.toList:=List.le_antisymm (List.not_lt.1 n2) (List.not_lt.1 n1)
  cases a;cases b
  congr 1
  exact Array.toList_inj.1 h
theorem zqu {a b:DOccurrence}:ltO a b=true↔a.fb < b.fb∨a.fb=b.fb∧ltN a.fa b.fa=true:=by
 unfold ltO
 rw [Bool.or_eq_true,Bool.and_eq_true,decide_eq_true_eq,decide_eq_true_eq]
theorem ze0:Strict ltO where
 irrefl a:=by
  unfold ltO
  rw [zrs.irrefl]
  simp
 trans a b c h1 h2:=by
  rw [zqu] at *
  rcases h1 with h1|⟨h1,h1'⟩
  ·rcases h2 with h2|⟨h2,_⟩
   ·exact .inl (by omega)
   ·exact .inl (by omega)
  ·rcases h2 with h2|⟨h2,h2'⟩
   ·exact .inl (by omega)
   ·exact .inr ⟨by omega,zrs.trans _ _ _ h1' h2'⟩
 total a b h1 h2:=by
  have n1 : ¬ (a.fb < b.fb∨a.fb=b.fb∧ltN a.fa b.fa=true):=fun h=>by rw [zqu.2 h] at h1;cases h1
  have n2 : ¬ (b.fb < a.fb∨b.fb=a.fb∧ltN b.fa a.fa=true):=fun h=>by rw [zqu.2 h] at h2;cases h2
  have hp:a.fb=b.fb:=by omega
  have hn:a.fa=b.fa:=zrs.total _ _ (by
   cases e:ltN a.fa b.fa
   ·rfl
   ·exact absurd (.inr ⟨hp,e⟩) n1) (by
   cases e:ltN b.fa a.fa
   ·rfl
   ·exact absurd (.inr ⟨hp.symm,e⟩) n2)
  cases a;cases b
  dsimp only at hp hn
  rw [hp,hn]
end Go.Proofs.YtmbaajangkmjdaaGreat
namespace Go.Proofs.YtmbaajangkmjdaaGreat
theorem zu8 {α : Type} [Inhabited α] {lt : α → α → Bool} (h:Strict lt) (x : α) : ∀ (l:List α) (k:Nat),k≤l.length→(∀ j,j < k→lt (l.getD j default) x=true)→(k < l.length→lt (l.getD k default) x=false) →
  (k < l.length∧l.getD k default=x∧putL lt x l=l)∨((k < l.length→l.getD k default≠x)∧putL lt x l=l.take k ++ [x] ++ l.drop k)
 | [],k,hk,_,_=>by
  have:k=0:=by simpa using hk
  subst this
  exact .inr ⟨fun h=>absurd h (by simp),by simp [putL]⟩
 | y :: ys,0,_,_,h1=>by
  have h1':lt y x=false:=h1 (by simp)
  cases h2:lt x y
  ·have e:y=x:=h.total y x h1' h2
   subst e
   exact .inl ⟨by simp,rfl,by unfold putL;rw [if_neg (by rw [h1'];decide),if_neg (by rw [h2];decide)]⟩
  ·refine .inr ⟨fun _ e=>?_,?_⟩
   ·have e':y=x:=e
    subst e'
    rw [h.irrefl] at h2
    cases h2
   ·unfold putL
    rw [if_neg (by rw [h1'];decide),if_pos h2]
    rfl
 | y :: ys,k+1,hk,h0,h1=>by
  have hy:lt y x=true:=h0 0 (by omega)
  have ih:=zu8 h x ys k (by simpa using hk) (fun j hj=>by have:=h0 (j+1) (by omega);simpa using this) (fun hk'=>by have:=h1 (by simpa using hk');simpa using this)
  have e:putL lt x (y :: ys)=y :: putL lt x ys:=by
   show (if lt y x=true then _ else _)=_
   rw [if_pos hy]
  rw [e]
  rcases ih with ⟨i1,i2,i3⟩|⟨i1,i2⟩
  ·exact .inl ⟨by simpa using i1,by simpa using i2,by rw [i3]⟩
  ·exact .inr ⟨fun hk'=>by have:=i1 (by simpa using hk');simpa using this,by rw [i2];rfl⟩
theorem zse {α : Type} {lt : α → α → Bool} (x : α) : ∀ l:List α,l.length≤(putL lt x l).length∧(putL lt x l).length≤l.length+1
 | []=>by simp [putL]
 | y :: ys=>by
  have ih:=zse (lt:=lt) x ys
  unfold putL
  split
  ·simp only [List.length_cons];omega
  ·split
   ·simp only [List.length_cons];omega
   ·simp only [List.length_cons];omega
theorem zfa {α : Type} {lt : α → α → Bool} : ∀ (l acc:List α),(zaq lt acc l).length≤acc.length+l.length
 | [],acc=>by simp [zaq]
 | x :: l,acc=>by
  have h1:=zfa (lt:=lt) l (putL lt x acc);have h2:=(zse (lt:=lt) x acc).2
  show (zaq lt (putL lt x acc) l).length≤_
  rw [List.length_cons]
  omega
theorem zhk {α : Type} {lt : α → α → Bool} (acc l m:List α):zaq lt acc (l ++ m)=zaq lt (zaq lt acc l) m:=List.foldl_append ..
end Go.Proofs.YtmbaajangkmjdaaGreat
namespace Go.Proofs.YtmbaajangkmjdaaGreat
open Go.ChangeShapes Go.WideShapes Go.ChangeAt Go.RowKit Go.Deep
theorem zo7 (x y:DOccurrence) (w:World) :
  Calls Tryz.prog 189 #[.agg #[.int .i64 x.fb,.string x.fa],.agg #[.int .i64 y.fb,.string y.fa]] w fun e w'=>e = .returned (.bool (ltO x y))∧Below w.heap.size w w':=by
 have HB:=yq (((Below.refl w.heap.size w).alloc (Nat.le_refl _) (.cells #[.int .i64 x.fb,.string x.fa] 87)).alloc (by simp) (.cells #[.int .i64 y.fb,.string y.fa] 87))
 have hv:ltO x y=(decide (x.fb < y.fb) || (decide (x.fb=y.fb) && Op.bytesLess x.fa.toList y.fa.toList)):=rfl;rw [hv];clear hv
 by_cases h1:x.fb < y.fb
 ·have hd:decide (x.fb < y.fb)=true:=decide_eq_true h1
  rw [hd]
  go_enter Tryz.func189,Tryz.ntmps189
  go_wp2;go_ret
  exact ⟨by simp,HB.out⟩
 ·by_cases h2:x.fb=y.fb
  ·rw [h2]
   rw [h2] at HB
   have hd:decide (y.fb < y.fb)=false:=by simp
   rw [hd,decide_eq_true (rfl:y.fb=y.fb)];clear h1 h2;generalize hb:Op.bytesLess x.fa.toList y.fa.toList=b
   go_enter Tryz.func189,Tryz.ntmps189
   go_wp2;go_ret
   exact ⟨by simp,HB.out⟩
  ·have hd:decide (x.fb < y.fb)=false:=decide_eq_false h1
   have he:(x.fb == y.fb)=false:=beq_eq_false_iff_ne.2 h2;rw [hd,decide_eq_false h2]
   go_enter Tryz.func189,Tryz.ntmps189
   go_wp2;go_ret
   exact ⟨by simp,HB.out⟩
def cmpI (a b:Int):Int:=if a < b then -1 else if b < a then 1 else 0
def cmpN (a b:ByteArray):Int:=if ltN a b=true then -1 else if ltN b a=true then 1 else 0
def cmpO (a b:DOccurrence):Int:=if cmpI a.fb b.fb≠0 then cmpI a.fb b.fb else cmpN a.fa b.fa
theorem zdp (a b:DOccurrence):decide (cmpO a b < 0)=ltO a b:=by
 unfold cmpO cmpI ltO
 by_cases h1:a.fb < b.fb
 ·simp [h1]
 ·by_cases h2:b.fb < a.fb
  ·have h3 : ¬ a.fb=b.fb:=by omega
   simp [h1,h2,h3]
  ·have h3:a.fb=b.fb:=by omega
   unfold cmpN
   cases h4:ltN a.fa b.fa
   ·cases h5:ltN b.fa a.fa<;>simp [h3]
   ·simp [h3]
theorem ztt (a:Int) (w:World):Calls Tryz.prog 168 #[.int .i64 a] w fun e w'=>e = .returned (.bool false)∧w=w':=by
 go_enter Tryz.func168,Tryz.ntmps168
 go_wp2;go_ret
 exact ⟨by simp,rfl⟩
theorem zpg (a:ByteArray) (w:World):Calls Tryz.prog 169 #[.string a] w fun e w'=>e = .returned (.bool false)∧w=w':=by
 go_enter Tryz.func169,Tryz.ntmps169
 go_wp2;go_ret
 exact ⟨by simp,rfl⟩
theorem zqz (a b:Int) (w:World):Calls Tryz.prog 128 #[.int .i64 a,.int .i64 b] w fun e w'=>e = .returned (.int .i64 (cmpI a b))∧w=w':=by
 have H:=yq (fun (x:Int) (W:World)=>ztt x W)
 unfold cmpI
 rcases (by omega:a < b∨b < a∨a=b) with h|h|h
 ·rw [if_pos h]
  go_enter Tryz.func128,Tryz.ntmps128
  (go_wp2_with fail);refine (H.out _ _).mono ?_;rintro e w1 ⟨rfl,rfl⟩;(go_wp2_with fail);refine (H.out _ _).mono ?_;rintro e w2 ⟨rfl,rfl⟩;go_wp2;go_ret;exact ⟨rfl,rfl⟩
 ·have hn : ¬ a < b:=by omega
  rw [if_neg hn,if_pos h]
  go_enter Tryz.func128,Tryz.ntmps128
  (go_wp2_with fail);refine (H.out _ _).mono ?_;rintro e w1 ⟨rfl,rfl⟩;(go_wp2_with fail);refine (H.out _ _).mono ?_;rintro e w2 ⟨rfl,rfl⟩;go_wp2;go_ret;exact ⟨rfl,rfl⟩
 ·subst h
  rw [if_neg (Int.lt_irrefl _),if_neg (Int.lt_irrefl _)];have hn : ¬ a < a:=Int.lt_irrefl _
  go_enter Tryz.func128,Tryz.ntmps128
  (go_wp2_with fail);refine (H.out _ _).mono ?_;rintro e w1 ⟨rfl,rfl⟩;(go_wp2_with fail);refine (H.out _ _).mono ?_;rintro e w2 ⟨rfl,rfl⟩;go_wp2;go_ret;exact ⟨rfl,rfl⟩
theorem zmd (a b:ByteArray) (w:World):Calls Tryz.prog 129 #[.string a,.string b] w fun e w'=>e = .returned (.int .i64 (cmpN a b))∧w=w':=by
 have H:=yq (fun (x:ByteArray) (W:World)=>zpg x W)
 unfold cmpN
 have h2:=@zrs.total a b;have h3:=@zrs.irrefl
 unfold ltN at *
 cases h:Op.bytesLess a.toList b.toList
 ·cases he:a.toList == b.toList
  ·have h4:Op.bytesLess b.toList a.toList=true:=by
    cases h5:Op.bytesLess b.toList a.toList
    ·rw [h2 h h5] at he
     simp at he
    ·rfl
   rw [if_neg (by decide),if_pos h4]
   clear h2 h3 h4
   go_enter Tryz.func129,Tryz.ntmps129
   (go_wp2_with fail);refine (H.out _ _).mono ?_;rintro e w1 ⟨rfl,rfl⟩;(go_wp2_with fail);refine (H.out _ _).mono ?_;rintro e w2 ⟨rfl,rfl⟩;go_wp2;go_ret;exact ⟨rfl,rfl⟩
  ·have h4:Op.bytesLess b.toList a.toList=false:=by
    rw [← beq_iff_eq.1 he];exact h3 a
   rw [if_neg (by decide),if_neg (by rw [h4];decide)]
   clear h2 h3 h4
   go_enter Tryz.func129,Tryz.ntmps129
   (go_wp2_with fail);refine (H.out _ _).mono ?_;rintro e w1 ⟨rfl,rfl⟩;(go_wp2_with fail);refine (H.out _ _).mono ?_;rintro e w2 ⟨rfl,rfl⟩;go_wp2;go_ret;exact ⟨rfl,rfl⟩
 ·rw [if_pos rfl]
  clear h2 h3
  go_enter Tryz.func129,Tryz.ntmps129
  (go_wp2_with fail);refine (H.out _ _).mono ?_;rintro e w1 ⟨rfl,rfl⟩;(go_wp2_with fail);refine (H.out _ _).mono ?_;rintro e w2 ⟨rfl,rfl⟩;go_wp2;go_ret;exact ⟨rfl,rfl⟩
theorem zx9 (x y:Int) (b:Nat) (w:World) (h0:w.cell? ⟨b,0,none⟩=some (.int .i64 x)) (h1:w.cell? ⟨b,1,none⟩=some (.int .i64 y)) :
  Calls Tryz.prog 127 #[.slice (some ⟨b,0,none⟩) 2 2] w fun e w'=>e = .returned (.int .i64 (if x≠0 then x else y))∧w=w':=by
 by_cases hx:x=0
 ·subst hx
  rw [if_neg (by simp)]
  by_cases hy:y=0
  ·subst hy
   go_enter Tryz.func127,Tryz.ntmps127
   go_wp2
   go_loopw [8] (fun i wr=>wr=w∧(i = .int .i64 0∨i = .int .i64 1∨i = .int .i64 2)) (fun i _=>2 - (intOf i).toNat)
   case atStart=>exact ⟨rfl,.inl rfl⟩
   case round =>
    obtain ⟨rfl,rfl|rfl|rfl⟩:=hrel
    ·go_wp2
     exact ⟨⟨by trivial,.inr (.inl rfl)⟩,by decide⟩
    ·go_wp2
     exact ⟨⟨by trivial,.inr (.inr rfl)⟩,by decide⟩
    ·go_wp2
     go_ret;exact ⟨rfl,rfl⟩
  ·have hd:(y != 0)=true:=bne_iff_ne.2 hy
   go_enter Tryz.func127,Tryz.ntmps127
   go_wp2
   go_loopw [8] (fun i wr=>wr=w∧(i = .int .i64 0∨i = .int .i64 1)) (fun i _=>2 - (intOf i).toNat)
   case atStart=>exact ⟨rfl,.inl rfl⟩
   case round =>
    obtain ⟨rfl,rfl|rfl⟩:=hrel
    ·go_wp2
     exact ⟨⟨by trivial,.inr rfl⟩,by decide⟩
    ·go_wp2
     go_ret;exact ⟨rfl,rfl⟩
 ·have hd:(x != 0)=true:=bne_iff_ne.2 hx
  rw [if_pos hx]
  go_enter Tryz.func127,Tryz.ntmps127
  go_wp2
  go_loopw [8] (fun i wr=>wr=w∧i = .int .i64 0) (fun i _=>2 - (intOf i).toNat)
  case atStart=>exact ⟨rfl,rfl⟩
  case round =>
   obtain ⟨rfl,rfl⟩:=hrel;go_wp2;go_ret;exact ⟨rfl,rfl⟩
end Go.Proofs.YtmbaajangkmjdaaGreat
