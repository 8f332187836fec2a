/-
  Expressions of a rule that use what they may not.
-/
import Derived.Test.YtmbaajangkmjdaaGreatZShapeT8
import Derived.Test.YtmbaajangkmjdaaGreatZUsesO
import Derived.Test.YtmbaajangkmjdaaGreatZz11
namespace Go.Proofs.YtmbaajangkmjdaaGreat
open Go.ChangeShapes Go.WideShapes Go.ChangeAt Go.RowKit Go.Deep
def zrc (g:DGrammar) (x:DRule) (e:DExpr) (k:Nat):Bool:=!zd3 g x ((zac e).getD k default)
def zev (g:DGrammar) (x:DRule) (e:DExpr):Bool:=anyP (zrc g x e) (zac e).length
def zmu (g:DGrammar) (x:DRule) (k:Nat):Bool:=zev g x ((zao x).getD k default)
def zdc (g:DGrammar) (x:DRule):Bool:=anyP (zmu g x) (zao x).length
def okO (y:DOccurrence):Prop:=y.ok∧y.sz≤1048576
theorem zwx (e:DExpr):e.ok→e.sz≤1048576 → ∀ y ∈ occE e,okO y:=by
 refine DExpr.ind (P:=fun e=>e.ok→e.sz≤1048576 → ∀ y ∈ occE e,okO y) (fun e ih hok hsz y hy=>?_) e
 have hok':=(DExpr.ok_iff e).1 hok;rw [DExpr.sz_eq] at hsz;rw [zq1] at hy
 rcases List.mem_append.1 hy with h|h
 ·unfold zar at h
  split at h
  ·obtain rfl:=List.mem_singleton.1 h
   exact ⟨⟨hok'.2.2.1,hok'.2.2.2.2.2.1⟩,by show e.fa.size≤_;omega⟩
  ·cases h
 ·obtain ⟨a,ha,hy⟩:=List.mem_flatMap.1 h
  obtain ⟨k,hk,rfl⟩:=List.getElem_of_mem ha;have h2:=zab (f:=DExpr.sz) e.fc k hk;rw [List.getD_eq_getElem?_getD,List.getElem?_eq_getElem hk,Option.getD_some] at h2
  exact ih _ ha (hok'.2.2.2.2.2.2.2 _ ha) (by omega) y hy
theorem zve {e:DExpr} (h1:e.ok) (h2:e.sz≤1048576) {k:Nat} (hk:k < (zac e).length):okO ((zac e).getD k default):=by
 have hm:(zac e).getD k default ∈ zac e:=by rw [List.getD_eq_getElem?_getD,List.getElem?_eq_getElem hk];exact List.getElem_mem hk
 unfold zac at hm
 rcases (zhv ze0).1 hm with h|h
 ·cases h
 ·exact zwx e h1 h2 _ h
theorem zm4 {x:DRule} (h:x.ok) : ∀ e ∈ zao x,e.ok:=by
 intro e he
 unfold zao zcc at he
 rw [List.take_length] at he
 rcases List.mem_append.1 he with h1|h1
 ·obtain ⟨q,hq,rfl⟩:=List.mem_map.1 h1
  exact (h.2.2.2.2.1.2 q hq).2
 ·obtain ⟨c,hc,h1⟩:=List.mem_flatMap.1 h1
  have h2:=h.2.2.2.2.2.2 c hc
  simp only [List.mem_cons,List.not_mem_nil,or_false] at h1
  rcases h1 with h1|h1
  ·rw [h1];exact h2.2.2.1
  ·rw [h1];exact h2.2.2.2
end Go.Proofs.YtmbaajangkmjdaaGreat
