/-
  AttributeUses: what it computes: the attributes of the nodes, put one by one.
-/
import Derived.Test.YtmbaajangkmjdaaGreatZz12
import Derived.Test.YtmbaajangkmjdaaGreatZz14
import Derived.RangeFuncBound
import Derived.Shelf.RegionOpen
import Derived.OwnWalkIn
import Derived.LoopNIn
import Derived.LoopIn
namespace Go.Proofs.YtmbaajangkmjdaaGreat
def zar (nd:ENode):List DOccurrence:=if nd.fh=3 then [⟨nd.fb,nd.fa⟩] else []
theorem zr8 (e:DExpr) (d:Nat):zar (zf e d)=zar (zf e 0):=rfl
theorem zju (d:Nat) : ∀ l:List DExpr,(∀ a ∈ l,∀ d,(zu a d).flatMap zar=(zu a 0).flatMap zar)→(zca l d).flatMap zar=l.flatMap fun a=>(zu a 0).flatMap zar
 | [],_=>rfl
 | e :: es,h=>by
  show (zu e d ++ zca es d).flatMap zar=_
  rw [List.flatMap_append,h e (List.mem_cons_self ..),zju d es fun a ha=>h a (List.mem_cons_of_mem _ ha),List.flatMap_cons]
theorem zm9 : ∀ (e:DExpr) (d:Nat),(zu e d).flatMap zar=(zu e 0).flatMap zar:=by
 intro e
 refine DExpr.ind (P:=fun e=>∀ d,(zu e d).flatMap zar=(zu e 0).flatMap zar) (fun e ih d=>?_) e
 rw [za2,za2,List.flatMap_cons,List.flatMap_cons,zju _ _ ih,zju _ _ ih,zr8]
def occE (e:DExpr):List DOccurrence:=(zu e 0).flatMap zar
theorem zxe (e:DExpr) (d:Nat):(zu e d).flatMap zar=occE e:=zm9 e d
theorem zq1 (e:DExpr):occE e=zar (zf e 0) ++ e.fc.flatMap occE:=by
 unfold occE
 rw [za2,List.flatMap_cons,zju _ _ fun a _=>zm9 a]
def zac (e:DExpr):List DOccurrence:=zaq ltO [] (occE e)
end Go.Proofs.YtmbaajangkmjdaaGreat
