/-
  slices.Clone over a list of Attribute.
-/
import Derived.Test.YtmbaajangkmjdaaGreatZz5
import Derived.Lib.SlicesS
namespace Go.Proofs.YtmbaajangkmjdaaGreat
open Go.ChangeShapes Go.WideShapes Go.ChangeAt Go.RowKit Go.Deep
def zdv (x:DAttribute):List Value:=[.string x.fa,.int .i64 x.fk,.int .i64 x.fv,.bool x.fx]
theorem zfv (x:DAttribute):(zdv x).length=4:=rfl
theorem zg3 (x:DAttribute) (c:Nat) (h:c < 4):x.ct c = .lit ((zdv x).getD c .nilFunc):=match c,h with|0,_=>rfl|1,_=>rfl|2,_=>rfl|3,_=>rfl
theorem zl5 (x:DAttribute) : ∀ u ∈ zdv x,u.oneCell'=true:=by
 intro u hu
 simp only [zdv,List.mem_cons,List.not_mem_nil,or_false] at hu
 rcases hu with rfl|rfl|rfl|rfl<;>rfl
end Go.Proofs.YtmbaajangkmjdaaGreat
