/-
  Whether something holds of an index below a bound.
-/
import Derived.Test.YtmbaajangkmjdaaGreatZKit
import Derived.WalkSpells
namespace Go.Proofs.YtmbaajangkmjdaaGreat
open Go.ChangeShapes Go.WideShapes Go.ChangeAt Go.RowKit
def zbo (p:Nat→Bool) (k:Nat):Prop:=∀ j,j < k→p j=false
def anyP (p:Nat→Bool) (n:Nat):Bool:=(List.range n).any p
theorem zau (p:Nat→Bool):zbo p 0:=fun _ h=>absurd h (Nat.not_lt_zero _)
theorem zap {p:Nat→Bool} {k:Nat} (h:zbo p k) (hk:p k=false):zbo p (k+1):=fun j hj=>by
 rcases Nat.lt_or_ge j k with h'|h'
 ·exact h j h'
 ·obtain rfl:j=k:=by omega
  exact hk
theorem zbm {p:Nat→Bool} {n k:Nat} (hk:k < n) (h:p k=true):anyP p n=true:=List.any_eq_true.2 ⟨k,List.mem_range.2 hk,h⟩
theorem zbp {p:Nat→Bool} {n:Nat} (h:zbo p n):anyP p n=false:=by
 unfold anyP
 rw [List.any_eq_false];intro j hj;rw [h j (List.mem_range.1 hj)]
 decide
section
variable {P:Program} (w:World) {ops:Array Oper} {rest:List Oper} {o:Oper} {a:Act} {Q:Exit→Act→World→Prop}
theorem zmk (t e:TypeId) (i:TypeInfo) (ht:P.underlying t=some (.slice e)) (hi:P.info? e=some i) (b off len cap r:Nat) (hr:r≤cap) :
  (Instr.sliceAt t (.slice (some ⟨b,off,none⟩) len cap) none (some (.int .i64 (r:Int))) none).run P w = .ok (.slice (some ⟨b,off,none⟩) r cap) w:=by
 have h0:(0:Int)≤(r:Int):=by omega
 have h1:(r:Int)≤(cap:Int):=by omega
 simp [Instr.sliceAt,Instr.slice,Instr.sliceBounds,run_underlying ht,run_sliceBound,h0,h1,sizeOf,typeInfo,hi,Addr.add]
theorem ze4 (hgd:o.guard=none) (x y:Operand) (t e:TypeId)
  (ho:o.op = .slice t x none (some y) none) (i:TypeInfo) (ht:P.underlying t=some (.slice e)) (hi:P.info? e=some i) (b off len cap r:Nat) (hr:r≤cap)
  (hx:a.eval x = .slice (some ⟨b,off,none⟩) len cap) (hy:a.eval y = .int .i64 (r:Int)) (h:wpList P ops Q rest (a.put o.dst (.slice (some ⟨b,off,none⟩) r cap)) w):wpList P ops Q (o :: rest) a w:=by
 refine wpList_plain hgd fun K hK=>?_
 have hrun:=zmk (P:=P) w t e i ht hi b off len cap r hr
 unfold Oper.wp
 simp [execOp,ho,hx,hy,hrun,Result.andThen]
 exact hK _ _ h
end
end Go.Proofs.YtmbaajangkmjdaaGreat
