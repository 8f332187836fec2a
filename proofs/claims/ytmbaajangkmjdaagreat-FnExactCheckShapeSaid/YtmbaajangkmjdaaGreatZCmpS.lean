/-
  compareOccurrences: what it answers, and what becomes of the world: two boxes and one list more, one draw.
-/
import Derived.Test.YtmbaajangkmjdaaGreatZz12
import Derived.StillTailTactics
import Derived.Sort.Grow
set_option maxHeartbeats 6400000
set_option maxRecDepth 100000
namespace Go.Proofs.YtmbaajangkmjdaaGreat
open Go.ChangeShapes Go.WideShapes Go.ChangeAt Go.RowKit Go.Deep
theorem zyg {α : Type} (l:Array α) (a b c : α):((l.push a).push b).push c=l ++ #[a,b,c]:=by
 apply Array.ext'
 simp
theorem zyf (w:World) (a b c:Obj):(((w.alloc a).alloc b).drew.alloc c)=Sort.grow (w.drewN 1) #[a,b,c]:=by
 show ({ w with heap:=((w.heap.push a).push b).push c,drawn:=w.drawn+1 }:World)={ w with heap:=w.heap ++ #[a,b,c],drawn:=w.drawn+1 }
 rw [zyg]
theorem zs7 (x y:DOccurrence) (w:World) :
  Calls Tryz.prog 90 #[.agg #[.int .i64 x.fb,.string x.fa],.agg #[.int .i64 y.fb,.string y.fa]] w fun e w'=>e = .returned (.int .i64 (cmpO x y)) ∧ ∃ q os,w'=Sort.grow (w.drewN q) os:=by
 obtain ⟨W1,hW1⟩ : ∃ W:World,W=(w.alloc (.cells #[.int .i64 x.fb,.string x.fa] 87)).alloc (.cells #[.int .i64 y.fb,.string y.fa] 87):=⟨_,rfl⟩
 have d0:W1.cell? ⟨w.heap.size,0,none⟩=some (.int .i64 x.fb):=by rw [hW1];go_simp
 have d1:W1.cell? ⟨w.heap.size,1,none⟩=some (.string x.fa):=by rw [hW1];go_simp
 have d2:W1.cell? ⟨w.heap.size+1,0,none⟩=some (.int .i64 y.fb):=by rw [hW1];go_simp
 have d3:W1.cell? ⟨w.heap.size+1,1,none⟩=some (.string y.fa):=by rw [hW1];go_simp
 have FIN:=yq (show ∀ c1 c2:Value,∃ q os,(W1.drew.alloc (.cells #[c1,c2] 3))=Sort.grow (w.drewN q) os from fun c1 c2=>⟨1,#[.cells #[.int .i64 x.fb,.string x.fa] 87,.cells #[.int .i64 y.fb,.string y.fa] 87,.cells #[c1,c2] 3],by rw [hW1];exact zyf w _ _ _⟩)
 have HV:=yq (show cmpO x y=if cmpI x.fb y.fb≠0 then cmpI x.fb y.fb else cmpN x.fa y.fa from rfl)
 have HI:=yq (fun W=>(zqz x.fb y.fb W).mono fun _ _ ⟨h1,h2⟩=>(⟨h1,h2.symm⟩:_∧_))
 have HN:=yq (fun W=>(zmd x.fa y.fa W).mono fun _ _ ⟨h1,h2⟩=>(⟨h1,h2.symm⟩:_∧_))
 have HW1:=yq hW1;clear hW1;generalize cmpO x y=v at *;generalize cmpI x.fb y.fb=v1 at *;generalize cmpN x.fa y.fa=v2 at *
 go_enter Tryz.func90,Tryz.ntmps90
 (go_wp2_with fail);rw [← HW1.out]
 go_still_tail 10,(by kernel_rfl)
 still_call (HI.out _)
 repeat still_step
 still_call (HN.out _)
 refine wpStill_nil ?_
 change wpList _ _ _ _ _ W1.drew
 have hcz:=fun c1 c2:Value=>(⟨by go_simp,by go_simp⟩:(W1.drew.alloc (.cells #[c1,c2] 3)).cell? ⟨W1.heap.size,0,none⟩=some c1∧(W1.drew.alloc (.cells #[c1,c2] 3)).cell? ⟨W1.heap.size,1,none⟩=some c2)
 have HCZ:=yq hcz;clear hcz d0 d1 d2 d3;(go_wp2_with fail);refine (zx9 v1 v2 W1.heap.size _ (HCZ.out _ _).1 (HCZ.out _ _).2).mono ?_;rintro e w9 ⟨rfl,rfl⟩;rw [← HV.out];go_wp2;go_ret;exact ⟨rfl,FIN.out _ _⟩
end Go.Proofs.YtmbaajangkmjdaaGreat
