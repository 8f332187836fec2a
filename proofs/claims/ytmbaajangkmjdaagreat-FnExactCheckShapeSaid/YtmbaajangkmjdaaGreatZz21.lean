/-
  IsValidExpr in the model.
  IsValidExpr, in the model and in the program.
  IsValidRule: what it computes; allValid over names, equations, contributions and nodes.
-/
import Derived.Test.YtmbaajangkmjdaaGreatZz20
set_option maxHeartbeats 6400000
set_option maxRecDepth 100000
namespace Go.Proofs.YtmbaajangkmjdaaGreat
open Go.ChangeShapes Go.WideShapes Go.ChangeAt Go.RowKit Go.Deep
theorem zn0 {a6:Option Addr} {c6:Nat} (x:DExpr) (hk:x.fh=1) (bq:Bool) (hb:bq=true↔Bare (zf x 0)) (w:World) :
  Calls Tryz.prog 187 #[.agg #[.int .i64 x.fh,.int .i64 x.fN,.int .i64 x.fb,.int .i64 x.fk,.string x.fd,.string x.fa,.slice a6 x.fc.length c6]] w fun e w'=>e = .returned (.bool bq)∧Below w.heap.size w w':=by
 have hk2:(zf x 0).fh=1:=hk
 have HY:=yq (show x.fb=0→x.fd.toList=[]→x.fa.toList=[]→x.fc.length=0→bq=true from fun g2 g4 g5 g6=>hb.2 ⟨(by rw [hk2];exact g6),Or.inr (Or.inr (g2)),Or.inr (Or.inr (g5)),Or.inl hk2,Or.inl hk2,Or.inr (g4)⟩)
 have hbf : ¬ Bare (zf x 0)→bq=false:=fun h=>Bool.eq_false_iff.2 fun hq=>h (hb.1 hq)
 have N2:=yq (show ¬ x.fb=0→bq=false from fun g=>hbf fun hb=>by rcases hb.2.1 with h|h|h<;>first|exact g h|omega)
 have N4:=yq (show ¬ x.fd.toList=[]→bq=false from fun g=>hbf fun hb=>by rcases hb.2.2.2.2.2 with h|h<;>first|exact g h|omega)
 have N5:=yq (show ¬ x.fa.toList=[]→bq=false from fun g=>hbf fun hb=>by rcases hb.2.2.1 with h|h|h<;>first|exact g h|omega)
 have N6:=yq (show ¬ x.fc.length=0→bq=false from fun g=>hbf fun hb=>by have h:=hb.1;rw [hk2] at h;exact g h)
 rw [hk];clear hk hk2 hb hbf;generalize x.fN=a1 at *;generalize x.fb=a2 at *;generalize x.fk=a3 at *;generalize x.fd=a4 at *;generalize x.fa=a5 at *;generalize x.fc.length=a6n at *
 by_cases g6:a6n=0
 ·have e6:(((a6n:Nat):Int) == 0)=true:=beq_iff_eq.2 (by omega)
  have e7:(((a6n:Nat):Int) != 0)=false:=by rw [bne,e6];rfl
  go_enter Tryz.func187,Tryz.ntmps187
  go_wp2
  all_goals go_ret
  all_goals
   first
    | (exact ⟨zh (N2.out (by assumption)).symm,(yc:Below w.heap.size w _)⟩)
    | (exact ⟨zh (N4.out (by assumption)).symm,(yc:Below w.heap.size w _)⟩)
    | (exact ⟨zh (N5.out (by assumption)).symm,(yc:Below w.heap.size w _)⟩)
    | (exact ⟨zh (HY.out (by assumption) (by assumption) (by assumption) g6).symm,(yc:Below w.heap.size w _)⟩)
    | (exact ⟨zh (by by_cases g:a2=0;(rw [HY.out g (by assumption) (by assumption) g6];simp [g]);(rw [N2.out g];simp [g])),(yc:Below w.heap.size w _)⟩)
    | (exact ⟨zh (by by_cases g:a4.toList=[];(rw [HY.out (by assumption) g (by assumption) g6];simp [g]);(rw [N4.out g];simp [g])),(yc:Below w.heap.size w _)⟩)
    | (exact ⟨zh (by by_cases g:a5.toList=[];(rw [HY.out (by assumption) (by assumption) g g6];simp [g]);(rw [N5.out g];simp [g])),(yc:Below w.heap.size w _)⟩)
 ·have fin:=yq (N6.out g6)
  have e6:(((a6n:Nat):Int) == 0)=false:=beq_eq_false_iff_ne.2 (by omega)
  have e7:(((a6n:Nat):Int) != 0)=true:=by rw [bne,e6];rfl
  clear g6
  go_enter Tryz.func187,Tryz.ntmps187
  go_wp2;go_ret;exact ⟨zh fin.out.symm,(yc:Below w.heap.size w _)⟩
theorem zn1 {a6:Option Addr} {c6:Nat} (x:DExpr) (hk:x.fh=2) (bq:Bool) (hb:bq=true↔Bare (zf x 0)) (w:World) :
  Calls Tryz.prog 187 #[.agg #[.int .i64 x.fh,.int .i64 x.fN,.int .i64 x.fb,.int .i64 x.fk,.string x.fd,.string x.fa,.slice a6 x.fc.length c6]] w fun e w'=>e = .returned (.bool bq)∧Below w.heap.size w w':=by
 have hk2:(zf x 0).fh=2:=hk
 have HY:=yq (show x.fN=0→x.fb=0→x.fk=0→x.fd.toList=[]→x.fa.toList=[]→x.fc.length=0→bq=true from fun g1 g2 g3 g4 g5 g6=>hb.2 ⟨(by rw [hk2];exact g6),Or.inr (Or.inr (g2)),Or.inr (Or.inr (g5)),Or.inr (Or.inr (g1)),Or.inr (g3),Or.inr (g4)⟩)
 have hbf : ¬ Bare (zf x 0)→bq=false:=fun h=>Bool.eq_false_iff.2 fun hq=>h (hb.1 hq)
 have N1:=yq (show ¬ x.fN=0→bq=false from fun g=>hbf fun hb=>by rcases hb.2.2.2.1 with h|h|h<;>first|exact g h|omega)
 have N2:=yq (show ¬ x.fb=0→bq=false from fun g=>hbf fun hb=>by rcases hb.2.1 with h|h|h<;>first|exact g h|omega)
 have N3:=yq (show ¬ x.fk=0→bq=false from fun g=>hbf fun hb=>by rcases hb.2.2.2.2.1 with h|h<;>first|exact g h|omega)
 have N4:=yq (show ¬ x.fd.toList=[]→bq=false from fun g=>hbf fun hb=>by rcases hb.2.2.2.2.2 with h|h<;>first|exact g h|omega)
 have N5:=yq (show ¬ x.fa.toList=[]→bq=false from fun g=>hbf fun hb=>by rcases hb.2.2.1 with h|h|h<;>first|exact g h|omega)
 have N6:=yq (show ¬ x.fc.length=0→bq=false from fun g=>hbf fun hb=>by have h:=hb.1;rw [hk2] at h;exact g h)
 rw [hk];clear hk hk2 hb hbf;generalize x.fN=a1 at *;generalize x.fb=a2 at *;generalize x.fk=a3 at *;generalize x.fd=a4 at *;generalize x.fa=a5 at *;generalize x.fc.length=a6n at *
 by_cases g6:a6n=0
 ·have e6:(((a6n:Nat):Int) == 0)=true:=beq_iff_eq.2 (by omega)
  have e7:(((a6n:Nat):Int) != 0)=false:=by rw [bne,e6];rfl
  go_enter Tryz.func187,Tryz.ntmps187
  go_wp2
  all_goals go_ret
  all_goals
   first
    | (exact ⟨zh (N1.out (by assumption)).symm,(yc:Below w.heap.size w _)⟩)
    | (exact ⟨zh (N2.out (by assumption)).symm,(yc:Below w.heap.size w _)⟩)
    | (exact ⟨zh (N3.out (by assumption)).symm,(yc:Below w.heap.size w _)⟩)
    | (exact ⟨zh (N4.out (by assumption)).symm,(yc:Below w.heap.size w _)⟩)
    | (exact ⟨zh (N5.out (by assumption)).symm,(yc:Below w.heap.size w _)⟩)
    | (exact ⟨zh (HY.out (by assumption) (by assumption) (by assumption) (by assumption) (by assumption) g6).symm,(yc:Below w.heap.size w _)⟩)
    | (exact ⟨zh (by by_cases g:a1=0;(rw [HY.out g (by assumption) (by assumption) (by assumption) (by assumption) g6];simp [g]);(rw [N1.out g];simp [g])),(yc:Below w.heap.size w _)⟩)
    | (exact ⟨zh (by by_cases g:a2=0;(rw [HY.out (by assumption) g (by assumption) (by assumption) (by assumption) g6];simp [g]);(rw [N2.out g];simp [g])),(yc:Below w.heap.size w _)⟩)
    | (exact ⟨zh (by by_cases g:a3=0;(rw [HY.out (by assumption) (by assumption) g (by assumption) (by assumption) g6];simp [g]);(rw [N3.out g];simp [g])),(yc:Below w.heap.size w _)⟩)
    | (exact ⟨zh (by by_cases g:a4.toList=[];(rw [HY.out (by assumption) (by assumption) (by assumption) g (by assumption) g6];simp [g]);(rw [N4.out g];simp [g])),(yc:Below w.heap.size w _)⟩)
    | (exact ⟨zh (by by_cases g:a5.toList=[];(rw [HY.out (by assumption) (by assumption) (by assumption) (by assumption) g g6];simp [g]);(rw [N5.out g];simp [g])),(yc:Below w.heap.size w _)⟩)
 ·have fin:=yq (N6.out g6)
  have e6:(((a6n:Nat):Int) == 0)=false:=beq_eq_false_iff_ne.2 (by omega)
  have e7:(((a6n:Nat):Int) != 0)=true:=by rw [bne,e6];rfl
  clear g6
  go_enter Tryz.func187,Tryz.ntmps187
  go_wp2;go_ret;exact ⟨zh fin.out.symm,(yc:Below w.heap.size w _)⟩
theorem zog {a6:Option Addr} {c6:Nat} (x:DExpr) (hk:x.fh=3) (bq:Bool) (hb:bq=true↔Bare (zf x 0)) (w:World) :
  Calls Tryz.prog 187 #[.agg #[.int .i64 x.fh,.int .i64 x.fN,.int .i64 x.fb,.int .i64 x.fk,.string x.fd,.string x.fa,.slice a6 x.fc.length c6]] w fun e w'=>e = .returned (.bool bq)∧Below w.heap.size w w':=by
 have hk2:(zf x 0).fh=3:=hk
 have HY:=yq (show x.fN=0→x.fk=0→x.fd.toList=[]→x.fc.length=0→bq=true from fun g1 g3 g4 g6=>hb.2 ⟨(by rw [hk2];exact g6),Or.inl hk2,Or.inl hk2,Or.inr (Or.inr (g1)),Or.inr (g3),Or.inr (g4)⟩)
 have hbf : ¬ Bare (zf x 0)→bq=false:=fun h=>Bool.eq_false_iff.2 fun hq=>h (hb.1 hq)
 have N1:=yq (show ¬ x.fN=0→bq=false from fun g=>hbf fun hb=>by rcases hb.2.2.2.1 with h|h|h<;>first|exact g h|omega)
 have N3:=yq (show ¬ x.fk=0→bq=false from fun g=>hbf fun hb=>by rcases hb.2.2.2.2.1 with h|h<;>first|exact g h|omega)
 have N4:=yq (show ¬ x.fd.toList=[]→bq=false from fun g=>hbf fun hb=>by rcases hb.2.2.2.2.2 with h|h<;>first|exact g h|omega)
 have N6:=yq (show ¬ x.fc.length=0→bq=false from fun g=>hbf fun hb=>by have h:=hb.1;rw [hk2] at h;exact g h)
 rw [hk];clear hk hk2 hb hbf;generalize x.fN=a1 at *;generalize x.fb=a2 at *;generalize x.fk=a3 at *;generalize x.fd=a4 at *;generalize x.fa=a5 at *;generalize x.fc.length=a6n at *
 by_cases g6:a6n=0
 ·have e6:(((a6n:Nat):Int) == 0)=true:=beq_iff_eq.2 (by omega)
  have e7:(((a6n:Nat):Int) != 0)=false:=by rw [bne,e6];rfl
  go_enter Tryz.func187,Tryz.ntmps187
  go_wp2
  all_goals go_ret
  all_goals
   first
    | (exact ⟨zh (N1.out (by assumption)).symm,(yc:Below w.heap.size w _)⟩)
    | (exact ⟨zh (N3.out (by assumption)).symm,(yc:Below w.heap.size w _)⟩)
    | (exact ⟨zh (N4.out (by assumption)).symm,(yc:Below w.heap.size w _)⟩)
    | (exact ⟨zh (HY.out (by assumption) (by assumption) (by assumption) g6).symm,(yc:Below w.heap.size w _)⟩)
    | (exact ⟨zh (by by_cases g:a1=0;(rw [HY.out g (by assumption) (by assumption) g6];simp [g]);(rw [N1.out g];simp [g])),(yc:Below w.heap.size w _)⟩)
    | (exact ⟨zh (by by_cases g:a3=0;(rw [HY.out (by assumption) g (by assumption) g6];simp [g]);(rw [N3.out g];simp [g])),(yc:Below w.heap.size w _)⟩)
    | (exact ⟨zh (by by_cases g:a4.toList=[];(rw [HY.out (by assumption) (by assumption) g g6];simp [g]);(rw [N4.out g];simp [g])),(yc:Below w.heap.size w _)⟩)
 ·have fin:=yq (N6.out g6)
  have e6:(((a6n:Nat):Int) == 0)=false:=beq_eq_false_iff_ne.2 (by omega)
  have e7:(((a6n:Nat):Int) != 0)=true:=by rw [bne,e6];rfl
  clear g6
  go_enter Tryz.func187,Tryz.ntmps187
  go_wp2;go_ret;exact ⟨zh fin.out.symm,(yc:Below w.heap.size w _)⟩
theorem znt {a6:Option Addr} {c6:Nat} (x:DExpr) (hk:x.fh=4) (bq:Bool) (hb:bq=true↔Bare (zf x 0)) (w:World) :
  Calls Tryz.prog 187 #[.agg #[.int .i64 x.fh,.int .i64 x.fN,.int .i64 x.fb,.int .i64 x.fk,.string x.fd,.string x.fa,.slice a6 x.fc.length c6]] w fun e w'=>e = .returned (.bool bq)∧Below w.heap.size w w':=by
 have hk2:(zf x 0).fh=4:=hk
 have HY:=yq (show x.fb=0→x.fk=0→x.fd.toList=[]→x.fa.toList=[]→x.fc.length=2→bq=true from fun g2 g3 g4 g5 g6=>hb.2 ⟨(by rw [hk2];exact g6),Or.inr (Or.inr (g2)),Or.inr (Or.inr (g5)),Or.inr (Or.inl hk2),Or.inr (g3),Or.inr (g4)⟩)
 have hbf : ¬ Bare (zf x 0)→bq=false:=fun h=>Bool.eq_false_iff.2 fun hq=>h (hb.1 hq)
 have N2:=yq (show ¬ x.fb=0→bq=false from fun g=>hbf fun hb=>by rcases hb.2.1 with h|h|h<;>first|exact g h|omega)
 have N3:=yq (show ¬ x.fk=0→bq=false from fun g=>hbf fun hb=>by rcases hb.2.2.2.2.1 with h|h<;>first|exact g h|omega)
 have N4:=yq (show ¬ x.fd.toList=[]→bq=false from fun g=>hbf fun hb=>by rcases hb.2.2.2.2.2 with h|h<;>first|exact g h|omega)
 have N5:=yq (show ¬ x.fa.toList=[]→bq=false from fun g=>hbf fun hb=>by rcases hb.2.2.1 with h|h|h<;>first|exact g h|omega)
 have N6:=yq (show ¬ x.fc.length=2→bq=false from fun g=>hbf fun hb=>by have h:=hb.1;rw [hk2] at h;exact g h)
 rw [hk];clear hk hk2 hb hbf;generalize x.fN=a1 at *;generalize x.fb=a2 at *;generalize x.fk=a3 at *;generalize x.fd=a4 at *;generalize x.fa=a5 at *;generalize x.fc.length=a6n at *
 by_cases g6:a6n=2
 ·have e6:(((a6n:Nat):Int) == 2)=true:=beq_iff_eq.2 (by omega)
  have e7:(((a6n:Nat):Int) != 2)=false:=by rw [bne,e6];rfl
  go_enter Tryz.func187,Tryz.ntmps187
  go_wp2
  all_goals go_ret
  all_goals
   first
    | (exact ⟨zh (N2.out (by assumption)).symm,(yc:Below w.heap.size w _)⟩)
    | (exact ⟨zh (N3.out (by assumption)).symm,(yc:Below w.heap.size w _)⟩)
    | (exact ⟨zh (N4.out (by assumption)).symm,(yc:Below w.heap.size w _)⟩)
    | (exact ⟨zh (N5.out (by assumption)).symm,(yc:Below w.heap.size w _)⟩)
    | (exact ⟨zh (HY.out (by assumption) (by assumption) (by assumption) (by assumption) g6).symm,(yc:Below w.heap.size w _)⟩)
    | (exact ⟨zh (by by_cases g:a2=0;(rw [HY.out g (by assumption) (by assumption) (by assumption) g6];simp [g]);(rw [N2.out g];simp [g])),(yc:Below w.heap.size w _)⟩)
    | (exact ⟨zh (by by_cases g:a3=0;(rw [HY.out (by assumption) g (by assumption) (by assumption) g6];simp [g]);(rw [N3.out g];simp [g])),(yc:Below w.heap.size w _)⟩)
    | (exact ⟨zh (by by_cases g:a4.toList=[];(rw [HY.out (by assumption) (by assumption) g (by assumption) g6];simp [g]);(rw [N4.out g];simp [g])),(yc:Below w.heap.size w _)⟩)
    | (exact ⟨zh (by by_cases g:a5.toList=[];(rw [HY.out (by assumption) (by assumption) (by assumption) g g6];simp [g]);(rw [N5.out g];simp [g])),(yc:Below w.heap.size w _)⟩)
 ·have fin:=yq (N6.out g6)
  have e6:(((a6n:Nat):Int) == 2)=false:=beq_eq_false_iff_ne.2 (by omega)
  have e7:(((a6n:Nat):Int) != 2)=true:=by rw [bne,e6];rfl
  clear g6
  go_enter Tryz.func187,Tryz.ntmps187
  go_wp2;go_ret;exact ⟨zh fin.out.symm,(yc:Below w.heap.size w _)⟩
theorem zob {a6:Option Addr} {c6:Nat} (x:DExpr) (hk:x.fh=5) (bq:Bool) (hb:bq=true↔Bare (zf x 0)) (w:World) :
  Calls Tryz.prog 187 #[.agg #[.int .i64 x.fh,.int .i64 x.fN,.int .i64 x.fb,.int .i64 x.fk,.string x.fd,.string x.fa,.slice a6 x.fc.length c6]] w fun e w'=>e = .returned (.bool bq)∧Below w.heap.size w w':=by
 have hk2:(zf x 0).fh=5:=hk
 have HY:=yq (show x.fN=0→x.fb=0→x.fk=0→x.fd.toList=[]→x.fa.toList=[]→x.fc.length=3→bq=true from fun g1 g2 g3 g4 g5 g6=>hb.2 ⟨(by rw [hk2];exact g6),Or.inr (Or.inr (g2)),Or.inr (Or.inr (g5)),Or.inr (Or.inr (g1)),Or.inr (g3),Or.inr (g4)⟩)
 have hbf : ¬ Bare (zf x 0)→bq=false:=fun h=>Bool.eq_false_iff.2 fun hq=>h (hb.1 hq)
 have N1:=yq (show ¬ x.fN=0→bq=false from fun g=>hbf fun hb=>by rcases hb.2.2.2.1 with h|h|h<;>first|exact g h|omega)
 have N2:=yq (show ¬ x.fb=0→bq=false from fun g=>hbf fun hb=>by rcases hb.2.1 with h|h|h<;>first|exact g h|omega)
 have N3:=yq (show ¬ x.fk=0→bq=false from fun g=>hbf fun hb=>by rcases hb.2.2.2.2.1 with h|h<;>first|exact g h|omega)
 have N4:=yq (show ¬ x.fd.toList=[]→bq=false from fun g=>hbf fun hb=>by rcases hb.2.2.2.2.2 with h|h<;>first|exact g h|omega)
 have N5:=yq (show ¬ x.fa.toList=[]→bq=false from fun g=>hbf fun hb=>by rcases hb.2.2.1 with h|h|h<;>first|exact g h|omega)
 have N6:=yq (show ¬ x.fc.length=3→bq=false from fun g=>hbf fun hb=>by have h:=hb.1;rw [hk2] at h;exact g h)
 rw [hk];clear hk hk2 hb hbf;generalize x.fN=a1 at *;generalize x.fb=a2 at *;generalize x.fk=a3 at *;generalize x.fd=a4 at *;generalize x.fa=a5 at *;generalize x.fc.length=a6n at *
 by_cases g6:a6n=3
 ·have e6:(((a6n:Nat):Int) == 3)=true:=beq_iff_eq.2 (by omega)
  have e7:(((a6n:Nat):Int) != 3)=false:=by rw [bne,e6];rfl
  go_enter Tryz.func187,Tryz.ntmps187
  go_wp2
  all_goals go_ret
  all_goals
   first
    | (exact ⟨zh (N1.out (by assumption)).symm,(yc:Below w.heap.size w _)⟩)
    | (exact ⟨zh (N2.out (by assumption)).symm,(yc:Below w.heap.size w _)⟩)
    | (exact ⟨zh (N3.out (by assumption)).symm,(yc:Below w.heap.size w _)⟩)
    | (exact ⟨zh (N4.out (by assumption)).symm,(yc:Below w.heap.size w _)⟩)
    | (exact ⟨zh (N5.out (by assumption)).symm,(yc:Below w.heap.size w _)⟩)
    | (exact ⟨zh (HY.out (by assumption) (by assumption) (by assumption) (by assumption) (by assumption) g6).symm,(yc:Below w.heap.size w _)⟩)
    | (exact ⟨zh (by by_cases g:a1=0;(rw [HY.out g (by assumption) (by assumption) (by assumption) (by assumption) g6];simp [g]);(rw [N1.out g];simp [g])),(yc:Below w.heap.size w _)⟩)
    | (exact ⟨zh (by by_cases g:a2=0;(rw [HY.out (by assumption) g (by assumption) (by assumption) (by assumption) g6];simp [g]);(rw [N2.out g];simp [g])),(yc:Below w.heap.size w _)⟩)
    | (exact ⟨zh (by by_cases g:a3=0;(rw [HY.out (by assumption) (by assumption) g (by assumption) (by assumption) g6];simp [g]);(rw [N3.out g];simp [g])),(yc:Below w.heap.size w _)⟩)
    | (exact ⟨zh (by by_cases g:a4.toList=[];(rw [HY.out (by assumption) (by assumption) (by assumption) g (by assumption) g6];simp [g]);(rw [N4.out g];simp [g])),(yc:Below w.heap.size w _)⟩)
    | (exact ⟨zh (by by_cases g:a5.toList=[];(rw [HY.out (by assumption) (by assumption) (by assumption) (by assumption) g g6];simp [g]);(rw [N5.out g];simp [g])),(yc:Below w.heap.size w _)⟩)
 ·have fin:=yq (N6.out g6)
  have e6:(((a6n:Nat):Int) == 3)=false:=beq_eq_false_iff_ne.2 (by omega)
  have e7:(((a6n:Nat):Int) != 3)=true:=by rw [bne,e6];rfl
  clear g6
  go_enter Tryz.func187,Tryz.ntmps187
  go_wp2;go_ret;exact ⟨zh fin.out.symm,(yc:Below w.heap.size w _)⟩
theorem znv {a6:Option Addr} {c6:Nat} (x:DExpr) (hk:x.fh=6) (bq:Bool) (hb:bq=true↔Bare (zf x 0)) (w:World) :
  Calls Tryz.prog 187 #[.agg #[.int .i64 x.fh,.int .i64 x.fN,.int .i64 x.fb,.int .i64 x.fk,.string x.fd,.string x.fa,.slice a6 x.fc.length c6]] w fun e w'=>e = .returned (.bool bq)∧Below w.heap.size w w':=by
 have hk2:(zf x 0).fh=6:=hk
 have HY:=yq (show x.fN=0→x.fk=0→x.fd.toList=[]→x.fa.toList=[]→x.fc.length=0→bq=true from fun g1 g3 g4 g5 g6=>hb.2 ⟨(by rw [hk2];exact g6),Or.inr (Or.inl hk2),Or.inr (Or.inr (g5)),Or.inr (Or.inr (g1)),Or.inr (g3),Or.inr (g4)⟩)
 have hbf : ¬ Bare (zf x 0)→bq=false:=fun h=>Bool.eq_false_iff.2 fun hq=>h (hb.1 hq)
 have N1:=yq (show ¬ x.fN=0→bq=false from fun g=>hbf fun hb=>by rcases hb.2.2.2.1 with h|h|h<;>first|exact g h|omega)
 have N3:=yq (show ¬ x.fk=0→bq=false from fun g=>hbf fun hb=>by rcases hb.2.2.2.2.1 with h|h<;>first|exact g h|omega)
 have N4:=yq (show ¬ x.fd.toList=[]→bq=false from fun g=>hbf fun hb=>by rcases hb.2.2.2.2.2 with h|h<;>first|exact g h|omega)
 have N5:=yq (show ¬ x.fa.toList=[]→bq=false from fun g=>hbf fun hb=>by rcases hb.2.2.1 with h|h|h<;>first|exact g h|omega)
 have N6:=yq (show ¬ x.fc.length=0→bq=false from fun g=>hbf fun hb=>by have h:=hb.1;rw [hk2] at h;exact g h)
 rw [hk];clear hk hk2 hb hbf;generalize x.fN=a1 at *;generalize x.fb=a2 at *;generalize x.fk=a3 at *;generalize x.fd=a4 at *;generalize x.fa=a5 at *;generalize x.fc.length=a6n at *
 by_cases g6:a6n=0
 ·have e6:(((a6n:Nat):Int) == 0)=true:=beq_iff_eq.2 (by omega)
  have e7:(((a6n:Nat):Int) != 0)=false:=by rw [bne,e6];rfl
  go_enter Tryz.func187,Tryz.ntmps187
  go_wp2
  all_goals go_ret
  all_goals
   first
    | (exact ⟨zh (N1.out (by assumption)).symm,(yc:Below w.heap.size w _)⟩)
    | (exact ⟨zh (N3.out (by assumption)).symm,(yc:Below w.heap.size w _)⟩)
    | (exact ⟨zh (N4.out (by assumption)).symm,(yc:Below w.heap.size w _)⟩)
    | (exact ⟨zh (N5.out (by assumption)).symm,(yc:Below w.heap.size w _)⟩)
    | (exact ⟨zh (HY.out (by assumption) (by assumption) (by assumption) (by assumption) g6).symm,(yc:Below w.heap.size w _)⟩)
    | (exact ⟨zh (by by_cases g:a1=0;(rw [HY.out g (by assumption) (by assumption) (by assumption) g6];simp [g]);(rw [N1.out g];simp [g])),(yc:Below w.heap.size w _)⟩)
    | (exact ⟨zh (by by_cases g:a3=0;(rw [HY.out (by assumption) g (by assumption) (by assumption) g6];simp [g]);(rw [N3.out g];simp [g])),(yc:Below w.heap.size w _)⟩)
    | (exact ⟨zh (by by_cases g:a4.toList=[];(rw [HY.out (by assumption) (by assumption) g (by assumption) g6];simp [g]);(rw [N4.out g];simp [g])),(yc:Below w.heap.size w _)⟩)
    | (exact ⟨zh (by by_cases g:a5.toList=[];(rw [HY.out (by assumption) (by assumption) (by assumption) g g6];simp [g]);(rw [N5.out g];simp [g])),(yc:Below w.heap.size w _)⟩)
 ·have fin:=yq (N6.out g6)
  have e6:(((a6n:Nat):Int) == 0)=false:=beq_eq_false_iff_ne.2 (by omega)
  have e7:(((a6n:Nat):Int) != 0)=true:=by rw [bne,e6];rfl
  clear g6
  go_enter Tryz.func187,Tryz.ntmps187
  go_wp2;go_ret;exact ⟨zh fin.out.symm,(yc:Below w.heap.size w _)⟩
theorem znu {a6:Option Addr} {c6:Nat} (x:DExpr) (hk:x.fh=7) (bq:Bool) (hb:bq=true↔Bare (zf x 0)) (w:World) :
  Calls Tryz.prog 187 #[.agg #[.int .i64 x.fh,.int .i64 x.fN,.int .i64 x.fb,.int .i64 x.fk,.string x.fd,.string x.fa,.slice a6 x.fc.length c6]] w fun e w'=>e = .returned (.bool bq)∧Below w.heap.size w w':=by
 have hk2:(zf x 0).fh=7:=hk
 have HY:=yq (show x.fN=0→x.fb=0→x.fk=0→x.fd.toList=[]→x.fa.toList=[]→x.fc.length=0→bq=true from fun g1 g2 g3 g4 g5 g6=>hb.2 ⟨(by rw [hk2];exact g6),Or.inr (Or.inr (g2)),Or.inr (Or.inr (g5)),Or.inr (Or.inr (g1)),Or.inr (g3),Or.inr (g4)⟩)
 have hbf : ¬ Bare (zf x 0)→bq=false:=fun h=>Bool.eq_false_iff.2 fun hq=>h (hb.1 hq)
 have N1:=yq (show ¬ x.fN=0→bq=false from fun g=>hbf fun hb=>by rcases hb.2.2.2.1 with h|h|h<;>first|exact g h|omega)
 have N2:=yq (show ¬ x.fb=0→bq=false from fun g=>hbf fun hb=>by rcases hb.2.1 with h|h|h<;>first|exact g h|omega)
 have N3:=yq (show ¬ x.fk=0→bq=false from fun g=>hbf fun hb=>by rcases hb.2.2.2.2.1 with h|h<;>first|exact g h|omega)
 have N4:=yq (show ¬ x.fd.toList=[]→bq=false from fun g=>hbf fun hb=>by rcases hb.2.2.2.2.2 with h|h<;>first|exact g h|omega)
 have N5:=yq (show ¬ x.fa.toList=[]→bq=false from fun g=>hbf fun hb=>by rcases hb.2.2.1 with h|h|h<;>first|exact g h|omega)
 have N6:=yq (show ¬ x.fc.length=0→bq=false from fun g=>hbf fun hb=>by have h:=hb.1;rw [hk2] at h;exact g h)
 rw [hk];clear hk hk2 hb hbf;generalize x.fN=a1 at *;generalize x.fb=a2 at *;generalize x.fk=a3 at *;generalize x.fd=a4 at *;generalize x.fa=a5 at *;generalize x.fc.length=a6n at *
 by_cases g6:a6n=0
 ·have e6:(((a6n:Nat):Int) == 0)=true:=beq_iff_eq.2 (by omega)
  have e7:(((a6n:Nat):Int) != 0)=false:=by rw [bne,e6];rfl
  go_enter Tryz.func187,Tryz.ntmps187
  go_wp2
  all_goals go_ret
  all_goals
   first
    | (exact ⟨zh (N1.out (by assumption)).symm,(yc:Below w.heap.size w _)⟩)
    | (exact ⟨zh (N2.out (by assumption)).symm,(yc:Below w.heap.size w _)⟩)
    | (exact ⟨zh (N3.out (by assumption)).symm,(yc:Below w.heap.size w _)⟩)
    | (exact ⟨zh (N4.out (by assumption)).symm,(yc:Below w.heap.size w _)⟩)
    | (exact ⟨zh (N5.out (by assumption)).symm,(yc:Below w.heap.size w _)⟩)
    | (exact ⟨zh (HY.out (by assumption) (by assumption) (by assumption) (by assumption) (by assumption) g6).symm,(yc:Below w.heap.size w _)⟩)
    | (exact ⟨zh (by by_cases g:a1=0;(rw [HY.out g (by assumption) (by assumption) (by assumption) (by assumption) g6];simp [g]);(rw [N1.out g];simp [g])),(yc:Below w.heap.size w _)⟩)
    | (exact ⟨zh (by by_cases g:a2=0;(rw [HY.out (by assumption) g (by assumption) (by assumption) (by assumption) g6];simp [g]);(rw [N2.out g];simp [g])),(yc:Below w.heap.size w _)⟩)
    | (exact ⟨zh (by by_cases g:a3=0;(rw [HY.out (by assumption) (by assumption) g (by assumption) (by assumption) g6];simp [g]);(rw [N3.out g];simp [g])),(yc:Below w.heap.size w _)⟩)
    | (exact ⟨zh (by by_cases g:a4.toList=[];(rw [HY.out (by assumption) (by assumption) (by assumption) g (by assumption) g6];simp [g]);(rw [N4.out g];simp [g])),(yc:Below w.heap.size w _)⟩)
    | (exact ⟨zh (by by_cases g:a5.toList=[];(rw [HY.out (by assumption) (by assumption) (by assumption) (by assumption) g g6];simp [g]);(rw [N5.out g];simp [g])),(yc:Below w.heap.size w _)⟩)
 ·have fin:=yq (N6.out g6)
  have e6:(((a6n:Nat):Int) == 0)=false:=beq_eq_false_iff_ne.2 (by omega)
  have e7:(((a6n:Nat):Int) != 0)=true:=by rw [bne,e6];rfl
  clear g6
  go_enter Tryz.func187,Tryz.ntmps187
  go_wp2;go_ret;exact ⟨zh fin.out.symm,(yc:Below w.heap.size w _)⟩
theorem zoh {a6:Option Addr} {c6:Nat} (x:DExpr) (hk:x.fh=8) (bq:Bool) (hb:bq=true↔Bare (zf x 0)) (w:World) :
  Calls Tryz.prog 187 #[.agg #[.int .i64 x.fh,.int .i64 x.fN,.int .i64 x.fb,.int .i64 x.fk,.string x.fd,.string x.fa,.slice a6 x.fc.length c6]] w fun e w'=>e = .returned (.bool bq)∧Below w.heap.size w w':=by
 have hk2:(zf x 0).fh=8:=hk
 have HY:=yq (show x.fN=0→x.fb=0→x.fk=0→x.fc.length=1→bq=true from fun g1 g2 g3 g6=>hb.2 ⟨(by rw [hk2];exact g6),Or.inr (Or.inr (g2)),Or.inr (Or.inl hk2),Or.inr (Or.inr (g1)),Or.inr (g3),Or.inl hk2⟩)
 have hbf : ¬ Bare (zf x 0)→bq=false:=fun h=>Bool.eq_false_iff.2 fun hq=>h (hb.1 hq)
 have N1:=yq (show ¬ x.fN=0→bq=false from fun g=>hbf fun hb=>by rcases hb.2.2.2.1 with h|h|h<;>first|exact g h|omega)
 have N2:=yq (show ¬ x.fb=0→bq=false from fun g=>hbf fun hb=>by rcases hb.2.1 with h|h|h<;>first|exact g h|omega)
 have N3:=yq (show ¬ x.fk=0→bq=false from fun g=>hbf fun hb=>by rcases hb.2.2.2.2.1 with h|h<;>first|exact g h|omega)
 have N6:=yq (show ¬ x.fc.length=1→bq=false from fun g=>hbf fun hb=>by have h:=hb.1;rw [hk2] at h;exact g h)
 rw [hk];clear hk hk2 hb hbf;generalize x.fN=a1 at *;generalize x.fb=a2 at *;generalize x.fk=a3 at *;generalize x.fd=a4 at *;generalize x.fa=a5 at *;generalize x.fc.length=a6n at *
 by_cases g6:a6n=1
 ·have e6:(((a6n:Nat):Int) == 1)=true:=beq_iff_eq.2 (by omega)
  have e7:(((a6n:Nat):Int) != 1)=false:=by rw [bne,e6];rfl
  go_enter Tryz.func187,Tryz.ntmps187
  go_wp2
  all_goals go_ret
  all_goals
   first
    | (exact ⟨zh (N1.out (by assumption)).symm,(yc:Below w.heap.size w _)⟩)
    | (exact ⟨zh (N2.out (by assumption)).symm,(yc:Below w.heap.size w _)⟩)
    | (exact ⟨zh (N3.out (by assumption)).symm,(yc:Below w.heap.size w _)⟩)
    | (exact ⟨zh (HY.out (by assumption) (by assumption) (by assumption) g6).symm,(yc:Below w.heap.size w _)⟩)
    | (exact ⟨zh (by by_cases g:a1=0;(rw [HY.out g (by assumption) (by assumption) g6];simp [g]);(rw [N1.out g];simp [g])),(yc:Below w.heap.size w _)⟩)
    | (exact ⟨zh (by by_cases g:a2=0;(rw [HY.out (by assumption) g (by assumption) g6];simp [g]);(rw [N2.out g];simp [g])),(yc:Below w.heap.size w _)⟩)
    | (exact ⟨zh (by by_cases g:a3=0;(rw [HY.out (by assumption) (by assumption) g g6];simp [g]);(rw [N3.out g];simp [g])),(yc:Below w.heap.size w _)⟩)
 ·have fin:=yq (N6.out g6)
  have e6:(((a6n:Nat):Int) == 1)=false:=beq_eq_false_iff_ne.2 (by omega)
  have e7:(((a6n:Nat):Int) != 1)=true:=by rw [bne,e6];rfl
  clear g6
  go_enter Tryz.func187,Tryz.ntmps187
  go_wp2;go_ret;exact ⟨zh fin.out.symm,(yc:Below w.heap.size w _)⟩
theorem zod {a6:Option Addr} {c6:Nat} (x:DExpr) (hk:x.fh=1) (_:x.fd.size≤1048576) (_:x.fa.size≤1048576) (w:World) :
  Calls Tryz.prog 174 #[.agg #[.int .i64 x.fh,.int .i64 x.fN,.int .i64 x.fb,.int .i64 x.fk,.string x.fd,.string x.fa,.slice a6 x.fc.length c6]] w fun e w'=>e = .returned (.bool (zk (zf x 0)))∧Below w.heap.size w w':=by
 have hk2:(zf x 0).fh=1:=hk;have HO:=yq (zwe hk2)
 obtain ⟨bq,hb⟩ : ∃ bq:Bool,bq=true↔Bare (zf x 0):=by classical exact ⟨decide (Bare (zf x 0)),decide_eq_true_iff⟩
 have HBARE:=yq (fun W=>zn0 (a6:=a6) (c6:=c6) x hk bq hb W)
 have HYES:=yq (show bq=true→zk (zf x 0)=okN (zf x 0) from fun h=>zaz (by rw [hk2];decide) (hb.1 h))
 have HNO:=yq (show bq=false→zk (zf x 0)=false from fun h=>zj fun hB=>by rw [hb.2 hB] at h;cases h)
 have HIN:=yq (show ∀ W,Calls Tryz.prog 11 #[.int .i64 1,.int .i64 1,.int .i64 8] W fun e w'=>e = .returned (.bool true)∧W=w' from fun W=>by have h:=zaf 1 1 8 W;rw [show inR 1 1 8=true from by decide] at h;exact h)
 have HA:=yq (fun W=>zaf x.fk 1 3 W)
 have HT:=yq (fun W=>zos x.fN x.fk W)
 rw [show zf x 0=⟨x.fh,x.fN,x.fb,x.fk,x.fd,x.fa,x.fc.length,0⟩ from rfl] at HO
 obtain ⟨q3,hq3⟩ : ∃ q3,decide (0≤x.fN)=q3:=⟨_,rfl⟩;generalize zk (zf x 0)=v at *;generalize hoq:okN (zf x 0)=q at *
 have HO2:=yq (show q=(inR x.fk 1 3 && isOf x.fN x.fk && decide (0≤x.fN)) from hoq.symm.trans (zwe hk2))
 clear hoq hb hk2 HO;generalize inR x.fk 1 3=q1 at *;generalize isOf x.fN x.fk=q2 at *;rw [hk] at HBARE ⊢;clear hk;generalize x.fN=a1 at *;generalize x.fb=a2 at *;generalize x.fk=a3 at *;generalize x.fd=a4 at *;generalize x.fa=a5 at *;generalize x.fc.length=a6n at *;have HB:=yq ((Below.refl w.heap.size w).alloc (Nat.le_refl _) (.cells #[.int .i64 1,.int .i64 a1,.int .i64 a2,.int .i64 a3,.string a4,.string a5,.slice a6 a6n c6] 90))
 cases bq
 ·have fin:=yq (HNO.out rfl)
  go_enter Tryz.func174,Tryz.ntmps174
  (go_wp2_with fail);refine (HIN.out _).mono ?_;rintro e w0 ⟨rfl,rfl⟩;(go_wp2_with fail);refine (HBARE.out _).mono ?_;rintro e w1 ⟨rfl,hb1⟩
  have cw1_0:w1.cell? ⟨w.heap.size,0,none⟩=some (.int .i64 1):=(hb1.cell (p:=⟨w.heap.size,0,none⟩) (by first|(simp;done)|assumption)).trans (by go_simp)
  have cw1_1:w1.cell? ⟨w.heap.size,1,none⟩=some (.int .i64 a1):=(hb1.cell (p:=⟨w.heap.size,1,none⟩) (by first|(simp;done)|assumption)).trans (by go_simp)
  have cw1_2:w1.cell? ⟨w.heap.size,2,none⟩=some (.int .i64 a2):=(hb1.cell (p:=⟨w.heap.size,2,none⟩) (by first|(simp;done)|assumption)).trans (by go_simp)
  have cw1_3:w1.cell? ⟨w.heap.size,3,none⟩=some (.int .i64 a3):=(hb1.cell (p:=⟨w.heap.size,3,none⟩) (by first|(simp;done)|assumption)).trans (by go_simp)
  have cw1_4:w1.cell? ⟨w.heap.size,4,none⟩=some (.string a4):=(hb1.cell (p:=⟨w.heap.size,4,none⟩) (by first|(simp;done)|assumption)).trans (by go_simp)
  have cw1_5:w1.cell? ⟨w.heap.size,5,none⟩=some (.string a5):=(hb1.cell (p:=⟨w.heap.size,5,none⟩) (by first|(simp;done)|assumption)).trans (by go_simp)
  have cw1_6:w1.cell? ⟨w.heap.size,6,none⟩=some (.slice a6 a6n c6):=(hb1.cell (p:=⟨w.heap.size,6,none⟩) (by first|(simp;done)|assumption)).trans (by go_simp)
  have hs9:w.heap.size < w1.heap.size:=Nat.lt_of_lt_of_le (by simp) hb1.size
  have HB1:=yq (HB.out.trans (hb1.mono HB.out.size));clear hb1;go_wp2;go_ret;exact ⟨zh fin.out.symm,HB1.out⟩
 ·have HV:=yq (HYES.out rfl)
  cases q1
  ·skip
   go_enter Tryz.func174,Tryz.ntmps174
   (go_wp2_with fail);refine (HIN.out _).mono ?_;rintro e w0 ⟨rfl,rfl⟩;(go_wp2_with fail);refine (HBARE.out _).mono ?_;rintro e w1 ⟨rfl,hb1⟩
   have cw1_0:w1.cell? ⟨w.heap.size,0,none⟩=some (.int .i64 1):=(hb1.cell (p:=⟨w.heap.size,0,none⟩) (by first|(simp;done)|assumption)).trans (by go_simp)
   have cw1_1:w1.cell? ⟨w.heap.size,1,none⟩=some (.int .i64 a1):=(hb1.cell (p:=⟨w.heap.size,1,none⟩) (by first|(simp;done)|assumption)).trans (by go_simp)
   have cw1_2:w1.cell? ⟨w.heap.size,2,none⟩=some (.int .i64 a2):=(hb1.cell (p:=⟨w.heap.size,2,none⟩) (by first|(simp;done)|assumption)).trans (by go_simp)
   have cw1_3:w1.cell? ⟨w.heap.size,3,none⟩=some (.int .i64 a3):=(hb1.cell (p:=⟨w.heap.size,3,none⟩) (by first|(simp;done)|assumption)).trans (by go_simp)
   have cw1_4:w1.cell? ⟨w.heap.size,4,none⟩=some (.string a4):=(hb1.cell (p:=⟨w.heap.size,4,none⟩) (by first|(simp;done)|assumption)).trans (by go_simp)
   have cw1_5:w1.cell? ⟨w.heap.size,5,none⟩=some (.string a5):=(hb1.cell (p:=⟨w.heap.size,5,none⟩) (by first|(simp;done)|assumption)).trans (by go_simp)
   have cw1_6:w1.cell? ⟨w.heap.size,6,none⟩=some (.slice a6 a6n c6):=(hb1.cell (p:=⟨w.heap.size,6,none⟩) (by first|(simp;done)|assumption)).trans (by go_simp)
   have hs9:w.heap.size < w1.heap.size:=Nat.lt_of_lt_of_le (by simp) hb1.size
   have HB1:=yq (HB.out.trans (hb1.mono HB.out.size));clear hb1;(go_wp2_with fail);refine (HA.out _).mono ?_;rintro e w9 ⟨rfl,rfl⟩;go_wp2;go_ret
   exact ⟨zh (by rw [HV.out,HO2.out];rfl),HB1.out⟩
  ·cases q2
   ·skip
    go_enter Tryz.func174,Tryz.ntmps174
    (go_wp2_with fail);refine (HIN.out _).mono ?_;rintro e w0 ⟨rfl,rfl⟩;(go_wp2_with fail);refine (HBARE.out _).mono ?_;rintro e w1 ⟨rfl,hb1⟩
    have cw1_0:w1.cell? ⟨w.heap.size,0,none⟩=some (.int .i64 1):=(hb1.cell (p:=⟨w.heap.size,0,none⟩) (by first|(simp;done)|assumption)).trans (by go_simp)
    have cw1_1:w1.cell? ⟨w.heap.size,1,none⟩=some (.int .i64 a1):=(hb1.cell (p:=⟨w.heap.size,1,none⟩) (by first|(simp;done)|assumption)).trans (by go_simp)
    have cw1_2:w1.cell? ⟨w.heap.size,2,none⟩=some (.int .i64 a2):=(hb1.cell (p:=⟨w.heap.size,2,none⟩) (by first|(simp;done)|assumption)).trans (by go_simp)
    have cw1_3:w1.cell? ⟨w.heap.size,3,none⟩=some (.int .i64 a3):=(hb1.cell (p:=⟨w.heap.size,3,none⟩) (by first|(simp;done)|assumption)).trans (by go_simp)
    have cw1_4:w1.cell? ⟨w.heap.size,4,none⟩=some (.string a4):=(hb1.cell (p:=⟨w.heap.size,4,none⟩) (by first|(simp;done)|assumption)).trans (by go_simp)
    have cw1_5:w1.cell? ⟨w.heap.size,5,none⟩=some (.string a5):=(hb1.cell (p:=⟨w.heap.size,5,none⟩) (by first|(simp;done)|assumption)).trans (by go_simp)
    have cw1_6:w1.cell? ⟨w.heap.size,6,none⟩=some (.slice a6 a6n c6):=(hb1.cell (p:=⟨w.heap.size,6,none⟩) (by first|(simp;done)|assumption)).trans (by go_simp)
    have hs9:w.heap.size < w1.heap.size:=Nat.lt_of_lt_of_le (by simp) hb1.size
    have HB1:=yq (HB.out.trans (hb1.mono HB.out.size));clear hb1;(go_wp2_with fail);refine (HA.out _).mono ?_;rintro e w9 ⟨rfl,rfl⟩;(go_wp2_with fail);refine (HT.out _).mono ?_;rintro e w9 ⟨rfl,rfl⟩;go_wp2;go_ret
    exact ⟨zh (by rw [HV.out,HO2.out];rfl),HB1.out⟩
   ·skip
    go_enter Tryz.func174,Tryz.ntmps174
    (go_wp2_with fail);refine (HIN.out _).mono ?_;rintro e w0 ⟨rfl,rfl⟩;(go_wp2_with fail);refine (HBARE.out _).mono ?_;rintro e w1 ⟨rfl,hb1⟩
    have cw1_0:w1.cell? ⟨w.heap.size,0,none⟩=some (.int .i64 1):=(hb1.cell (p:=⟨w.heap.size,0,none⟩) (by first|(simp;done)|assumption)).trans (by go_simp)
    have cw1_1:w1.cell? ⟨w.heap.size,1,none⟩=some (.int .i64 a1):=(hb1.cell (p:=⟨w.heap.size,1,none⟩) (by first|(simp;done)|assumption)).trans (by go_simp)
    have cw1_2:w1.cell? ⟨w.heap.size,2,none⟩=some (.int .i64 a2):=(hb1.cell (p:=⟨w.heap.size,2,none⟩) (by first|(simp;done)|assumption)).trans (by go_simp)
    have cw1_3:w1.cell? ⟨w.heap.size,3,none⟩=some (.int .i64 a3):=(hb1.cell (p:=⟨w.heap.size,3,none⟩) (by first|(simp;done)|assumption)).trans (by go_simp)
    have cw1_4:w1.cell? ⟨w.heap.size,4,none⟩=some (.string a4):=(hb1.cell (p:=⟨w.heap.size,4,none⟩) (by first|(simp;done)|assumption)).trans (by go_simp)
    have cw1_5:w1.cell? ⟨w.heap.size,5,none⟩=some (.string a5):=(hb1.cell (p:=⟨w.heap.size,5,none⟩) (by first|(simp;done)|assumption)).trans (by go_simp)
    have cw1_6:w1.cell? ⟨w.heap.size,6,none⟩=some (.slice a6 a6n c6):=(hb1.cell (p:=⟨w.heap.size,6,none⟩) (by first|(simp;done)|assumption)).trans (by go_simp)
    have hs9:w.heap.size < w1.heap.size:=Nat.lt_of_lt_of_le (by simp) hb1.size
    have HB1:=yq (HB.out.trans (hb1.mono HB.out.size));clear hb1;(go_wp2_with fail);refine (HA.out _).mono ?_;rintro e w9 ⟨rfl,rfl⟩;(go_wp2_with fail);refine (HT.out _).mono ?_;rintro e w9 ⟨rfl,rfl⟩;go_wp2;go_ret
    exact ⟨zh (by rw [HV.out,HO2.out,Bool.true_and,Bool.true_and];first|exact hq3|exact hq3.symm|rfl|(simp [hq3];done)|(simp [← hq3];done)),HB1.out⟩
theorem zo6 {a6:Option Addr} {c6:Nat} (x:DExpr) (hk:x.fh=2) (_:x.fd.size≤1048576) (_:x.fa.size≤1048576) (w:World) :
  Calls Tryz.prog 174 #[.agg #[.int .i64 x.fh,.int .i64 x.fN,.int .i64 x.fb,.int .i64 x.fk,.string x.fd,.string x.fa,.slice a6 x.fc.length c6]] w fun e w'=>e = .returned (.bool (zk (zf x 0)))∧Below w.heap.size w w':=by
 have hk2:(zf x 0).fh=2:=hk;have HO:=yq (zxm hk2)
 obtain ⟨bq,hb⟩ : ∃ bq:Bool,bq=true↔Bare (zf x 0):=by classical exact ⟨decide (Bare (zf x 0)),decide_eq_true_iff⟩
 have HBARE:=yq (fun W=>zn1 (a6:=a6) (c6:=c6) x hk bq hb W)
 have HYES:=yq (show bq=true→zk (zf x 0)=okN (zf x 0) from fun h=>zaz (by rw [hk2];decide) (hb.1 h))
 have HNO:=yq (show bq=false→zk (zf x 0)=false from fun h=>zj fun hB=>by rw [hb.2 hB] at h;cases h)
 have HIN:=yq (show ∀ W,Calls Tryz.prog 11 #[.int .i64 2,.int .i64 1,.int .i64 8] W fun e w'=>e = .returned (.bool true)∧W=w' from fun W=>by have h:=zaf 2 1 8 W;rw [show inR 2 1 8=true from by decide] at h;exact h)
 rw [show zf x 0=⟨x.fh,x.fN,x.fb,x.fk,x.fd,x.fa,x.fc.length,0⟩ from rfl] at HO
 generalize zk (zf x 0)=v at *;generalize hoq:okN (zf x 0)=q at *
 have HO2:=yq (show q=(true) from hoq.symm.trans (zxm hk2))
 clear hoq hb hk2 HO;rw [hk] at HBARE ⊢;clear hk;generalize x.fN=a1 at *;generalize x.fb=a2 at *;generalize x.fk=a3 at *;generalize x.fd=a4 at *;generalize x.fa=a5 at *;generalize x.fc.length=a6n at *;have HB:=yq ((Below.refl w.heap.size w).alloc (Nat.le_refl _) (.cells #[.int .i64 2,.int .i64 a1,.int .i64 a2,.int .i64 a3,.string a4,.string a5,.slice a6 a6n c6] 90))
 cases bq
 ·have fin:=yq (HNO.out rfl)
  go_enter Tryz.func174,Tryz.ntmps174
  (go_wp2_with fail);refine (HIN.out _).mono ?_;rintro e w0 ⟨rfl,rfl⟩;(go_wp2_with fail);refine (HBARE.out _).mono ?_;rintro e w1 ⟨rfl,hb1⟩
  have cw1_0:w1.cell? ⟨w.heap.size,0,none⟩=some (.int .i64 2):=(hb1.cell (p:=⟨w.heap.size,0,none⟩) (by first|(simp;done)|assumption)).trans (by go_simp)
  have cw1_1:w1.cell? ⟨w.heap.size,1,none⟩=some (.int .i64 a1):=(hb1.cell (p:=⟨w.heap.size,1,none⟩) (by first|(simp;done)|assumption)).trans (by go_simp)
  have cw1_2:w1.cell? ⟨w.heap.size,2,none⟩=some (.int .i64 a2):=(hb1.cell (p:=⟨w.heap.size,2,none⟩) (by first|(simp;done)|assumption)).trans (by go_simp)
  have cw1_3:w1.cell? ⟨w.heap.size,3,none⟩=some (.int .i64 a3):=(hb1.cell (p:=⟨w.heap.size,3,none⟩) (by first|(simp;done)|assumption)).trans (by go_simp)
  have cw1_4:w1.cell? ⟨w.heap.size,4,none⟩=some (.string a4):=(hb1.cell (p:=⟨w.heap.size,4,none⟩) (by first|(simp;done)|assumption)).trans (by go_simp)
  have cw1_5:w1.cell? ⟨w.heap.size,5,none⟩=some (.string a5):=(hb1.cell (p:=⟨w.heap.size,5,none⟩) (by first|(simp;done)|assumption)).trans (by go_simp)
  have cw1_6:w1.cell? ⟨w.heap.size,6,none⟩=some (.slice a6 a6n c6):=(hb1.cell (p:=⟨w.heap.size,6,none⟩) (by first|(simp;done)|assumption)).trans (by go_simp)
  have hs9:w.heap.size < w1.heap.size:=Nat.lt_of_lt_of_le (by simp) hb1.size
  have HB1:=yq (HB.out.trans (hb1.mono HB.out.size));clear hb1;go_wp2;go_ret;exact ⟨zh fin.out.symm,HB1.out⟩
 ·have HV:=yq (HYES.out rfl)
  go_enter Tryz.func174,Tryz.ntmps174
  (go_wp2_with fail);refine (HIN.out _).mono ?_;rintro e w0 ⟨rfl,rfl⟩;(go_wp2_with fail);refine (HBARE.out _).mono ?_;rintro e w1 ⟨rfl,hb1⟩
  have cw1_0:w1.cell? ⟨w.heap.size,0,none⟩=some (.int .i64 2):=(hb1.cell (p:=⟨w.heap.size,0,none⟩) (by first|(simp;done)|assumption)).trans (by go_simp)
  have cw1_1:w1.cell? ⟨w.heap.size,1,none⟩=some (.int .i64 a1):=(hb1.cell (p:=⟨w.heap.size,1,none⟩) (by first|(simp;done)|assumption)).trans (by go_simp)
  have cw1_2:w1.cell? ⟨w.heap.size,2,none⟩=some (.int .i64 a2):=(hb1.cell (p:=⟨w.heap.size,2,none⟩) (by first|(simp;done)|assumption)).trans (by go_simp)
  have cw1_3:w1.cell? ⟨w.heap.size,3,none⟩=some (.int .i64 a3):=(hb1.cell (p:=⟨w.heap.size,3,none⟩) (by first|(simp;done)|assumption)).trans (by go_simp)
  have cw1_4:w1.cell? ⟨w.heap.size,4,none⟩=some (.string a4):=(hb1.cell (p:=⟨w.heap.size,4,none⟩) (by first|(simp;done)|assumption)).trans (by go_simp)
  have cw1_5:w1.cell? ⟨w.heap.size,5,none⟩=some (.string a5):=(hb1.cell (p:=⟨w.heap.size,5,none⟩) (by first|(simp;done)|assumption)).trans (by go_simp)
  have cw1_6:w1.cell? ⟨w.heap.size,6,none⟩=some (.slice a6 a6n c6):=(hb1.cell (p:=⟨w.heap.size,6,none⟩) (by first|(simp;done)|assumption)).trans (by go_simp)
  have hs9:w.heap.size < w1.heap.size:=Nat.lt_of_lt_of_le (by simp) hb1.size
  have HB1:=yq (HB.out.trans (hb1.mono HB.out.size));clear hb1;go_wp2;go_ret
  exact ⟨zh (by rw [HV.out,HO2.out]),HB1.out⟩
theorem zn3 {a6:Option Addr} {c6:Nat} (x:DExpr) (hk:x.fh=3) (_:x.fd.size≤1048576) (hs2:x.fa.size≤1048576) (w:World) :
  Calls Tryz.prog 174 #[.agg #[.int .i64 x.fh,.int .i64 x.fN,.int .i64 x.fb,.int .i64 x.fk,.string x.fd,.string x.fa,.slice a6 x.fc.length c6]] w fun e w'=>e = .returned (.bool (zk (zf x 0)))∧Below w.heap.size w w':=by
 have hk2:(zf x 0).fh=3:=hk;have HO:=yq (zvq hk2)
 obtain ⟨bq,hb⟩ : ∃ bq:Bool,bq=true↔Bare (zf x 0):=by classical exact ⟨decide (Bare (zf x 0)),decide_eq_true_iff⟩
 have HBARE:=yq (fun W=>zog (a6:=a6) (c6:=c6) x hk bq hb W)
 have HYES:=yq (show bq=true→zk (zf x 0)=okN (zf x 0) from fun h=>zaz (by rw [hk2];decide) (hb.1 h))
 have HNO:=yq (show bq=false→zk (zf x 0)=false from fun h=>zj fun hB=>by rw [hb.2 hB] at h;cases h)
 have HIN:=yq (show ∀ W,Calls Tryz.prog 11 #[.int .i64 3,.int .i64 1,.int .i64 8] W fun e w'=>e = .returned (.bool true)∧W=w' from fun W=>by have h:=zaf 3 1 8 W;rw [show inR 3 1 8=true from by decide] at h;exact h)
 have HA:=yq (fun W=>zaf x.fb 0 3 W)
 have HT:=yq (fun W=>zag x.fa hs2 W)
 rw [show zf x 0=⟨x.fh,x.fN,x.fb,x.fk,x.fd,x.fa,x.fc.length,0⟩ from rfl] at HO
 generalize zk (zf x 0)=v at *;generalize hoq:okN (zf x 0)=q at *
 have HO2:=yq (show q=(inR x.fb 0 3 && zi x.fa) from hoq.symm.trans (zvq hk2))
 clear hoq hb hk2 HO;generalize inR x.fb 0 3=q1 at *;generalize zi x.fa=q2 at *;rw [hk] at HBARE ⊢;clear hk;generalize x.fN=a1 at *;generalize x.fb=a2 at *;generalize x.fk=a3 at *;generalize x.fd=a4 at *;generalize x.fa=a5 at *;generalize x.fc.length=a6n at *;have HB:=yq ((Below.refl w.heap.size w).alloc (Nat.le_refl _) (.cells #[.int .i64 3,.int .i64 a1,.int .i64 a2,.int .i64 a3,.string a4,.string a5,.slice a6 a6n c6] 90))
 cases bq
 ·have fin:=yq (HNO.out rfl)
  go_enter Tryz.func174,Tryz.ntmps174
  (go_wp2_with fail);refine (HIN.out _).mono ?_;rintro e w0 ⟨rfl,rfl⟩;(go_wp2_with fail);refine (HBARE.out _).mono ?_;rintro e w1 ⟨rfl,hb1⟩
  have cw1_0:w1.cell? ⟨w.heap.size,0,none⟩=some (.int .i64 3):=(hb1.cell (p:=⟨w.heap.size,0,none⟩) (by first|(simp;done)|assumption)).trans (by go_simp)
  have cw1_1:w1.cell? ⟨w.heap.size,1,none⟩=some (.int .i64 a1):=(hb1.cell (p:=⟨w.heap.size,1,none⟩) (by first|(simp;done)|assumption)).trans (by go_simp)
  have cw1_2:w1.cell? ⟨w.heap.size,2,none⟩=some (.int .i64 a2):=(hb1.cell (p:=⟨w.heap.size,2,none⟩) (by first|(simp;done)|assumption)).trans (by go_simp)
  have cw1_3:w1.cell? ⟨w.heap.size,3,none⟩=some (.int .i64 a3):=(hb1.cell (p:=⟨w.heap.size,3,none⟩) (by first|(simp;done)|assumption)).trans (by go_simp)
  have cw1_4:w1.cell? ⟨w.heap.size,4,none⟩=some (.string a4):=(hb1.cell (p:=⟨w.heap.size,4,none⟩) (by first|(simp;done)|assumption)).trans (by go_simp)
  have cw1_5:w1.cell? ⟨w.heap.size,5,none⟩=some (.string a5):=(hb1.cell (p:=⟨w.heap.size,5,none⟩) (by first|(simp;done)|assumption)).trans (by go_simp)
  have cw1_6:w1.cell? ⟨w.heap.size,6,none⟩=some (.slice a6 a6n c6):=(hb1.cell (p:=⟨w.heap.size,6,none⟩) (by first|(simp;done)|assumption)).trans (by go_simp)
  have hs9:w.heap.size < w1.heap.size:=Nat.lt_of_lt_of_le (by simp) hb1.size
  have HB1:=yq (HB.out.trans (hb1.mono HB.out.size));clear hb1;go_wp2;go_ret;exact ⟨zh fin.out.symm,HB1.out⟩
 ·have HV:=yq (HYES.out rfl)
  cases q1
  ·skip
   go_enter Tryz.func174,Tryz.ntmps174
   (go_wp2_with fail);refine (HIN.out _).mono ?_;rintro e w0 ⟨rfl,rfl⟩;(go_wp2_with fail);refine (HBARE.out _).mono ?_;rintro e w1 ⟨rfl,hb1⟩
   have cw1_0:w1.cell? ⟨w.heap.size,0,none⟩=some (.int .i64 3):=(hb1.cell (p:=⟨w.heap.size,0,none⟩) (by first|(simp;done)|assumption)).trans (by go_simp)
   have cw1_1:w1.cell? ⟨w.heap.size,1,none⟩=some (.int .i64 a1):=(hb1.cell (p:=⟨w.heap.size,1,none⟩) (by first|(simp;done)|assumption)).trans (by go_simp)
   have cw1_2:w1.cell? ⟨w.heap.size,2,none⟩=some (.int .i64 a2):=(hb1.cell (p:=⟨w.heap.size,2,none⟩) (by first|(simp;done)|assumption)).trans (by go_simp)
   have cw1_3:w1.cell? ⟨w.heap.size,3,none⟩=some (.int .i64 a3):=(hb1.cell (p:=⟨w.heap.size,3,none⟩) (by first|(simp;done)|assumption)).trans (by go_simp)
   have cw1_4:w1.cell? ⟨w.heap.size,4,none⟩=some (.string a4):=(hb1.cell (p:=⟨w.heap.size,4,none⟩) (by first|(simp;done)|assumption)).trans (by go_simp)
   have cw1_5:w1.cell? ⟨w.heap.size,5,none⟩=some (.string a5):=(hb1.cell (p:=⟨w.heap.size,5,none⟩) (by first|(simp;done)|assumption)).trans (by go_simp)
   have cw1_6:w1.cell? ⟨w.heap.size,6,none⟩=some (.slice a6 a6n c6):=(hb1.cell (p:=⟨w.heap.size,6,none⟩) (by first|(simp;done)|assumption)).trans (by go_simp)
   have hs9:w.heap.size < w1.heap.size:=Nat.lt_of_lt_of_le (by simp) hb1.size
   have HB1:=yq (HB.out.trans (hb1.mono HB.out.size));clear hb1;(go_wp2_with fail);refine (HA.out _).mono ?_;rintro e w9 ⟨rfl,rfl⟩;go_wp2;go_ret
   exact ⟨zh (by rw [HV.out,HO2.out];rfl),HB1.out⟩
  ·skip
   go_enter Tryz.func174,Tryz.ntmps174
   (go_wp2_with fail);refine (HIN.out _).mono ?_;rintro e w0 ⟨rfl,rfl⟩;(go_wp2_with fail);refine (HBARE.out _).mono ?_;rintro e w1 ⟨rfl,hb1⟩
   have cw1_0:w1.cell? ⟨w.heap.size,0,none⟩=some (.int .i64 3):=(hb1.cell (p:=⟨w.heap.size,0,none⟩) (by first|(simp;done)|assumption)).trans (by go_simp)
   have cw1_1:w1.cell? ⟨w.heap.size,1,none⟩=some (.int .i64 a1):=(hb1.cell (p:=⟨w.heap.size,1,none⟩) (by first|(simp;done)|assumption)).trans (by go_simp)
   have cw1_2:w1.cell? ⟨w.heap.size,2,none⟩=some (.int .i64 a2):=(hb1.cell (p:=⟨w.heap.size,2,none⟩) (by first|(simp;done)|assumption)).trans (by go_simp)
   have cw1_3:w1.cell? ⟨w.heap.size,3,none⟩=some (.int .i64 a3):=(hb1.cell (p:=⟨w.heap.size,3,none⟩) (by first|(simp;done)|assumption)).trans (by go_simp)
   have cw1_4:w1.cell? ⟨w.heap.size,4,none⟩=some (.string a4):=(hb1.cell (p:=⟨w.heap.size,4,none⟩) (by first|(simp;done)|assumption)).trans (by go_simp)
   have cw1_5:w1.cell? ⟨w.heap.size,5,none⟩=some (.string a5):=(hb1.cell (p:=⟨w.heap.size,5,none⟩) (by first|(simp;done)|assumption)).trans (by go_simp)
   have cw1_6:w1.cell? ⟨w.heap.size,6,none⟩=some (.slice a6 a6n c6):=(hb1.cell (p:=⟨w.heap.size,6,none⟩) (by first|(simp;done)|assumption)).trans (by go_simp)
   have hs9:w.heap.size < w1.heap.size:=Nat.lt_of_lt_of_le (by simp) hb1.size
   have HB1:=yq (HB.out.trans (hb1.mono HB.out.size));clear hb1;(go_wp2_with fail);refine (HA.out _).mono ?_;rintro e w9 ⟨rfl,rfl⟩;(go_wp2_with fail);refine (HT.out _).mono ?_;rintro e w3 ⟨rfl,hb3⟩;have HB3:=yq (HB1.out.trans (hb3.mono HB1.out.size));clear hb3;go_wp2;go_ret
   exact ⟨zh (by rw [HV.out,HO2.out];simp),HB3.out⟩
theorem zor {a6:Option Addr} {c6:Nat} (x:DExpr) (hk:x.fh=4) (_:x.fd.size≤1048576) (_:x.fa.size≤1048576) (w:World) :
  Calls Tryz.prog 174 #[.agg #[.int .i64 x.fh,.int .i64 x.fN,.int .i64 x.fb,.int .i64 x.fk,.string x.fd,.string x.fa,.slice a6 x.fc.length c6]] w fun e w'=>e = .returned (.bool (zk (zf x 0)))∧Below w.heap.size w w':=by
 have hk2:(zf x 0).fh=4:=hk;have HO:=yq (zvj hk2)
 obtain ⟨bq,hb⟩ : ∃ bq:Bool,bq=true↔Bare (zf x 0):=by classical exact ⟨decide (Bare (zf x 0)),decide_eq_true_iff⟩
 have HBARE:=yq (fun W=>znt (a6:=a6) (c6:=c6) x hk bq hb W)
 have HYES:=yq (show bq=true→zk (zf x 0)=okN (zf x 0) from fun h=>zaz (by rw [hk2];decide) (hb.1 h))
 have HNO:=yq (show bq=false→zk (zf x 0)=false from fun h=>zj fun hB=>by rw [hb.2 hB] at h;cases h)
 have HIN:=yq (show ∀ W,Calls Tryz.prog 11 #[.int .i64 4,.int .i64 1,.int .i64 8] W fun e w'=>e = .returned (.bool true)∧W=w' from fun W=>by have h:=zaf 4 1 8 W;rw [show inR 4 1 8=true from by decide] at h;exact h)
 have HA:=yq (fun W=>zaf x.fN 1 12 W)
 rw [show zf x 0=⟨x.fh,x.fN,x.fb,x.fk,x.fd,x.fa,x.fc.length,0⟩ from rfl] at HO
 generalize zk (zf x 0)=v at *;generalize hoq:okN (zf x 0)=q at *
 have HO2:=yq (show q=(inR x.fN 1 12) from hoq.symm.trans (zvj hk2))
 clear hoq hb hk2 HO;generalize inR x.fN 1 12=q1 at *;rw [hk] at HBARE ⊢;clear hk;generalize x.fN=a1 at *;generalize x.fb=a2 at *;generalize x.fk=a3 at *;generalize x.fd=a4 at *;generalize x.fa=a5 at *;generalize x.fc.length=a6n at *;have HB:=yq ((Below.refl w.heap.size w).alloc (Nat.le_refl _) (.cells #[.int .i64 4,.int .i64 a1,.int .i64 a2,.int .i64 a3,.string a4,.string a5,.slice a6 a6n c6] 90))
 cases bq
 ·have fin:=yq (HNO.out rfl)
  go_enter Tryz.func174,Tryz.ntmps174
  (go_wp2_with fail);refine (HIN.out _).mono ?_;rintro e w0 ⟨rfl,rfl⟩;(go_wp2_with fail);refine (HBARE.out _).mono ?_;rintro e w1 ⟨rfl,hb1⟩
  have cw1_0:w1.cell? ⟨w.heap.size,0,none⟩=some (.int .i64 4):=(hb1.cell (p:=⟨w.heap.size,0,none⟩) (by first|(simp;done)|assumption)).trans (by go_simp)
  have cw1_1:w1.cell? ⟨w.heap.size,1,none⟩=some (.int .i64 a1):=(hb1.cell (p:=⟨w.heap.size,1,none⟩) (by first|(simp;done)|assumption)).trans (by go_simp)
  have cw1_2:w1.cell? ⟨w.heap.size,2,none⟩=some (.int .i64 a2):=(hb1.cell (p:=⟨w.heap.size,2,none⟩) (by first|(simp;done)|assumption)).trans (by go_simp)
  have cw1_3:w1.cell? ⟨w.heap.size,3,none⟩=some (.int .i64 a3):=(hb1.cell (p:=⟨w.heap.size,3,none⟩) (by first|(simp;done)|assumption)).trans (by go_simp)
  have cw1_4:w1.cell? ⟨w.heap.size,4,none⟩=some (.string a4):=(hb1.cell (p:=⟨w.heap.size,4,none⟩) (by first|(simp;done)|assumption)).trans (by go_simp)
  have cw1_5:w1.cell? ⟨w.heap.size,5,none⟩=some (.string a5):=(hb1.cell (p:=⟨w.heap.size,5,none⟩) (by first|(simp;done)|assumption)).trans (by go_simp)
  have cw1_6:w1.cell? ⟨w.heap.size,6,none⟩=some (.slice a6 a6n c6):=(hb1.cell (p:=⟨w.heap.size,6,none⟩) (by first|(simp;done)|assumption)).trans (by go_simp)
  have hs9:w.heap.size < w1.heap.size:=Nat.lt_of_lt_of_le (by simp) hb1.size
  have HB1:=yq (HB.out.trans (hb1.mono HB.out.size));clear hb1;go_wp2;go_ret;exact ⟨zh fin.out.symm,HB1.out⟩
 ·have HV:=yq (HYES.out rfl)
  go_enter Tryz.func174,Tryz.ntmps174
  (go_wp2_with fail);refine (HIN.out _).mono ?_;rintro e w0 ⟨rfl,rfl⟩;(go_wp2_with fail);refine (HBARE.out _).mono ?_;rintro e w1 ⟨rfl,hb1⟩
  have cw1_0:w1.cell? ⟨w.heap.size,0,none⟩=some (.int .i64 4):=(hb1.cell (p:=⟨w.heap.size,0,none⟩) (by first|(simp;done)|assumption)).trans (by go_simp)
  have cw1_1:w1.cell? ⟨w.heap.size,1,none⟩=some (.int .i64 a1):=(hb1.cell (p:=⟨w.heap.size,1,none⟩) (by first|(simp;done)|assumption)).trans (by go_simp)
  have cw1_2:w1.cell? ⟨w.heap.size,2,none⟩=some (.int .i64 a2):=(hb1.cell (p:=⟨w.heap.size,2,none⟩) (by first|(simp;done)|assumption)).trans (by go_simp)
  have cw1_3:w1.cell? ⟨w.heap.size,3,none⟩=some (.int .i64 a3):=(hb1.cell (p:=⟨w.heap.size,3,none⟩) (by first|(simp;done)|assumption)).trans (by go_simp)
  have cw1_4:w1.cell? ⟨w.heap.size,4,none⟩=some (.string a4):=(hb1.cell (p:=⟨w.heap.size,4,none⟩) (by first|(simp;done)|assumption)).trans (by go_simp)
  have cw1_5:w1.cell? ⟨w.heap.size,5,none⟩=some (.string a5):=(hb1.cell (p:=⟨w.heap.size,5,none⟩) (by first|(simp;done)|assumption)).trans (by go_simp)
  have cw1_6:w1.cell? ⟨w.heap.size,6,none⟩=some (.slice a6 a6n c6):=(hb1.cell (p:=⟨w.heap.size,6,none⟩) (by first|(simp;done)|assumption)).trans (by go_simp)
  have hs9:w.heap.size < w1.heap.size:=Nat.lt_of_lt_of_le (by simp) hb1.size
  have HB1:=yq (HB.out.trans (hb1.mono HB.out.size));clear hb1;(go_wp2_with fail);refine (HA.out _).mono ?_;rintro e w9 ⟨rfl,rfl⟩;go_wp2;go_ret
  exact ⟨zh (by rw [HV.out,HO2.out]),HB1.out⟩
theorem zn6 {a6:Option Addr} {c6:Nat} (x:DExpr) (hk:x.fh=5) (_:x.fd.size≤1048576) (_:x.fa.size≤1048576) (w:World) :
  Calls Tryz.prog 174 #[.agg #[.int .i64 x.fh,.int .i64 x.fN,.int .i64 x.fb,.int .i64 x.fk,.string x.fd,.string x.fa,.slice a6 x.fc.length c6]] w fun e w'=>e = .returned (.bool (zk (zf x 0)))∧Below w.heap.size w w':=by
 have hk2:(zf x 0).fh=5:=hk;have HO:=yq (zxo hk2)
 obtain ⟨bq,hb⟩ : ∃ bq:Bool,bq=true↔Bare (zf x 0):=by classical exact ⟨decide (Bare (zf x 0)),decide_eq_true_iff⟩
 have HBARE:=yq (fun W=>zob (a6:=a6) (c6:=c6) x hk bq hb W)
 have HYES:=yq (show bq=true→zk (zf x 0)=okN (zf x 0) from fun h=>zaz (by rw [hk2];decide) (hb.1 h))
 have HNO:=yq (show bq=false→zk (zf x 0)=false from fun h=>zj fun hB=>by rw [hb.2 hB] at h;cases h)
 have HIN:=yq (show ∀ W,Calls Tryz.prog 11 #[.int .i64 5,.int .i64 1,.int .i64 8] W fun e w'=>e = .returned (.bool true)∧W=w' from fun W=>by have h:=zaf 5 1 8 W;rw [show inR 5 1 8=true from by decide] at h;exact h)
 rw [show zf x 0=⟨x.fh,x.fN,x.fb,x.fk,x.fd,x.fa,x.fc.length,0⟩ from rfl] at HO
 generalize zk (zf x 0)=v at *;generalize hoq:okN (zf x 0)=q at *
 have HO2:=yq (show q=(true) from hoq.symm.trans (zxo hk2))
 clear hoq hb hk2 HO;rw [hk] at HBARE ⊢;clear hk;generalize x.fN=a1 at *;generalize x.fb=a2 at *;generalize x.fk=a3 at *;generalize x.fd=a4 at *;generalize x.fa=a5 at *;generalize x.fc.length=a6n at *;have HB:=yq ((Below.refl w.heap.size w).alloc (Nat.le_refl _) (.cells #[.int .i64 5,.int .i64 a1,.int .i64 a2,.int .i64 a3,.string a4,.string a5,.slice a6 a6n c6] 90))
 cases bq
 ·have fin:=yq (HNO.out rfl)
  go_enter Tryz.func174,Tryz.ntmps174
  (go_wp2_with fail);refine (HIN.out _).mono ?_;rintro e w0 ⟨rfl,rfl⟩;(go_wp2_with fail);refine (HBARE.out _).mono ?_;rintro e w1 ⟨rfl,hb1⟩
  have cw1_0:w1.cell? ⟨w.heap.size,0,none⟩=some (.int .i64 5):=(hb1.cell (p:=⟨w.heap.size,0,none⟩) (by first|(simp;done)|assumption)).trans (by go_simp)
  have cw1_1:w1.cell? ⟨w.heap.size,1,none⟩=some (.int .i64 a1):=(hb1.cell (p:=⟨w.heap.size,1,none⟩) (by first|(simp;done)|assumption)).trans (by go_simp)
  have cw1_2:w1.cell? ⟨w.heap.size,2,none⟩=some (.int .i64 a2):=(hb1.cell (p:=⟨w.heap.size,2,none⟩) (by first|(simp;done)|assumption)).trans (by go_simp)
  have cw1_3:w1.cell? ⟨w.heap.size,3,none⟩=some (.int .i64 a3):=(hb1.cell (p:=⟨w.heap.size,3,none⟩) (by first|(simp;done)|assumption)).trans (by go_simp)
  have cw1_4:w1.cell? ⟨w.heap.size,4,none⟩=some (.string a4):=(hb1.cell (p:=⟨w.heap.size,4,none⟩) (by first|(simp;done)|assumption)).trans (by go_simp)
  have cw1_5:w1.cell? ⟨w.heap.size,5,none⟩=some (.string a5):=(hb1.cell (p:=⟨w.heap.size,5,none⟩) (by first|(simp;done)|assumption)).trans (by go_simp)
  have cw1_6:w1.cell? ⟨w.heap.size,6,none⟩=some (.slice a6 a6n c6):=(hb1.cell (p:=⟨w.heap.size,6,none⟩) (by first|(simp;done)|assumption)).trans (by go_simp)
  have hs9:w.heap.size < w1.heap.size:=Nat.lt_of_lt_of_le (by simp) hb1.size
  have HB1:=yq (HB.out.trans (hb1.mono HB.out.size));clear hb1;go_wp2;go_ret;exact ⟨zh fin.out.symm,HB1.out⟩
 ·have HV:=yq (HYES.out rfl)
  go_enter Tryz.func174,Tryz.ntmps174
  (go_wp2_with fail);refine (HIN.out _).mono ?_;rintro e w0 ⟨rfl,rfl⟩;(go_wp2_with fail);refine (HBARE.out _).mono ?_;rintro e w1 ⟨rfl,hb1⟩
  have cw1_0:w1.cell? ⟨w.heap.size,0,none⟩=some (.int .i64 5):=(hb1.cell (p:=⟨w.heap.size,0,none⟩) (by first|(simp;done)|assumption)).trans (by go_simp)
  have cw1_1:w1.cell? ⟨w.heap.size,1,none⟩=some (.int .i64 a1):=(hb1.cell (p:=⟨w.heap.size,1,none⟩) (by first|(simp;done)|assumption)).trans (by go_simp)
  have cw1_2:w1.cell? ⟨w.heap.size,2,none⟩=some (.int .i64 a2):=(hb1.cell (p:=⟨w.heap.size,2,none⟩) (by first|(simp;done)|assumption)).trans (by go_simp)
  have cw1_3:w1.cell? ⟨w.heap.size,3,none⟩=some (.int .i64 a3):=(hb1.cell (p:=⟨w.heap.size,3,none⟩) (by first|(simp;done)|assumption)).trans (by go_simp)
  have cw1_4:w1.cell? ⟨w.heap.size,4,none⟩=some (.string a4):=(hb1.cell (p:=⟨w.heap.size,4,none⟩) (by first|(simp;done)|assumption)).trans (by go_simp)
  have cw1_5:w1.cell? ⟨w.heap.size,5,none⟩=some (.string a5):=(hb1.cell (p:=⟨w.heap.size,5,none⟩) (by first|(simp;done)|assumption)).trans (by go_simp)
  have cw1_6:w1.cell? ⟨w.heap.size,6,none⟩=some (.slice a6 a6n c6):=(hb1.cell (p:=⟨w.heap.size,6,none⟩) (by first|(simp;done)|assumption)).trans (by go_simp)
  have hs9:w.heap.size < w1.heap.size:=Nat.lt_of_lt_of_le (by simp) hb1.size
  have HB1:=yq (HB.out.trans (hb1.mono HB.out.size));clear hb1;go_wp2;go_ret
  exact ⟨zh (by rw [HV.out,HO2.out]),HB1.out⟩
theorem zoc {a6:Option Addr} {c6:Nat} (x:DExpr) (hk:x.fh=6) (_:x.fd.size≤1048576) (_:x.fa.size≤1048576) (w:World) :
  Calls Tryz.prog 174 #[.agg #[.int .i64 x.fh,.int .i64 x.fN,.int .i64 x.fb,.int .i64 x.fk,.string x.fd,.string x.fa,.slice a6 x.fc.length c6]] w fun e w'=>e = .returned (.bool (zk (zf x 0)))∧Below w.heap.size w w':=by
 have hk2:(zf x 0).fh=6:=hk;have HO:=yq (ztk hk2)
 obtain ⟨bq,hb⟩ : ∃ bq:Bool,bq=true↔Bare (zf x 0):=by classical exact ⟨decide (Bare (zf x 0)),decide_eq_true_iff⟩
 have HBARE:=yq (fun W=>znv (a6:=a6) (c6:=c6) x hk bq hb W)
 have HYES:=yq (show bq=true→zk (zf x 0)=okN (zf x 0) from fun h=>zaz (by rw [hk2];decide) (hb.1 h))
 have HNO:=yq (show bq=false→zk (zf x 0)=false from fun h=>zj fun hB=>by rw [hb.2 hB] at h;cases h)
 have HIN:=yq (show ∀ W,Calls Tryz.prog 11 #[.int .i64 6,.int .i64 1,.int .i64 8] W fun e w'=>e = .returned (.bool true)∧W=w' from fun W=>by have h:=zaf 6 1 8 W;rw [show inR 6 1 8=true from by decide] at h;exact h)
 have HA:=yq (fun W=>zaf x.fb 0 3 W)
 rw [show zf x 0=⟨x.fh,x.fN,x.fb,x.fk,x.fd,x.fa,x.fc.length,0⟩ from rfl] at HO
 generalize zk (zf x 0)=v at *;generalize hoq:okN (zf x 0)=q at *
 have HO2:=yq (show q=(inR x.fb 0 3) from hoq.symm.trans (ztk hk2))
 clear hoq hb hk2 HO;generalize inR x.fb 0 3=q1 at *;rw [hk] at HBARE ⊢;clear hk;generalize x.fN=a1 at *;generalize x.fb=a2 at *;generalize x.fk=a3 at *;generalize x.fd=a4 at *;generalize x.fa=a5 at *;generalize x.fc.length=a6n at *;have HB:=yq ((Below.refl w.heap.size w).alloc (Nat.le_refl _) (.cells #[.int .i64 6,.int .i64 a1,.int .i64 a2,.int .i64 a3,.string a4,.string a5,.slice a6 a6n c6] 90))
 cases bq
 ·have fin:=yq (HNO.out rfl)
  go_enter Tryz.func174,Tryz.ntmps174
  (go_wp2_with fail);refine (HIN.out _).mono ?_;rintro e w0 ⟨rfl,rfl⟩;(go_wp2_with fail);refine (HBARE.out _).mono ?_;rintro e w1 ⟨rfl,hb1⟩
  have cw1_0:w1.cell? ⟨w.heap.size,0,none⟩=some (.int .i64 6):=(hb1.cell (p:=⟨w.heap.size,0,none⟩) (by first|(simp;done)|assumption)).trans (by go_simp)
  have cw1_1:w1.cell? ⟨w.heap.size,1,none⟩=some (.int .i64 a1):=(hb1.cell (p:=⟨w.heap.size,1,none⟩) (by first|(simp;done)|assumption)).trans (by go_simp)
  have cw1_2:w1.cell? ⟨w.heap.size,2,none⟩=some (.int .i64 a2):=(hb1.cell (p:=⟨w.heap.size,2,none⟩) (by first|(simp;done)|assumption)).trans (by go_simp)
  have cw1_3:w1.cell? ⟨w.heap.size,3,none⟩=some (.int .i64 a3):=(hb1.cell (p:=⟨w.heap.size,3,none⟩) (by first|(simp;done)|assumption)).trans (by go_simp)
  have cw1_4:w1.cell? ⟨w.heap.size,4,none⟩=some (.string a4):=(hb1.cell (p:=⟨w.heap.size,4,none⟩) (by first|(simp;done)|assumption)).trans (by go_simp)
  have cw1_5:w1.cell? ⟨w.heap.size,5,none⟩=some (.string a5):=(hb1.cell (p:=⟨w.heap.size,5,none⟩) (by first|(simp;done)|assumption)).trans (by go_simp)
  have cw1_6:w1.cell? ⟨w.heap.size,6,none⟩=some (.slice a6 a6n c6):=(hb1.cell (p:=⟨w.heap.size,6,none⟩) (by first|(simp;done)|assumption)).trans (by go_simp)
  have hs9:w.heap.size < w1.heap.size:=Nat.lt_of_lt_of_le (by simp) hb1.size
  have HB1:=yq (HB.out.trans (hb1.mono HB.out.size));clear hb1;go_wp2;go_ret;exact ⟨zh fin.out.symm,HB1.out⟩
 ·have HV:=yq (HYES.out rfl)
  go_enter Tryz.func174,Tryz.ntmps174
  (go_wp2_with fail);refine (HIN.out _).mono ?_;rintro e w0 ⟨rfl,rfl⟩;(go_wp2_with fail);refine (HBARE.out _).mono ?_;rintro e w1 ⟨rfl,hb1⟩
  have cw1_0:w1.cell? ⟨w.heap.size,0,none⟩=some (.int .i64 6):=(hb1.cell (p:=⟨w.heap.size,0,none⟩) (by first|(simp;done)|assumption)).trans (by go_simp)
  have cw1_1:w1.cell? ⟨w.heap.size,1,none⟩=some (.int .i64 a1):=(hb1.cell (p:=⟨w.heap.size,1,none⟩) (by first|(simp;done)|assumption)).trans (by go_simp)
  have cw1_2:w1.cell? ⟨w.heap.size,2,none⟩=some (.int .i64 a2):=(hb1.cell (p:=⟨w.heap.size,2,none⟩) (by first|(simp;done)|assumption)).trans (by go_simp)
  have cw1_3:w1.cell? ⟨w.heap.size,3,none⟩=some (.int .i64 a3):=(hb1.cell (p:=⟨w.heap.size,3,none⟩) (by first|(simp;done)|assumption)).trans (by go_simp)
  have cw1_4:w1.cell? ⟨w.heap.size,4,none⟩=some (.string a4):=(hb1.cell (p:=⟨w.heap.size,4,none⟩) (by first|(simp;done)|assumption)).trans (by go_simp)
  have cw1_5:w1.cell? ⟨w.heap.size,5,none⟩=some (.string a5):=(hb1.cell (p:=⟨w.heap.size,5,none⟩) (by first|(simp;done)|assumption)).trans (by go_simp)
  have cw1_6:w1.cell? ⟨w.heap.size,6,none⟩=some (.slice a6 a6n c6):=(hb1.cell (p:=⟨w.heap.size,6,none⟩) (by first|(simp;done)|assumption)).trans (by go_simp)
  have hs9:w.heap.size < w1.heap.size:=Nat.lt_of_lt_of_le (by simp) hb1.size
  have HB1:=yq (HB.out.trans (hb1.mono HB.out.size));clear hb1;(go_wp2_with fail);refine (HA.out _).mono ?_;rintro e w9 ⟨rfl,rfl⟩;go_wp2;go_ret
  exact ⟨zh (by rw [HV.out,HO2.out]),HB1.out⟩
theorem zns {a6:Option Addr} {c6:Nat} (x:DExpr) (hk:x.fh=7) (_:x.fd.size≤1048576) (_:x.fa.size≤1048576) (w:World) :
  Calls Tryz.prog 174 #[.agg #[.int .i64 x.fh,.int .i64 x.fN,.int .i64 x.fb,.int .i64 x.fk,.string x.fd,.string x.fa,.slice a6 x.fc.length c6]] w fun e w'=>e = .returned (.bool (zk (zf x 0)))∧Below w.heap.size w w':=by
 have hk2:(zf x 0).fh=7:=hk;have HO:=yq (zw3 hk2)
 obtain ⟨bq,hb⟩ : ∃ bq:Bool,bq=true↔Bare (zf x 0):=by classical exact ⟨decide (Bare (zf x 0)),decide_eq_true_iff⟩
 have HBARE:=yq (fun W=>znu (a6:=a6) (c6:=c6) x hk bq hb W)
 have HYES:=yq (show bq=true→zk (zf x 0)=okN (zf x 0) from fun h=>zaz (by rw [hk2];decide) (hb.1 h))
 have HNO:=yq (show bq=false→zk (zf x 0)=false from fun h=>zj fun hB=>by rw [hb.2 hB] at h;cases h)
 have HIN:=yq (show ∀ W,Calls Tryz.prog 11 #[.int .i64 7,.int .i64 1,.int .i64 8] W fun e w'=>e = .returned (.bool true)∧W=w' from fun W=>by have h:=zaf 7 1 8 W;rw [show inR 7 1 8=true from by decide] at h;exact h)
 rw [show zf x 0=⟨x.fh,x.fN,x.fb,x.fk,x.fd,x.fa,x.fc.length,0⟩ from rfl] at HO
 generalize zk (zf x 0)=v at *;generalize hoq:okN (zf x 0)=q at *
 have HO2:=yq (show q=(true) from hoq.symm.trans (zw3 hk2))
 clear hoq hb hk2 HO;rw [hk] at HBARE ⊢;clear hk;generalize x.fN=a1 at *;generalize x.fb=a2 at *;generalize x.fk=a3 at *;generalize x.fd=a4 at *;generalize x.fa=a5 at *;generalize x.fc.length=a6n at *;have HB:=yq ((Below.refl w.heap.size w).alloc (Nat.le_refl _) (.cells #[.int .i64 7,.int .i64 a1,.int .i64 a2,.int .i64 a3,.string a4,.string a5,.slice a6 a6n c6] 90))
 cases bq
 ·have fin:=yq (HNO.out rfl)
  go_enter Tryz.func174,Tryz.ntmps174
  (go_wp2_with fail);refine (HIN.out _).mono ?_;rintro e w0 ⟨rfl,rfl⟩;(go_wp2_with fail);refine (HBARE.out _).mono ?_;rintro e w1 ⟨rfl,hb1⟩
  have cw1_0:w1.cell? ⟨w.heap.size,0,none⟩=some (.int .i64 7):=(hb1.cell (p:=⟨w.heap.size,0,none⟩) (by first|(simp;done)|assumption)).trans (by go_simp)
  have cw1_1:w1.cell? ⟨w.heap.size,1,none⟩=some (.int .i64 a1):=(hb1.cell (p:=⟨w.heap.size,1,none⟩) (by first|(simp;done)|assumption)).trans (by go_simp)
  have cw1_2:w1.cell? ⟨w.heap.size,2,none⟩=some (.int .i64 a2):=(hb1.cell (p:=⟨w.heap.size,2,none⟩) (by first|(simp;done)|assumption)).trans (by go_simp)
  have cw1_3:w1.cell? ⟨w.heap.size,3,none⟩=some (.int .i64 a3):=(hb1.cell (p:=⟨w.heap.size,3,none⟩) (by first|(simp;done)|assumption)).trans (by go_simp)
  have cw1_4:w1.cell? ⟨w.heap.size,4,none⟩=some (.string a4):=(hb1.cell (p:=⟨w.heap.size,4,none⟩) (by first|(simp;done)|assumption)).trans (by go_simp)
  have cw1_5:w1.cell? ⟨w.heap.size,5,none⟩=some (.string a5):=(hb1.cell (p:=⟨w.heap.size,5,none⟩) (by first|(simp;done)|assumption)).trans (by go_simp)
  have cw1_6:w1.cell? ⟨w.heap.size,6,none⟩=some (.slice a6 a6n c6):=(hb1.cell (p:=⟨w.heap.size,6,none⟩) (by first|(simp;done)|assumption)).trans (by go_simp)
  have hs9:w.heap.size < w1.heap.size:=Nat.lt_of_lt_of_le (by simp) hb1.size
  have HB1:=yq (HB.out.trans (hb1.mono HB.out.size));clear hb1;go_wp2;go_ret;exact ⟨zh fin.out.symm,HB1.out⟩
 ·have HV:=yq (HYES.out rfl)
  go_enter Tryz.func174,Tryz.ntmps174
  (go_wp2_with fail);refine (HIN.out _).mono ?_;rintro e w0 ⟨rfl,rfl⟩;(go_wp2_with fail);refine (HBARE.out _).mono ?_;rintro e w1 ⟨rfl,hb1⟩
  have cw1_0:w1.cell? ⟨w.heap.size,0,none⟩=some (.int .i64 7):=(hb1.cell (p:=⟨w.heap.size,0,none⟩) (by first|(simp;done)|assumption)).trans (by go_simp)
  have cw1_1:w1.cell? ⟨w.heap.size,1,none⟩=some (.int .i64 a1):=(hb1.cell (p:=⟨w.heap.size,1,none⟩) (by first|(simp;done)|assumption)).trans (by go_simp)
  have cw1_2:w1.cell? ⟨w.heap.size,2,none⟩=some (.int .i64 a2):=(hb1.cell (p:=⟨w.heap.size,2,none⟩) (by first|(simp;done)|assumption)).trans (by go_simp)
  have cw1_3:w1.cell? ⟨w.heap.size,3,none⟩=some (.int .i64 a3):=(hb1.cell (p:=⟨w.heap.size,3,none⟩) (by first|(simp;done)|assumption)).trans (by go_simp)
  have cw1_4:w1.cell? ⟨w.heap.size,4,none⟩=some (.string a4):=(hb1.cell (p:=⟨w.heap.size,4,none⟩) (by first|(simp;done)|assumption)).trans (by go_simp)
  have cw1_5:w1.cell? ⟨w.heap.size,5,none⟩=some (.string a5):=(hb1.cell (p:=⟨w.heap.size,5,none⟩) (by first|(simp;done)|assumption)).trans (by go_simp)
  have cw1_6:w1.cell? ⟨w.heap.size,6,none⟩=some (.slice a6 a6n c6):=(hb1.cell (p:=⟨w.heap.size,6,none⟩) (by first|(simp;done)|assumption)).trans (by go_simp)
  have hs9:w.heap.size < w1.heap.size:=Nat.lt_of_lt_of_le (by simp) hb1.size
  have HB1:=yq (HB.out.trans (hb1.mono HB.out.size));clear hb1;go_wp2;go_ret
  exact ⟨zh (by rw [HV.out,HO2.out]),HB1.out⟩
theorem zo2 {a6:Option Addr} {c6:Nat} (x:DExpr) (hk:x.fh=8) (hs1:x.fd.size≤1048576) (hs2:x.fa.size≤1048576) (w:World) :
  Calls Tryz.prog 174 #[.agg #[.int .i64 x.fh,.int .i64 x.fN,.int .i64 x.fb,.int .i64 x.fk,.string x.fd,.string x.fa,.slice a6 x.fc.length c6]] w fun e w'=>e = .returned (.bool (zk (zf x 0)))∧Below w.heap.size w w':=by
 have hk2:(zf x 0).fh=8:=hk;have HO:=yq (zxk hk2)
 obtain ⟨bq,hb⟩ : ∃ bq:Bool,bq=true↔Bare (zf x 0):=by classical exact ⟨decide (Bare (zf x 0)),decide_eq_true_iff⟩
 have HBARE:=yq (fun W=>zoh (a6:=a6) (c6:=c6) x hk bq hb W)
 have HYES:=yq (show bq=true→zk (zf x 0)=okN (zf x 0) from fun h=>zaz (by rw [hk2];decide) (hb.1 h))
 have HNO:=yq (show bq=false→zk (zf x 0)=false from fun h=>zj fun hB=>by rw [hb.2 hB] at h;cases h)
 have HIN:=yq (show ∀ W,Calls Tryz.prog 11 #[.int .i64 8,.int .i64 1,.int .i64 8] W fun e w'=>e = .returned (.bool true)∧W=w' from fun W=>by have h:=zaf 8 1 8 W;rw [show inR 8 1 8=true from by decide] at h;exact h)
 have HA:=yq (fun W=>zag x.fd hs1 W)
 have HT:=yq (fun W=>zag x.fa hs2 W)
 rw [show zf x 0=⟨x.fh,x.fN,x.fb,x.fk,x.fd,x.fa,x.fc.length,0⟩ from rfl] at HO
 generalize zk (zf x 0)=v at *;generalize hoq:okN (zf x 0)=q at *
 have HO2:=yq (show q=(zi x.fd && zi x.fa) from hoq.symm.trans (zxk hk2))
 clear hoq hb hk2 HO;generalize zi x.fd=q1 at *;generalize zi x.fa=q2 at *;rw [hk] at HBARE ⊢;clear hk;generalize x.fN=a1 at *;generalize x.fb=a2 at *;generalize x.fk=a3 at *;generalize x.fd=a4 at *;generalize x.fa=a5 at *;generalize x.fc.length=a6n at *;have HB:=yq ((Below.refl w.heap.size w).alloc (Nat.le_refl _) (.cells #[.int .i64 8,.int .i64 a1,.int .i64 a2,.int .i64 a3,.string a4,.string a5,.slice a6 a6n c6] 90))
 cases bq
 ·have fin:=yq (HNO.out rfl)
  go_enter Tryz.func174,Tryz.ntmps174
  (go_wp2_with fail);refine (HIN.out _).mono ?_;rintro e w0 ⟨rfl,rfl⟩;(go_wp2_with fail);refine (HBARE.out _).mono ?_;rintro e w1 ⟨rfl,hb1⟩
  have cw1_0:w1.cell? ⟨w.heap.size,0,none⟩=some (.int .i64 8):=(hb1.cell (p:=⟨w.heap.size,0,none⟩) (by first|(simp;done)|assumption)).trans (by go_simp)
  have cw1_1:w1.cell? ⟨w.heap.size,1,none⟩=some (.int .i64 a1):=(hb1.cell (p:=⟨w.heap.size,1,none⟩) (by first|(simp;done)|assumption)).trans (by go_simp)
  have cw1_2:w1.cell? ⟨w.heap.size,2,none⟩=some (.int .i64 a2):=(hb1.cell (p:=⟨w.heap.size,2,none⟩) (by first|(simp;done)|assumption)).trans (by go_simp)
  have cw1_3:w1.cell? ⟨w.heap.size,3,none⟩=some (.int .i64 a3):=(hb1.cell (p:=⟨w.heap.size,3,none⟩) (by first|(simp;done)|assumption)).trans (by go_simp)
  have cw1_4:w1.cell? ⟨w.heap.size,4,none⟩=some (.string a4):=(hb1.cell (p:=⟨w.heap.size,4,none⟩) (by first|(simp;done)|assumption)).trans (by go_simp)
  have cw1_5:w1.cell? ⟨w.heap.size,5,none⟩=some (.string a5):=(hb1.cell (p:=⟨w.heap.size,5,none⟩) (by first|(simp;done)|assumption)).trans (by go_simp)
  have cw1_6:w1.cell? ⟨w.heap.size,6,none⟩=some (.slice a6 a6n c6):=(hb1.cell (p:=⟨w.heap.size,6,none⟩) (by first|(simp;done)|assumption)).trans (by go_simp)
  have hs9:w.heap.size < w1.heap.size:=Nat.lt_of_lt_of_le (by simp) hb1.size
  have HB1:=yq (HB.out.trans (hb1.mono HB.out.size));clear hb1;go_wp2;go_ret;exact ⟨zh fin.out.symm,HB1.out⟩
 ·have HV:=yq (HYES.out rfl)
  cases q1
  ·skip
   go_enter Tryz.func174,Tryz.ntmps174
   (go_wp2_with fail);refine (HIN.out _).mono ?_;rintro e w0 ⟨rfl,rfl⟩;(go_wp2_with fail);refine (HBARE.out _).mono ?_;rintro e w1 ⟨rfl,hb1⟩
   have cw1_0:w1.cell? ⟨w.heap.size,0,none⟩=some (.int .i64 8):=(hb1.cell (p:=⟨w.heap.size,0,none⟩) (by first|(simp;done)|assumption)).trans (by go_simp)
   have cw1_1:w1.cell? ⟨w.heap.size,1,none⟩=some (.int .i64 a1):=(hb1.cell (p:=⟨w.heap.size,1,none⟩) (by first|(simp;done)|assumption)).trans (by go_simp)
   have cw1_2:w1.cell? ⟨w.heap.size,2,none⟩=some (.int .i64 a2):=(hb1.cell (p:=⟨w.heap.size,2,none⟩) (by first|(simp;done)|assumption)).trans (by go_simp)
   have cw1_3:w1.cell? ⟨w.heap.size,3,none⟩=some (.int .i64 a3):=(hb1.cell (p:=⟨w.heap.size,3,none⟩) (by first|(simp;done)|assumption)).trans (by go_simp)
   have cw1_4:w1.cell? ⟨w.heap.size,4,none⟩=some (.string a4):=(hb1.cell (p:=⟨w.heap.size,4,none⟩) (by first|(simp;done)|assumption)).trans (by go_simp)
   have cw1_5:w1.cell? ⟨w.heap.size,5,none⟩=some (.string a5):=(hb1.cell (p:=⟨w.heap.size,5,none⟩) (by first|(simp;done)|assumption)).trans (by go_simp)
   have cw1_6:w1.cell? ⟨w.heap.size,6,none⟩=some (.slice a6 a6n c6):=(hb1.cell (p:=⟨w.heap.size,6,none⟩) (by first|(simp;done)|assumption)).trans (by go_simp)
   have hs9:w.heap.size < w1.heap.size:=Nat.lt_of_lt_of_le (by simp) hb1.size
   have HB1:=yq (HB.out.trans (hb1.mono HB.out.size));clear hb1;(go_wp2_with fail);refine (HA.out _).mono ?_;rintro e w2 ⟨rfl,hb2⟩
   have cw2_0:w2.cell? ⟨w.heap.size,0,none⟩=some (.int .i64 8):=(hb2.cell (p:=⟨w.heap.size,0,none⟩) (by first|(simp;done)|assumption)).trans cw1_0
   have cw2_1:w2.cell? ⟨w.heap.size,1,none⟩=some (.int .i64 a1):=(hb2.cell (p:=⟨w.heap.size,1,none⟩) (by first|(simp;done)|assumption)).trans cw1_1
   have cw2_2:w2.cell? ⟨w.heap.size,2,none⟩=some (.int .i64 a2):=(hb2.cell (p:=⟨w.heap.size,2,none⟩) (by first|(simp;done)|assumption)).trans cw1_2
   have cw2_3:w2.cell? ⟨w.heap.size,3,none⟩=some (.int .i64 a3):=(hb2.cell (p:=⟨w.heap.size,3,none⟩) (by first|(simp;done)|assumption)).trans cw1_3
   have cw2_4:w2.cell? ⟨w.heap.size,4,none⟩=some (.string a4):=(hb2.cell (p:=⟨w.heap.size,4,none⟩) (by first|(simp;done)|assumption)).trans cw1_4
   have cw2_5:w2.cell? ⟨w.heap.size,5,none⟩=some (.string a5):=(hb2.cell (p:=⟨w.heap.size,5,none⟩) (by first|(simp;done)|assumption)).trans cw1_5
   have cw2_6:w2.cell? ⟨w.heap.size,6,none⟩=some (.slice a6 a6n c6):=(hb2.cell (p:=⟨w.heap.size,6,none⟩) (by first|(simp;done)|assumption)).trans cw1_6
   have HB2:=yq (HB1.out.trans (hb2.mono HB1.out.size));clear hb2;go_wp2;go_ret
   exact ⟨zh (by rw [HV.out,HO2.out];rfl),HB2.out⟩
  ·skip
   go_enter Tryz.func174,Tryz.ntmps174
   (go_wp2_with fail);refine (HIN.out _).mono ?_;rintro e w0 ⟨rfl,rfl⟩;(go_wp2_with fail);refine (HBARE.out _).mono ?_;rintro e w1 ⟨rfl,hb1⟩
   have cw1_0:w1.cell? ⟨w.heap.size,0,none⟩=some (.int .i64 8):=(hb1.cell (p:=⟨w.heap.size,0,none⟩) (by first|(simp;done)|assumption)).trans (by go_simp)
   have cw1_1:w1.cell? ⟨w.heap.size,1,none⟩=some (.int .i64 a1):=(hb1.cell (p:=⟨w.heap.size,1,none⟩) (by first|(simp;done)|assumption)).trans (by go_simp)
   have cw1_2:w1.cell? ⟨w.heap.size,2,none⟩=some (.int .i64 a2):=(hb1.cell (p:=⟨w.heap.size,2,none⟩) (by first|(simp;done)|assumption)).trans (by go_simp)
   have cw1_3:w1.cell? ⟨w.heap.size,3,none⟩=some (.int .i64 a3):=(hb1.cell (p:=⟨w.heap.size,3,none⟩) (by first|(simp;done)|assumption)).trans (by go_simp)
   have cw1_4:w1.cell? ⟨w.heap.size,4,none⟩=some (.string a4):=(hb1.cell (p:=⟨w.heap.size,4,none⟩) (by first|(simp;done)|assumption)).trans (by go_simp)
   have cw1_5:w1.cell? ⟨w.heap.size,5,none⟩=some (.string a5):=(hb1.cell (p:=⟨w.heap.size,5,none⟩) (by first|(simp;done)|assumption)).trans (by go_simp)
   have cw1_6:w1.cell? ⟨w.heap.size,6,none⟩=some (.slice a6 a6n c6):=(hb1.cell (p:=⟨w.heap.size,6,none⟩) (by first|(simp;done)|assumption)).trans (by go_simp)
   have hs9:w.heap.size < w1.heap.size:=Nat.lt_of_lt_of_le (by simp) hb1.size
   have HB1:=yq (HB.out.trans (hb1.mono HB.out.size));clear hb1;(go_wp2_with fail);refine (HA.out _).mono ?_;rintro e w2 ⟨rfl,hb2⟩
   have cw2_0:w2.cell? ⟨w.heap.size,0,none⟩=some (.int .i64 8):=(hb2.cell (p:=⟨w.heap.size,0,none⟩) (by first|(simp;done)|assumption)).trans cw1_0
   have cw2_1:w2.cell? ⟨w.heap.size,1,none⟩=some (.int .i64 a1):=(hb2.cell (p:=⟨w.heap.size,1,none⟩) (by first|(simp;done)|assumption)).trans cw1_1
   have cw2_2:w2.cell? ⟨w.heap.size,2,none⟩=some (.int .i64 a2):=(hb2.cell (p:=⟨w.heap.size,2,none⟩) (by first|(simp;done)|assumption)).trans cw1_2
   have cw2_3:w2.cell? ⟨w.heap.size,3,none⟩=some (.int .i64 a3):=(hb2.cell (p:=⟨w.heap.size,3,none⟩) (by first|(simp;done)|assumption)).trans cw1_3
   have cw2_4:w2.cell? ⟨w.heap.size,4,none⟩=some (.string a4):=(hb2.cell (p:=⟨w.heap.size,4,none⟩) (by first|(simp;done)|assumption)).trans cw1_4
   have cw2_5:w2.cell? ⟨w.heap.size,5,none⟩=some (.string a5):=(hb2.cell (p:=⟨w.heap.size,5,none⟩) (by first|(simp;done)|assumption)).trans cw1_5
   have cw2_6:w2.cell? ⟨w.heap.size,6,none⟩=some (.slice a6 a6n c6):=(hb2.cell (p:=⟨w.heap.size,6,none⟩) (by first|(simp;done)|assumption)).trans cw1_6
   have HB2:=yq (HB1.out.trans (hb2.mono HB1.out.size));clear hb2;(go_wp2_with fail);refine (HT.out _).mono ?_;rintro e w3 ⟨rfl,hb3⟩;have HB3:=yq (HB2.out.trans (hb3.mono HB2.out.size));clear hb3;go_wp2;go_ret
   exact ⟨zh (by rw [HV.out,HO2.out];simp),HB3.out⟩
theorem zre {a6:Option Addr} {c6:Nat} (x:DExpr) (hs1:x.fd.size≤1048576) (hs2:x.fa.size≤1048576) (w:World) :
  Calls Tryz.prog 174 #[.agg #[.int .i64 x.fh,.int .i64 x.fN,.int .i64 x.fb,.int .i64 x.fk,.string x.fd,.string x.fa,.slice a6 x.fc.length c6]] w fun e w'=>e = .returned (.bool (zk (zf x 0)))∧Below w.heap.size w w':=by
 cases hk:inR x.fh 1 8
 ·have fin:=yq (zj8 (n:=zf x 0) hk)
  have HB:=yq ((Below.refl w.heap.size w).alloc (Nat.le_refl _) (.cells #[.int .i64 x.fh,.int .i64 x.fN,.int .i64 x.fb,.int .i64 x.fk,.string x.fd,.string x.fa,.slice a6 x.fc.length c6] 90))
  have HIN:=yq (show ∀ W,Calls Tryz.prog 11 #[.int .i64 x.fh,.int .i64 1,.int .i64 8] W fun e w'=>e = .returned (.bool false)∧W=w' from fun W=>by have h:=zaf x.fh 1 8 W;rw [hk] at h;exact h)
  clear hk
  go_enter Tryz.func174,Tryz.ntmps174
  (go_wp2_with fail);refine (HIN.out _).mono ?_;rintro e w0 ⟨rfl,rfl⟩;go_wp2;go_ret;exact ⟨zh fin.out.symm,HB.out⟩
 ·have h:=zhw.1 hk
  rcases (by omega:x.fh=1∨x.fh=2∨x.fh=3∨x.fh=4∨x.fh=5∨x.fh=6∨x.fh=7∨x.fh=8) with g|g|g|g|g|g|g|g
  ·exact zod x g hs1 hs2 w
  ·exact zo6 x g hs1 hs2 w
  ·exact zn3 x g hs1 hs2 w
  ·exact zor x g hs1 hs2 w
  ·exact zn6 x g hs1 hs2 w
  ·exact zoc x g hs1 hs2 w
  ·exact zns x g hs1 hs2 w
  ·exact zo2 x g hs1 hs2 w
noncomputable def inv (n:ENode):Bool:=!zk n
noncomputable def invX (x:DExpr):Bool:=(zu x 0).any inv
theorem zgu : ∀ (x:DExpr) (d:Nat),(zu x d).any inv=invX x:=by
 intro x
 refine DExpr.ind (P:=fun x=>∀ d,(zu x d).any inv=invX x) (fun x ih d=>?_) x
 unfold invX
 rw [za2,za2,List.any_cons,List.any_cons,zj0 (fun a=>∀ d,(zu a d).any inv=invX a) _ _ (fun _ h=>h) _ _ ih,zj0 (fun a=>∀ d,(zu a d).any inv=invX a) _ _ (fun _ h=>h) _ _ ih]
 rfl
theorem zu6 (x:DExpr):invX x=(inv (zf x 0) || x.fc.any invX):=by
 have h:=zgu x 0
 rw [za2,List.any_cons,zj0 (fun _=>True) _ _ (fun x _=>zgu x) _ _ fun _ _=>trivial] at h
 exact h.symm
noncomputable def za9 (x:DExpr):Bool:=decide (cntX x≤24) && decide (depX x≤6) && !invX x
theorem zni (P:DExpr→Prop) (hP : ∀ x,P x → ∀ d,∀ n ∈ zu x d,n.fd.size≤x.sz∧n.fa.size≤x.sz) (d:Nat) : ∀ l:List DExpr,(∀ a ∈ l,P a) → ∀ n ∈ zca l d,n.fd.size≤(l.map DExpr.sz).sum∧n.fa.size≤(l.map DExpr.sz).sum
 | [],_,_,h=>by cases h
 | e :: es,h,n,hn=>by
  have hn':n ∈ zu e d ++ zca es d:=hn;rw [List.map_cons,List.sum_cons]
  rcases List.mem_append.1 hn' with hn|hn
  ·have:=hP e (h e (List.mem_cons_self ..)) d n hn
   omega
  ·have:=zni P hP d es (fun a ha=>h a (List.mem_cons_of_mem _ ha)) n hn
   omega
theorem zqx : ∀ (x:DExpr) (d:Nat),∀ n ∈ zu x d,n.fd.size≤x.sz∧n.fa.size≤x.sz:=by
 intro x
 refine DExpr.ind (P:=fun x=>∀ d,∀ n ∈ zu x d,n.fd.size≤x.sz∧n.fa.size≤x.sz) (fun x ih d n hn=>?_) x
 rw [za2] at hn;rw [DExpr.sz_eq]
 unfold lsz
 rcases List.mem_cons.1 hn with rfl|hn
 ·show x.fd.size≤_∧x.fa.size≤_
  omega
 ·have:=zni _ (fun _ h=>h) (d+1) x.fc ih n hn
  omega
def zk7 (x:DExpr):Prop:=∀ ⦃lo hi c6:Nat⦄ ⦃a6:Option Addr⦄ (_hsz:x.sz≤1048576) (w:World) (_hhi:hi≤w.heap.size) (_hs6:Sl lo hi w 7 x.fc.length (ctE x.fc) a6),
 Calls Tryz.prog 139 #[.agg #[.int .i64 x.fh,.int .i64 x.fN,.int .i64 x.fb,.int .i64 x.fk,.string x.fd,.string x.fa,.slice a6 x.fc.length c6]] w fun e w'=>e = .returned (.bool (!invX x))∧Below w.heap.size w w'
theorem zml (x:DExpr) (ih : ∀ a ∈ x.fc,zk7 a):zk7 x:=by
 intro lo hi c6 a6 hsz w hhi hs6
 have hn:x.fc.length≤1048576:=by have h:=hsz;rw [DExpr.sz_eq] at h;unfold lsz at h;omega
 have HZ:=yq hsz;have IH:=yq ih;have HS:=yq hs6;have hW0:Below w.heap.size w (w.alloc (.cells #[.int .i64 x.fh,.int .i64 x.fN,.int .i64 x.fb,.int .i64 x.fk,.string x.fd,.string x.fa,.slice a6 x.fc.length c6] 90)):=(Below.refl _ _).alloc (Nat.le_refl _) _;have HW0:=yq hW0;clear hsz ih hs6 hW0
 go_enter Tryz.func139,Tryz.ntmps139
 go_wp2
 go_loopw [3] (fun i wr=>∃ k:Nat,k≤x.fc.length∧i = .int .i64 (k:Int)∧zah invX x.fc k∧Below (w.heap.size+1) (w.alloc (.cells #[.int .i64 x.fh,.int .i64 x.fN,.int .i64 x.fb,.int .i64 x.fk,.string x.fd,.string x.fa,.slice a6 x.fc.length c6] 90)) wr) (fun i _=>x.fc.length - (intOf i).toNat)
 case atStart=>exact ⟨0,Nat.zero_le _,rfl,zx _ _,Below.refl _ _⟩
 case round =>
  obtain ⟨k,hk,rfl,hno,hbl⟩:=hrel;have HB:=yq hbl
  have p6:wr.cell? ⟨w.heap.size,6,none⟩=some (.slice a6 x.fc.length c6):=(hbl.cell (p:=⟨w.heap.size,6,none⟩) (Nat.lt_succ_self _)).trans (by go_simp)
  have hbw:Below w.heap.size w wr:=HW0.out.trans (hbl.mono (Nat.le_succ _));have HBW:=yq hbw
  have hsz1:w.heap.size+1≤wr.heap.size:=Nat.le_trans (by simp) hbl.size
  clear hbl
  by_cases hlt:k < x.fc.length
  ·obtain ⟨rb,ro,rfl,_,hrb,hc⟩:=(HS.out.later (hbw.mono hhi) (Nat.le_refl _)).at k hlt
   rw [zb6 hlt] at hc;obtain ⟨a9,c9,hc0,hc1,hc2,hc3,hc4,hc5,hc6,hs9⟩:=DExpr.open hc;have hszk:=zab (f:=DExpr.sz) x.fc k hlt;have hszx:=HZ.out;rw [DExpr.sz_eq] at hszx;have IK:=yq (IH.out _ (zbg hlt));clear hbw hc
   have HC:=yq (fun (W:World) (hW:Below wr.heap.size wr W)=>IK.out (c6:=c9) (by omega) W (Nat.le_trans hhi (Nat.le_trans HBW.out.size hW.size)) (hs9.later (hW.mono (Nat.le_trans hhi HBW.out.size)) (Nat.le_refl _)))
   have HNO:=yq hno;clear hs9 hszk hszx hno
   cases hr:invX (x.fc.getD k default)
   ·have HPS:=yq (zt HNO.out hr)
    rw [hr] at HC;clear hr;generalize x.fc.getD k default=y at *;(go_wp2_with fail);refine (HC.out _ (Below.refl _ _)).mono ?_;rintro e w1 ⟨rfl,hb1⟩;have HB1:=yq (HB.out.trans (hb1.mono hsz1));clear hb1;go_wp2;go_roundw
    case rel=>exact ⟨k+1,by omega,by go_num,HPS.out,HB1.out⟩
    case measure=>simp [intOf];omega
   ·have FIN:=yq (show (!invX x)=false by rw [zu6,zxv hlt hr,Bool.or_true];rfl)
    rw [hr] at HC;clear hr;generalize x.fc.getD k default=y at *;(go_wp2_with fail);refine (HC.out _ (Below.refl _ _)).mono ?_;rintro e w1 ⟨rfl,hb1⟩;have HB1:=yq (HBW.out.trans (hb1.mono HBW.out.size));clear hb1;go_wp2;go_ret;exact ⟨zh FIN.out.symm,HB1.out⟩
  ·obtain rfl:k=x.fc.length:=by omega
   clear hbw
   have FIN:=yq (show zk (zf x 0) = !invX x by rw [zu6,zwd hno,Bool.or_false];unfold inv;rw [Bool.not_not])
   have hszx:=HZ.out;rw [DExpr.sz_eq] at hszx
   have HN:=yq (fun W=>zre (a6:=a6) (c6:=c6) x (by omega) (by omega) W)
   have p0:wr.cell? ⟨w.heap.size,0,none⟩=some (.int .i64 x.fh):=(HB.out.cell (p:=⟨w.heap.size,0,none⟩) (Nat.lt_succ_self _)).trans (by go_simp)
   have p1:wr.cell? ⟨w.heap.size,1,none⟩=some (.int .i64 x.fN):=(HB.out.cell (p:=⟨w.heap.size,1,none⟩) (Nat.lt_succ_self _)).trans (by go_simp)
   have p2:wr.cell? ⟨w.heap.size,2,none⟩=some (.int .i64 x.fb):=(HB.out.cell (p:=⟨w.heap.size,2,none⟩) (Nat.lt_succ_self _)).trans (by go_simp)
   have p3:wr.cell? ⟨w.heap.size,3,none⟩=some (.int .i64 x.fk):=(HB.out.cell (p:=⟨w.heap.size,3,none⟩) (Nat.lt_succ_self _)).trans (by go_simp)
   have p4:wr.cell? ⟨w.heap.size,4,none⟩=some (.string x.fd):=(HB.out.cell (p:=⟨w.heap.size,4,none⟩) (Nat.lt_succ_self _)).trans (by go_simp)
   have p5:wr.cell? ⟨w.heap.size,5,none⟩=some (.string x.fa):=(HB.out.cell (p:=⟨w.heap.size,5,none⟩) (Nat.lt_succ_self _)).trans (by go_simp)
   clear hno hszx;generalize zk (zf x 0)=vv at *;(go_wp2_with fail);refine (HN.out _).mono ?_;rintro e w1 ⟨rfl,hb1⟩;have HB1:=yq (HBW.out.trans (hb1.mono HBW.out.size));clear hb1;go_wp2;go_ret;exact ⟨zh FIN.out,HB1.out⟩
theorem zs9 {lo hi c0_0:Nat} {a6:Option Addr} (x:DExpr) (_:x.ok) (hsz:x.sz≤1048576) (w:World) (hhi:hi≤w.heap.size) (hs6:Sl lo hi w 7 x.fc.length (ctE x.fc) a6) :
  Calls Tryz.prog 139 #[.agg #[.int .i64 x.fh,.int .i64 x.fN,.int .i64 x.fb,.int .i64 x.fk,.string x.fd,.string x.fa,.slice a6 x.fc.length c0_0]] w fun e w'=>e = .returned (.bool (!invX x))∧Below w.heap.size w w' :=
 DExpr.ind (P:=zk7) zml x hsz w hhi hs6
def zl7 (n:Nat) (q:Int):Int:=if (n:Int)≤q then q - n else -1
theorem zhj {n:Nat} {q:Int} (h:(n:Int)≤q):zl7 n q=q - n:=if_pos h
theorem zjp {n:Nat} {q:Int} (h:q < (n:Int)):zl7 n q = -1:=if_neg (by omega)
def zo4 (x:DExpr):Prop:=∀ (q:Int) ⦃lo hi c6:Nat⦄ ⦃a6:Option Addr⦄ (_hq0:0≤q) (_hq1:q≤1048576) (_hsz:x.sz≤1048576) (w:World) (_hhi:hi≤w.heap.size) (_hs6:Sl lo hi w 7 x.fc.length (ctE x.fc) a6),
 Calls Tryz.prog 137 #[.agg #[.int .i64 x.fh,.int .i64 x.fN,.int .i64 x.fb,.int .i64 x.fk,.string x.fd,.string x.fa,.slice a6 x.fc.length c6],.int .i64 q] w fun e w'=>e = .returned (.int .i64 (zl7 (cntX x) q))∧Below w.heap.size w w'
theorem zv8 {α : Type} (f : α → Nat) (l:List α) (k:Nat):psz f l k≤(l.map f).sum:=by
 unfold psz
 have h:=List.take_append_drop k l
 have h2:(l.map f).sum=((l.take k).map f).sum+((l.drop k).map f).sum:=by rw [← List.sum_append,← List.map_append,h]
 omega
theorem znw (x:DExpr) (ih : ∀ a ∈ x.fc,zo4 a):zo4 x:=by
 intro q lo hi c6 a6 hq0 hq1 hsz w hhi hs6
 have hn:x.fc.length≤1048576:=by have h:=hsz;rw [DExpr.sz_eq] at h;unfold lsz at h;omega
 have HZ:=yq hsz;have IH:=yq ih;have HS:=yq hs6;have hW0:Below w.heap.size w (w.alloc (.cells #[.int .i64 x.fh,.int .i64 x.fN,.int .i64 x.fb,.int .i64 x.fk,.string x.fd,.string x.fa,.slice a6 x.fc.length c6] 90)):=(Below.refl _ _).alloc (Nat.le_refl _) _;have HW0:=yq hW0;clear hsz ih hs6 hW0
 go_enter Tryz.func137,Tryz.ntmps137
 go_wp2
 go_loopw [1,5] (fun n i wr=>∃ k:Nat,k≤x.fc.length∧i = .int .i64 (k:Int)∧n = .int .i64 (zl7 (1+psz cntX x.fc k) q)∧Below (w.heap.size+1) (w.alloc (.cells #[.int .i64 x.fh,.int .i64 x.fN,.int .i64 x.fb,.int .i64 x.fk,.string x.fd,.string x.fa,.slice a6 x.fc.length c6] 90)) wr) (fun _ i _=>x.fc.length - (intOf i).toNat)
 case atStart=>exact ⟨0,Nat.zero_le _,rfl,by
  rw [zba]
  by_cases h1:(1:Int)≤q
  ·rw [zhj (by omega)];congr 1
  ·rw [zjp (by omega)];congr 1;omega,Below.refl _ _⟩
 case round =>
  obtain ⟨k,hk,rfl,rfl,hbl⟩:=hrel;have HB:=yq hbl
  have p6:wr.cell? ⟨w.heap.size,6,none⟩=some (.slice a6 x.fc.length c6):=(hbl.cell (p:=⟨w.heap.size,6,none⟩) (Nat.lt_succ_self _)).trans (by go_simp)
  have hbw:Below w.heap.size w wr:=HW0.out.trans (hbl.mono (Nat.le_succ _));have HBW:=yq hbw
  have hsz1:w.heap.size+1≤wr.heap.size:=Nat.le_trans (by simp) hbl.size
  have hcx:=zf9 x;have hpl:=zhd cntX x.fc k
  unfold lsz at hpl
  clear hbl
  by_cases hle:((1+psz cntX x.fc k:Nat):Int)≤q
  ·rw [zhj hle]
   by_cases hlt:k < x.fc.length
   ·obtain ⟨rb,ro,rfl,_,hrb,hc⟩:=(HS.out.later (hbw.mono hhi) (Nat.le_refl _)).at k hlt
    rw [zb6 hlt] at hc;obtain ⟨a9,c9,hc0,hc1,hc2,hc3,hc4,hc5,hc6,hs9⟩:=DExpr.open hc;have hszk:=zab (f:=DExpr.sz) x.fc k hlt;have hszx:=HZ.out;rw [DExpr.sz_eq] at hszx;have IK:=yq (IH.out _ (zbg hlt))
    have hL:q - ((1+psz cntX x.fc k:Nat):Int)=q - 1 - (psz cntX x.fc k:Int):=by omega
    rw [hL];clear hbw hc hL
    have HC:=yq (fun (W:World) (hW:Below wr.heap.size wr W)=>IK.out (q - 1 - (psz cntX x.fc k:Int)) (c6:=c9) (by omega) (by omega) (by omega) W (Nat.le_trans hhi (Nat.le_trans HBW.out.size hW.size)) (hs9.later (hW.mono (Nat.le_trans hhi HBW.out.size)) (Nat.le_refl _)))
    have HPS:=yq (show zl7 (cntX (x.fc.getD k default)) (q - 1 - (psz cntX x.fc k:Int))=zl7 (1+psz cntX x.fc (k+1)) q by
     rw [zc0 cntX x.fc k hlt]
     unfold zl7
     split<;>split<;>omega)
    have hq3:(0:Int)≤q - 1 - (psz cntX x.fc k:Int):=by omega
    have hq4:q - 1 - (psz cntX x.fc k:Int)≤1048576:=by omega
    clear hs9 hszk hszx hle hpl hcx;generalize q - 1 - (psz cntX x.fc k:Int)=S at *;generalize x.fc.getD k default=y at *;generalize zl7 (cntX y) S=S2 at *;(go_wp2_with fail);refine (HC.out _ (Below.refl _ _)).mono ?_;rintro e w1 ⟨rfl,hb1⟩;have HB1:=yq (HB.out.trans (hb1.mono hsz1));clear hb1;go_wp2;go_roundw
    case rel=>exact ⟨k+1,by omega,by go_num,by rw [HPS.out],HB1.out⟩
    case measure=>simp [intOf];omega
   ·obtain rfl:k=x.fc.length:=by omega
    have hpa:=zb0 cntX x.fc
    have FIN:=yq (show q - ((1+psz cntX x.fc x.fc.length:Nat):Int)=zl7 (cntX x) q by rw [zhj (by omega)];omega)
    clear hbw hpl hcx hpa hle;generalize q - ((1+psz cntX x.fc x.fc.length:Nat):Int)=S at *;go_wp2;go_ret;exact ⟨zan FIN.out,HBW.out⟩
  ·rw [zjp (by omega)]
   have FIN:=yq (show (-1:Int)=zl7 (cntX x) q by
    rw [zjp];have h1:=zv8 cntX x.fc k
    omega)
   clear hbw hpl hcx hle
   by_cases hlt:k < x.fc.length
   ·go_wp2
    go_ret;exact ⟨zan FIN.out,HBW.out⟩
   ·obtain rfl:k=x.fc.length:=by omega
    go_wp2;go_ret;exact ⟨zan FIN.out,HBW.out⟩
theorem zjh {lo hi c0_0:Nat} {a6:Option Addr} (x:DExpr) (hok:x.ok) (hsz:x.sz≤1048576) (w:World) (hhi:hi≤w.heap.size) (hs6:Sl lo hi w 7 x.fc.length (ctE x.fc) a6) :
  Calls Tryz.prog 103 #[.agg #[.int .i64 x.fh,.int .i64 x.fN,.int .i64 x.fb,.int .i64 x.fk,.string x.fd,.string x.fa,.slice a6 x.fc.length c0_0]] w fun e w'=>e = .returned (.bool (za9 x))∧Below w.heap.size w w':=by
 have HB:=yq ((Below.refl w.heap.size w).alloc (Nat.le_refl _) (.cells #[.int .i64 x.fh,.int .i64 x.fN,.int .i64 x.fb,.int .i64 x.fk,.string x.fd,.string x.fa,.slice a6 x.fc.length c0_0] 90))
 have HL:=yq (fun (W:World) (hW:Below w.heap.size w W)=>DExpr.ind (P:=zo4) znw x 24 (c6:=c0_0) (by decide) (by decide) hsz W (Nat.le_trans hhi hW.size) (hs6.later hW hhi))
 have HD:=yq (fun (W:World) (hW:Below w.heap.size w W)=>zi8 (c0_0:=c0_0) x hok hsz W (Nat.le_trans hhi hW.size) (hs6.later hW hhi))
 have HA:=yq (fun (W:World) (hW:Below w.heap.size w W)=>zs9 (c0_0:=c0_0) x hok hsz W (Nat.le_trans hhi hW.size) (hs6.later hW hhi))
 have hV:za9 x=(decide (cntX x≤24) && decide (depX x≤6) && !invX x):=rfl;have HV:=yq hV;have hdc:=zsg x;have hcl:=zey x;clear hs6 hok
 by_cases h1:cntX x≤24
 ·have HV1:=yq (show za9 x=(decide (depX x≤6) && !invX x) by rw [HV.out,decide_eq_true h1,Bool.true_and])
  rw [zhj (by omega)] at HL
  have hl0:(0:Int)≤24 - (cntX x:Int):=by omega
  generalize (24:Int) - (cntX x:Int)=lv at *;clear h1 HV hV
  by_cases h2:depX x≤6
  ·have HV2:=yq (show za9 x = !invX x by rw [HV1.out,decide_eq_true h2,Bool.true_and])
   have hd:(depX x:Int)≤6:=by omega
   clear h2 HV1;generalize (depX x:Int)=dv at *;generalize za9 x=r at *;generalize (!invX x)=r2 at *
   go_enter Tryz.func103,Tryz.ntmps103
   (go_wp2_with fail);refine (HL.out _ HB.out).mono ?_;rintro e w1 ⟨rfl,hb1⟩
   have cw1_0:w1.cell? ⟨w.heap.size,0,none⟩=some (.int .i64 x.fh):=(hb1.cell (p:=⟨w.heap.size,0,none⟩) (by simp)).trans (by go_simp)
   have cw1_1:w1.cell? ⟨w.heap.size,1,none⟩=some (.int .i64 x.fN):=(hb1.cell (p:=⟨w.heap.size,1,none⟩) (by simp)).trans (by go_simp)
   have cw1_2:w1.cell? ⟨w.heap.size,2,none⟩=some (.int .i64 x.fb):=(hb1.cell (p:=⟨w.heap.size,2,none⟩) (by simp)).trans (by go_simp)
   have cw1_3:w1.cell? ⟨w.heap.size,3,none⟩=some (.int .i64 x.fk):=(hb1.cell (p:=⟨w.heap.size,3,none⟩) (by simp)).trans (by go_simp)
   have cw1_4:w1.cell? ⟨w.heap.size,4,none⟩=some (.string x.fd):=(hb1.cell (p:=⟨w.heap.size,4,none⟩) (by simp)).trans (by go_simp)
   have cw1_5:w1.cell? ⟨w.heap.size,5,none⟩=some (.string x.fa):=(hb1.cell (p:=⟨w.heap.size,5,none⟩) (by simp)).trans (by go_simp)
   have cw1_6:w1.cell? ⟨w.heap.size,6,none⟩=some (.slice a6 x.fc.length c0_0):=(hb1.cell (p:=⟨w.heap.size,6,none⟩) (by simp)).trans (by go_simp)
   have hs9:w.heap.size < w1.heap.size:=Nat.lt_of_lt_of_le (by simp) hb1.size
   have HB1:=yq (HB.out.trans (hb1.mono HB.out.size));clear hb1;(go_wp2_with fail);refine (HD.out _ HB1.out).mono ?_;rintro e w2 ⟨rfl,hb2⟩;have cw2_0:w2.cell? ⟨w.heap.size,0,none⟩=some (.int .i64 x.fh):=(hb2.cell (p:=⟨w.heap.size,0,none⟩) hs9).trans cw1_0;have cw2_1:w2.cell? ⟨w.heap.size,1,none⟩=some (.int .i64 x.fN):=(hb2.cell (p:=⟨w.heap.size,1,none⟩) hs9).trans cw1_1;have cw2_2:w2.cell? ⟨w.heap.size,2,none⟩=some (.int .i64 x.fb):=(hb2.cell (p:=⟨w.heap.size,2,none⟩) hs9).trans cw1_2;have cw2_3:w2.cell? ⟨w.heap.size,3,none⟩=some (.int .i64 x.fk):=(hb2.cell (p:=⟨w.heap.size,3,none⟩) hs9).trans cw1_3;have cw2_4:w2.cell? ⟨w.heap.size,4,none⟩=some (.string x.fd):=(hb2.cell (p:=⟨w.heap.size,4,none⟩) hs9).trans cw1_4;have cw2_5:w2.cell? ⟨w.heap.size,5,none⟩=some (.string x.fa):=(hb2.cell (p:=⟨w.heap.size,5,none⟩) hs9).trans cw1_5;have cw2_6:w2.cell? ⟨w.heap.size,6,none⟩=some (.slice a6 x.fc.length c0_0):=(hb2.cell (p:=⟨w.heap.size,6,none⟩) hs9).trans cw1_6;have HB2:=yq (HB1.out.trans (hb2.mono HB1.out.size));clear hb2;(go_wp2_with fail);refine (HA.out _ HB2.out).mono ?_;rintro e w3 ⟨rfl,hb3⟩;have HB3:=yq (HB2.out.trans (hb3.mono HB2.out.size));clear hb3;go_wp2;go_ret;exact ⟨zh HV2.out.symm,HB3.out⟩
  ·have HV2:=yq (show za9 x=false by rw [HV1.out,decide_eq_false h2,Bool.false_and])
   have hd:(6:Int) < (depX x:Int):=by omega
   clear h2 HV1 HA;generalize (depX x:Int)=dv at *;generalize za9 x=r at *
   go_enter Tryz.func103,Tryz.ntmps103
   (go_wp2_with fail);refine (HL.out _ HB.out).mono ?_;rintro e w1 ⟨rfl,hb1⟩
   have cw1_0:w1.cell? ⟨w.heap.size,0,none⟩=some (.int .i64 x.fh):=(hb1.cell (p:=⟨w.heap.size,0,none⟩) (by simp)).trans (by go_simp)
   have cw1_1:w1.cell? ⟨w.heap.size,1,none⟩=some (.int .i64 x.fN):=(hb1.cell (p:=⟨w.heap.size,1,none⟩) (by simp)).trans (by go_simp)
   have cw1_2:w1.cell? ⟨w.heap.size,2,none⟩=some (.int .i64 x.fb):=(hb1.cell (p:=⟨w.heap.size,2,none⟩) (by simp)).trans (by go_simp)
   have cw1_3:w1.cell? ⟨w.heap.size,3,none⟩=some (.int .i64 x.fk):=(hb1.cell (p:=⟨w.heap.size,3,none⟩) (by simp)).trans (by go_simp)
   have cw1_4:w1.cell? ⟨w.heap.size,4,none⟩=some (.string x.fd):=(hb1.cell (p:=⟨w.heap.size,4,none⟩) (by simp)).trans (by go_simp)
   have cw1_5:w1.cell? ⟨w.heap.size,5,none⟩=some (.string x.fa):=(hb1.cell (p:=⟨w.heap.size,5,none⟩) (by simp)).trans (by go_simp)
   have cw1_6:w1.cell? ⟨w.heap.size,6,none⟩=some (.slice a6 x.fc.length c0_0):=(hb1.cell (p:=⟨w.heap.size,6,none⟩) (by simp)).trans (by go_simp)
   have hs9:w.heap.size < w1.heap.size:=Nat.lt_of_lt_of_le (by simp) hb1.size
   have HB1:=yq (HB.out.trans (hb1.mono HB.out.size));clear hb1;(go_wp2_with fail);refine (HD.out _ HB1.out).mono ?_;rintro e w2 ⟨rfl,hb2⟩;have HB2:=yq (HB1.out.trans (hb2.mono HB1.out.size));clear hb2;go_wp2;go_ret;exact ⟨zh HV2.out.symm,HB2.out⟩
 ·have HV1:=yq (show za9 x=false by rw [HV.out,decide_eq_false h1,Bool.false_and,Bool.false_and])
  rw [zjp (by omega)] at HL
  clear h1 HV hV HA HD hdc hcl;generalize za9 x=r at *
  go_enter Tryz.func103,Tryz.ntmps103
  (go_wp2_with fail);refine (HL.out _ HB.out).mono ?_;rintro e w1 ⟨rfl,hb1⟩;have HB1:=yq (HB.out.trans (hb1.mono HB.out.size));clear hb1;go_wp2;go_ret;exact ⟨zh HV1.out.symm,HB1.out⟩
noncomputable def badN (n:ENode):Bool:=decide (6 < n.fw) || inv n
theorem zxg {x:DExpr} {n:ENode} (hn:n ∈ zu x 1) (h:badN n=true):za9 x=false:=by
 unfold badN at h
 rw [Bool.or_eq_true,decide_eq_true_eq] at h
 unfold za9
 rcases h with h|h
 ·have h1:=zmz x 1
  have h2 : ∀ N:List ENode,n ∈ N→n.fw≤maxD N:=by
   intro N
   induction N with
   | nil=>intro h;cases h
   | cons a N ih =>
    intro h
    show _≤max a.fw (maxD N)
    rcases List.mem_cons.1 h with rfl|h
    ·omega
    ·have:=ih h;omega
  have h3:=h2 _ hn
  rw [decide_eq_false (p:=depX x≤6) (by omega),Bool.and_false];rfl
 ·have:invX x=true:=by rw [← zgu x 1];exact List.any_eq_true.2 ⟨n,hn,h⟩
  rw [this,Bool.not_true,Bool.and_false]
theorem zwf {x:DExpr} (h : ∀ n ∈ zu x 1,badN n=false) (hc:cntX x≤24):za9 x=true:=by
 have h1:invX x=false:=by
  rw [← zgu x 1,List.any_eq_false];intro n hn
  have:=h n hn
  unfold badN at this
  rw [Bool.or_eq_false_iff] at this;rw [this.2];decide
 have h2:depX x≤6:=by
  have h3:=zmz x 1
  have h4 : ∀ N:List ENode,(∀ n ∈ N,badN n=false)→maxD N≤6:=by
   intro N
   induction N with
   | nil=>intro _;exact Nat.zero_le _
   | cons a N ih =>
    intro h;have ha:=h a (List.mem_cons_self ..)
    unfold badN at ha
    rw [Bool.or_eq_false_iff,decide_eq_false_iff_not] at ha
    have:=ih fun n hn=>h n (List.mem_cons_of_mem _ hn)
    show max a.fw (maxD N)≤6
    omega
  have h5:=h4 _ h
  omega
 unfold za9
 rw [decide_eq_true hc,decide_eq_true h2,h1];rfl
theorem zi4 {lo hi c0_0:Nat} {a6:Option Addr} (x:DExpr) (_:x.ok) (hsz:x.sz≤1048576) (w:World) (hhi:hi≤w.heap.size) (hs6:Sf lo hi w 7 x.fc.length (ctE x.fc) a6) :
  Calls Tryz.prog 152 #[.agg #[.int .i64 x.fh,.int .i64 x.fN,.int .i64 x.fb,.int .i64 x.fk,.string x.fd,.string x.fa,.slice a6 x.fc.length c0_0]] w fun e w'=>e = .returned (.bool (za9 x))∧Below w.heap.size w w':=by
 have hbox:Below w.heap.size w (w.alloc (.cells #[.int .i64 x.fh,.int .i64 x.fN,.int .i64 x.fb,.int .i64 x.fk,.string x.fd,.string x.fa,.slice a6 x.fc.length c0_0] 90)):=(Below.refl _ _).alloc (Nat.le_refl _) _
 have HC:=yq (zio (c6:=c0_0) x hsz 25 ⟨by decide,by decide⟩ (w.alloc (.cells #[.int .i64 x.fh,.int .i64 x.fN,.int .i64 x.fb,.int .i64 x.fk,.string x.fd,.string x.fa,.slice a6 x.fc.length c0_0] 90)) (Nat.le_trans hhi hbox.size) ((hs6.mono (Nat.zero_le _) (Nat.le_refl _)).later hbox hhi))
 have HB:=yq hbox;have hl:=zcg x 1;have hM:zbq x 25=(zu x 1).take 25:=rfl
 have hml:(zbq x 25).length≤25:=by rw [hM,List.length_take];omega
 have HNO:=yq (show ∀ k,k < (zbq x 25).length→badN ((zbq x 25).getD k default)=true→za9 x=false from fun k hk hb=>zxg (by rw [hM] at hk ⊢;exact List.mem_of_mem_take (zbg hk)) hb)
 have HYES:=yq (show zah badN (zbq x 25) (zbq x 25).length→decide (((zbq x 25).length:Int)≤24)=za9 x from fun h=>by
  by_cases hc:cntX x≤24
  ·have hMl:zbq x 25=zu x 1:=by rw [hM];exact List.take_of_length_le (by omega)
   have:za9 x=true:=zwf (fun n hn=>by
    obtain ⟨k,hk,rfl⟩:=List.getElem_of_mem hn
    have:=h k (by rw [hMl];exact hk)
    rw [hMl,List.getD_eq_getElem?_getD,List.getElem?_eq_getElem hk] at this
    exact this) hc
   rw [this,hMl]
   exact decide_eq_true (by omega)
  ·have:za9 x=false:=by unfold za9;rw [decide_eq_false hc];rfl
   rw [this,hM,List.length_take]
   exact decide_eq_false (by omega))
 have HSZ:=yq (show ∀ k,k < (zbq x 25).length→((zbq x 25).getD k default).fd.size≤1048576∧((zbq x 25).getD k default).fa.size≤1048576 from fun k hk=>by
  have h:=zqx x 1 ((zbq x 25).getD k default) (by rw [hM] at hk ⊢;exact List.mem_of_mem_take (zbg hk))
  omega)
 clear hbox hs6 hl hM;generalize zbq x 25=N at *;generalize za9 x=r at *
 go_enter Tryz.func152,Tryz.ntmps152
 (go_wp2_with fail);refine HC.out.mono ?_;rintro e w1 ⟨v,rfl,hown,hb1⟩;obtain ⟨a,c,rfl⟩:=zdx hown;have R2:=yq (HB.out.trans (hb1.mono HB.out.size));have HO:=yq hown;clear hown hb1;go_wp2
 go_loopw [10] (fun i wr=>∃ k:Nat,k≤N.length∧i = .int .i64 (k:Int)∧zah badN N k∧Below w1.heap.size w1 wr) (fun i _=>N.length - (intOf i).toNat)
 case atStart=>exact ⟨0,Nat.zero_le _,rfl,zx _ _,Below.refl _ _⟩
 case round =>
  obtain ⟨k,hk,rfl,hno,hbl⟩:=hrel;have HBL:=yq hbl;have HNB:=yq hno;clear hno
  by_cases hlt:k < N.length
  ·obtain ⟨g,c2,e2,_,_⟩:=zc2 HO.out (by omega)
   simp only [Value.slice.injEq,true_and] at e2
   obtain ⟨rfl,rfl⟩:=e2;obtain ⟨d0,d1,d2,d3,d4,d5,d6,d7⟩:=zkr (zl HO.out hbl) hlt;have hss:=HSZ.out k hlt
   have HVN:=yq (fun W=>zjf (N.getD k default) hss.1 hss.2 W)
   have HST:=yq (show badN (N.getD k default)=false→zah badN N (k+1) from fun h=>zt HNB.out h)
   have HFA:=yq (HNO.out k hlt)
   have HBD:=yq (show badN (N.getD k default)=(decide (6 < (N.getD k default).fw) || !zk (N.getD k default)) from rfl)
   clear hbl hss;generalize badN (N.getD k default)=bb at *;generalize N.getD k default=nd at *;generalize zk nd=vv at *
   by_cases hd:6 < nd.fw
   ·have fin:=yq (HFA.out (by rw [HBD.out,decide_eq_true hd];rfl))
    have hd2:(6:Int) < (nd.fw:Int):=by omega
    clear hd;go_wp2;go_ret;exact ⟨zh fin.out.symm,R2.out.trans ((HBL.out.alloc HBL.out.size _).mono R2.out.size)⟩
   ·have hd2:(nd.fw:Int)≤6:=by omega
    have HB2:=yq (show bb = !vv by rw [HBD.out,decide_eq_false hd,Bool.false_or])
    clear hd HBD
    cases vv
    ·have fin:=yq (HFA.out HB2.out)
     (go_wp2_with fail);refine (HVN.out _).mono ?_;rintro e w2 ⟨rfl,hb2⟩;have HB3:=yq ((HBL.out.alloc HBL.out.size _).trans (hb2.mono (HBL.out.alloc HBL.out.size _).size));clear hb2;go_wp2;go_ret;exact ⟨zh fin.out.symm,R2.out.trans (HB3.out.mono R2.out.size)⟩
    ·have HPS:=yq (HST.out HB2.out)
     (go_wp2_with fail);refine (HVN.out _).mono ?_;rintro e w2 ⟨rfl,hb2⟩;have HB3:=yq ((HBL.out.alloc HBL.out.size _).trans (hb2.mono (HBL.out.alloc HBL.out.size _).size));clear hb2;go_wp2;go_roundw
     case rel=>exact ⟨k+1,by omega,by go_num,HPS.out,HB3.out⟩
     case measure=>simp [intOf];omega
  ·obtain rfl:k=N.length:=by omega
   have FIN:=yq (HYES.out HNB.out);go_wp2;go_ret;exact ⟨zh FIN.out,R2.out.trans (HBL.out.mono R2.out.size)⟩
def posN (n:Nat) (nd:ENode):Bool:=decide ((n:Int) < nd.fb)
def posX (n:Nat) (x:DExpr):Bool:=(zu x 0).any (posN n)
theorem zgy (P:DExpr→Prop) (q:ENode→Bool) (r:DExpr→Bool) (hP : ∀ x,P x → ∀ d,(zu x d).any q=r x) (d:Nat) : ∀ l:List DExpr,(∀ a ∈ l,P a)→(zca l d).any q=l.any r
 | [],_=>rfl
 | e :: es,h=>by
  show (zu e d ++ zca es d).any q=_
  rw [List.any_append,hP e (h e (List.mem_cons_self ..)),zgy P q r hP d es fun a ha=>h a (List.mem_cons_of_mem _ ha),List.any_cons]
theorem zn2 (n:Nat) : ∀ (x:DExpr) (d:Nat),(zu x d).any (posN n)=posX n x:=by
 intro x
 refine DExpr.ind (P:=fun x=>∀ d,(zu x d).any (posN n)=posX n x) (fun x ih d=>?_) x
 unfold posX
 rw [za2,za2,List.any_cons,List.any_cons,zgy (fun a=>∀ d,(zu a d).any (posN n)=posX n a) _ _ (fun _ h=>h) _ _ ih,zgy (fun a=>∀ d,(zu a d).any (posN n)=posX n a) _ _ (fun _ h=>h) _ _ ih]
 rfl
theorem ztx (n:Nat) (x:DExpr):posX n x=(decide ((n:Int) < x.fb) || x.fc.any (posX n)):=by
 have h:=zn2 n x 0
 rw [za2,List.any_cons,zgy (fun _=>True) _ _ (fun x _=>zn2 n x) _ _ fun _ _=>trivial] at h
 exact h.symm
theorem zsq {nd:ENode} (h:zk nd=true):0≤nd.fb:=by
 unfold zk at h
 simp only [Bool.and_eq_true,decide_eq_true_eq] at h
 obtain ⟨⟨_,h2⟩,h3⟩:=h
 rcases h2.2.1 with hk|hk|hk
 ·rw [zvq hk,Bool.and_eq_true] at h3
  exact (zhw.1 h3.1).1
 ·rw [ztk hk] at h3
  exact (zhw.1 h3).1
 ·omega
theorem zst {x:DExpr} (h:za9 x=true) (d:Nat) : ∀ nd ∈ zu x d,0≤nd.fb:=by
 unfold za9 at h
 simp only [Bool.and_eq_true,Bool.not_eq_true'] at h
 intro nd hnd;have h2:=zgu x d;rw [h.2,List.any_eq_false] at h2;have h3:=h2 nd hnd
 unfold inv at h3
 exact zsq (by simpa using h3)
noncomputable def zbr (n:Nat) (x:DExpr):Bool:=za9 x && !posX n x
theorem zvf (n:Nat) : ∀ l:List ENode,(∀ nd ∈ l,0≤nd.fb)→(l.all fun nd=>inR nd.fb 0 n) = !(l.any (posN n))
 | [],_=>rfl
 | a :: l,h=>by
  rw [List.all_cons,List.any_cons,zvf n l fun b hb=>h b (List.mem_cons_of_mem _ hb),Bool.not_or]
  have h0:=h a (List.mem_cons_self ..)
  have:inR a.fb 0 n = !posN n a:=by
   unfold inR posN
   rw [decide_eq_true h0,Bool.true_and,← decide_not]
   exact decide_eq_decide.2 (by omega)
  rw [this]
theorem zte {n:Nat} {x:DExpr} (h:za9 x=true):((zu x 1).all fun nd=>inR nd.fb 0 n)=zbr n x:=by
 unfold zbr
 rw [h,Bool.true_and,zvf n _ (zst h 1),zn2]
noncomputable def eqOk (r:DRule) (q:DEquation):Bool:=inR q.fAt.fb 0 r.fj.length && zi q.fAt.fa && zbr r.fj.length q.fi
noncomputable def coOk (r:DRule) (c:DContribution):Bool:=zi c.fd && zi c.fa && zbr r.fj.length c.fe && zbr r.fj.length c.ff
noncomputable def zfx (r:DRule):Bool:=zi r.fa && zi r.fp && decide (r.fj.length≤3) && decide (r.fo.length≤2) && r.fj.all zi && r.fg.all (eqOk r) && r.fo.all (coOk r)
theorem ze8 {α : Type} [Inhabited α] (p : α → Bool) (l:List α):decide (0≤idxI p l)=l.any p:=by
 unfold idxI
 cases h:l.findIdx? p with
 | none =>
  rw [List.findIdx?_eq_none_iff] at h
  have:l.any p=false:=by rw [List.any_eq_false];intro a ha;simp [h a ha]
  rw [this];rfl
 | some k =>
  rw [List.findIdx?_eq_some_iff_getElem] at h;obtain ⟨h1,h2,_⟩:=h
  have:l.any p=true:=List.any_eq_true.2 ⟨l[k],List.getElem_mem _,h2⟩
  rw [this];simp
theorem zfb {α : Type} (p : α → Bool) (l:List α):(!(l.any fun x=>!p x))=l.all p:=by
 induction l with
 | nil=>rfl
 | cons a l ih=>rw [List.any_cons,List.all_cons,← ih,Bool.not_or,Bool.not_not]
theorem DEquation.openS {lo hi b o:Nat} {w:World} {x:DEquation} (h : ∀ j,j < 9 → ∃ u,w.cell? ⟨b,o+j,none⟩=some u∧Soft lo hi w (x.ct j) u) :
  ∃ a8 c8,w.cell? ⟨b,o,none⟩=some (.int .i64 x.fAt.fb)∧w.cell? ⟨b,o+1,none⟩=some (.string x.fAt.fa)∧w.cell? ⟨b,o+2,none⟩=some (.int .i64 x.fi.fh)∧w.cell? ⟨b,o+3,none⟩=some (.int .i64 x.fi.fN)∧w.cell? ⟨b,o+4,none⟩=some (.int .i64 x.fi.fb)∧w.cell? ⟨b,o+5,none⟩=some (.int .i64 x.fi.fk)∧w.cell? ⟨b,o+6,none⟩=some (.string x.fi.fd)∧w.cell? ⟨b,o+7,none⟩=some (.string x.fi.fa)∧w.cell? ⟨b,o+8,none⟩=some (.slice a8 x.fi.fc.length c8)∧Sf lo hi w 7 x.fi.fc.length (ctE x.fi.fc) a8:=by
 obtain ⟨u0,hc0,hl0⟩:=h 0 (by decide)
 obtain rfl:=zv hl0
 obtain ⟨u1,hc1,hl1⟩:=h 1 (by decide)
 obtain rfl:=zv hl1
 obtain ⟨u2,hc2,hl2⟩:=h 2 (by decide)
 obtain rfl:=zv hl2
 obtain ⟨u3,hc3,hl3⟩:=h 3 (by decide)
 obtain rfl:=zv hl3
 obtain ⟨u4,hc4,hl4⟩:=h 4 (by decide)
 obtain rfl:=zv hl4
 obtain ⟨u5,hc5,hl5⟩:=h 5 (by decide)
 obtain rfl:=zv hl5
 obtain ⟨u6,hc6,hl6⟩:=h 6 (by decide)
 obtain rfl:=zv hl6
 obtain ⟨u7,hc7,hl7⟩:=h 7 (by decide)
 obtain rfl:=zv hl7
 obtain ⟨u8,hc8,hl8⟩:=h 8 (by decide)
 obtain ⟨a8,c8,rfl,hs8⟩:=zeg hl8;exact ⟨a8,c8,hc0,hc1,hc2,hc3,hc4,hc5,hc6,hc7,hc8,hs8⟩
theorem DContribution.openS {lo hi b o:Nat} {w:World} {x:DContribution} (h : ∀ j,j < 16 → ∃ u,w.cell? ⟨b,o+j,none⟩=some u∧Soft lo hi w (x.ct j) u) :
  ∃ a8 c8,∃ a15 c15,w.cell? ⟨b,o,none⟩=some (.string x.fd)∧w.cell? ⟨b,o+1,none⟩=some (.string x.fa)∧w.cell? ⟨b,o+2,none⟩=some (.int .i64 x.fe.fh)∧w.cell? ⟨b,o+3,none⟩=some (.int .i64 x.fe.fN)∧w.cell? ⟨b,o+4,none⟩=some (.int .i64 x.fe.fb)∧w.cell? ⟨b,o+5,none⟩=some (.int .i64 x.fe.fk)∧w.cell? ⟨b,o+6,none⟩=some (.string x.fe.fd)∧w.cell? ⟨b,o+7,none⟩=some (.string x.fe.fa)∧w.cell? ⟨b,o+8,none⟩=some (.slice a8 x.fe.fc.length c8)∧w.cell? ⟨b,o+9,none⟩=some (.int .i64 x.ff.fh)∧w.cell? ⟨b,o+10,none⟩=some (.int .i64 x.ff.fN)∧w.cell? ⟨b,o+11,none⟩=some (.int .i64 x.ff.fb)∧w.cell? ⟨b,o+12,none⟩=some (.int .i64 x.ff.fk)∧w.cell? ⟨b,o+13,none⟩=some (.string x.ff.fd)∧w.cell? ⟨b,o+14,none⟩=some (.string x.ff.fa)∧w.cell? ⟨b,o+15,none⟩=some (.slice a15 x.ff.fc.length c15)∧Sf lo hi w 7 x.fe.fc.length (ctE x.fe.fc) a8∧Sf lo hi w 7 x.ff.fc.length (ctE x.ff.fc) a15:=by
 obtain ⟨u0,hc0,hl0⟩:=h 0 (by decide)
 obtain rfl:=zv hl0
 obtain ⟨u1,hc1,hl1⟩:=h 1 (by decide)
 obtain rfl:=zv hl1
 obtain ⟨u2,hc2,hl2⟩:=h 2 (by decide)
 obtain rfl:=zv hl2
 obtain ⟨u3,hc3,hl3⟩:=h 3 (by decide)
 obtain rfl:=zv hl3
 obtain ⟨u4,hc4,hl4⟩:=h 4 (by decide)
 obtain rfl:=zv hl4
 obtain ⟨u5,hc5,hl5⟩:=h 5 (by decide)
 obtain rfl:=zv hl5
 obtain ⟨u6,hc6,hl6⟩:=h 6 (by decide)
 obtain rfl:=zv hl6
 obtain ⟨u7,hc7,hl7⟩:=h 7 (by decide)
 obtain rfl:=zv hl7
 obtain ⟨u8,hc8,hl8⟩:=h 8 (by decide)
 obtain ⟨a8,c8,rfl,hs8⟩:=zeg hl8
 obtain ⟨u9,hc9,hl9⟩:=h 9 (by decide)
 obtain rfl:=zv hl9
 obtain ⟨u10,hc10,hl10⟩:=h 10 (by decide)
 obtain rfl:=zv hl10
 obtain ⟨u11,hc11,hl11⟩:=h 11 (by decide)
 obtain rfl:=zv hl11
 obtain ⟨u12,hc12,hl12⟩:=h 12 (by decide)
 obtain rfl:=zv hl12
 obtain ⟨u13,hc13,hl13⟩:=h 13 (by decide)
 obtain rfl:=zv hl13
 obtain ⟨u14,hc14,hl14⟩:=h 14 (by decide)
 obtain rfl:=zv hl14
 obtain ⟨u15,hc15,hl15⟩:=h 15 (by decide)
 obtain ⟨a15,c15,rfl,hs15⟩:=zeg hl15;exact ⟨a8,c8,a15,c15,hc0,hc1,hc2,hc3,hc4,hc5,hc6,hc7,hc8,hc9,hc10,hc11,hc12,hc13,hc14,hc15,hs8,hs15⟩
theorem zuc (s:ByteArray) (v:Bool) (q1:Nat) (w:World) (hq:w.cell? ⟨q1,0,none⟩=some (.func (.func 76) #[] #[])) (_:q1 < w.heap.size)
  (hc : ∀ W,Below w.heap.size w W→Calls Tryz.prog 76 #[.string s] W fun e W'=>e = .returned (.bool v)∧Below W.heap.size W W') :
  Calls Tryz.prog 118 #[.string s,.pointer (some ⟨q1,0,none⟩)] w fun e w'=>e = .returned (.bool (!v))∧Below w.heap.size w w':=by
 have HB:=yq (Below.refl w.heap.size w);have HC:=yq (hc _ HB.out);clear hc
 go_enter Tryz.func118,Tryz.ntmps118
 (go_wp2_with fail);refine HC.out.mono ?_;rintro e w1 ⟨rfl,hb1⟩;have HB1:=yq (HB.out.trans (hb1.mono HB.out.size));clear hb1;go_wp2;go_ret;exact ⟨rfl,HB1.out⟩
theorem zru {hi c:Nat} {a:Option Addr} (q:ByteArray→Bool) (q1:Nat) (l:List ByteArray) (hl:l.length≤1048577) (w:World) (hhi:hi≤w.heap.size) (hs:Sf 0 hi w 1 l.length (fun k=>ictS (l.getD k default)) a) (HP : ∀ k,k < l.length → ∀ (W:World),Below w.heap.size w W→Calls Tryz.prog 118 #[.string (l.getD k default),.pointer (some ⟨q1,0,none⟩)] W fun e W'=>e = .returned (.bool (q (l.getD k default)))∧Below W.heap.size W W') :
  Calls Tryz.prog 150 #[.slice a l.length c,.func (.func 118) #[] #[.pointer (some ⟨q1,0,none⟩)]] w fun e w'=>e = .returned (.int .i64 (idxI q l))∧Below w.heap.size w w':=by
 have HS:=yq hs;have HPX:=yq HP;clear hs HP
 go_enter Tryz.func150,Tryz.ntmps150
 go_wp2
 go_loopw [8] (fun i wr=>∃ k:Nat,k≤l.length∧i = .int .i64 (k:Int)∧zah q l k∧Below w.heap.size w wr) (fun i _=>l.length - (intOf i).toNat)
 case atStart=>exact ⟨0,Nat.zero_le _,rfl,zx _ _,Below.refl _ _⟩
 case round =>
  obtain ⟨k,hk,rfl,hno,hbl⟩:=hrel;have HBL:=yq hbl;have HNO:=yq hno;clear hno
  by_cases hlt:k < l.length
  ·obtain ⟨b,off,rfl,_,_,_,hc⟩:=(HS.out.later (hbl.mono hhi) (Nat.le_refl _)).at k hlt
   obtain ⟨u,hu,hl⟩:=hc 0 (by decide)
   obtain rfl:=zv hl;rw [Nat.mul_one,Nat.add_zero] at hu;have HC:=yq (HPX.out k hlt wr hbl);clear hc hl;clear hbl
   cases hr:q (l.getD k default)
   ·have HPS:=yq (zt HNO.out hr)
    rw [hr] at HC;clear hr;generalize l.getD k default=x at *;(go_wp2_with fail);refine HC.out.mono ?_;rintro e w1 ⟨rfl,hb1⟩;have HB1:=yq (HBL.out.trans (hb1.mono HBL.out.size));clear hb1;go_wp2;go_roundw
    case rel=>exact ⟨k+1,by omega,by go_num,HPS.out,HB1.out⟩
    case measure=>simp [intOf];omega
   ·have FIN:=yq (zdh hlt hr HNO.out)
    rw [hr] at HC;clear hr;generalize l.getD k default=x at *;(go_wp2_with fail);refine HC.out.mono ?_;rintro e w1 ⟨rfl,hb1⟩;have HB1:=yq (HBL.out.trans (hb1.mono HBL.out.size));clear hb1;go_wp2;go_ret;exact ⟨zan FIN.out.symm,HB1.out⟩
  ·obtain rfl:k=l.length:=by omega
   have FIN:=yq (zbh HNO.out);go_wp2;go_ret;exact ⟨zan FIN.out.symm,HBL.out⟩
theorem zmc {hi c:Nat} {a:Option Addr} (q:ByteArray→Bool) (q1:Nat) (l:List ByteArray) (hl:l.length≤1048577) (w:World) (hhi:hi≤w.heap.size) (hs:Sf 0 hi w 1 l.length (fun k=>ictS (l.getD k default)) a) (HP : ∀ k,k < l.length → ∀ (W:World),Below w.heap.size w W→Calls Tryz.prog 118 #[.string (l.getD k default),.pointer (some ⟨q1,0,none⟩)] W fun e W'=>e = .returned (.bool (q (l.getD k default)))∧Below W.heap.size W W') :
  Calls Tryz.prog 117 #[.slice a l.length c,.func (.func 118) #[] #[.pointer (some ⟨q1,0,none⟩)]] w fun e w'=>e = .returned (.bool (l.any q))∧Below w.heap.size w w':=by
 have HI:=yq (zru (c:=c) q q1 l hl w hhi hs HP);have HD:=yq (ze8 q l);clear hs HP;generalize idxI q l=z at *;generalize l.any q=r at *;generalize l.length=n at *
 go_enter Tryz.func117,Tryz.ntmps117
 (go_wp2_with fail);refine HI.out.mono ?_;rintro e w1 ⟨rfl,hb1⟩;go_wp2;go_ret;exact ⟨zh HD.out,hb1⟩
theorem zmb {hi c:Nat} {a:Option Addr} (p:ByteArray→Bool) (l:List ByteArray) (hl:l.length≤1048577) (w:World) (hhi:hi≤w.heap.size) (hs:Sf 0 hi w 1 l.length (fun k=>ictS (l.getD k default)) a) (HP : ∀ k,k < l.length → ∀ (W:World),Below w.heap.size w W→Calls Tryz.prog 76 #[.string (l.getD k default)] W fun e W'=>e = .returned (.bool (p (l.getD k default)))∧Below W.heap.size W W') :
  Calls Tryz.prog 79 #[.slice a l.length c,.func (.func 76) #[] #[]] w fun e w'=>e = .returned (.bool (l.all p))∧Below w.heap.size w w':=by
 have HB:=yq ((Below.refl w.heap.size w).alloc (Nat.le_refl _) (.cells #[.func (.func 76) #[] #[]] 106));have HD:=yq (zfb p l)
 have HI:=yq (zmc (c:=c) (fun x=>!p x) w.heap.size l hl (w.alloc (.cells #[.func (.func 76) #[] #[]] 106)) (Nat.le_trans hhi HB.out.size) (hs.later HB.out hhi) (fun k hk  W hW =>zuc _  _ _ W ((hW.cell (p:=⟨w.heap.size,0,none⟩) (by simp)).trans (by go_simp)) (Nat.lt_of_lt_of_le (by simp) hW.size) (fun W2 hW2=>HP k hk  W2 (HB.out.trans ((hW.trans (hW2.mono hW.size)).mono HB.out.size)))))
 clear hs HP;generalize l.all p=r at *
 generalize (l.any fun x=>!p x)=z at *
 generalize l.length=n at *
 go_enter Tryz.func79,Tryz.ntmps79
 (go_wp2_with fail);refine HI.out.mono ?_;rintro e w1 ⟨rfl,hb1⟩;have HB1:=yq (HB.out.trans (hb1.mono HB.out.size));clear hb1;go_wp2;go_ret;exact ⟨zh HD.out,HB1.out⟩
theorem ztr (nd:ENode) (q:Nat) (v:Bool) (q1:Nat) (w:World) (hq:w.cell? ⟨q1,0,none⟩=some (.func (.func 154) #[] #[.pointer (some ⟨q,0,none⟩)])) (hql:q1 < w.heap.size)
  (hc : ∀ W,Below w.heap.size w W→Calls Tryz.prog 154 #[.agg #[.int .i64 nd.fh,.int .i64 nd.fN,.int .i64 nd.fb,.int .i64 nd.fk,.string nd.fd,.string nd.fa,.int .i64 (nd.fc:Int),.int .i64 (nd.fw:Int)],.pointer (some ⟨q,0,none⟩)] W fun e W'=>e = .returned (.bool v)∧Below W.heap.size W W') :
  Calls Tryz.prog 180 #[.agg #[.int .i64 nd.fh,.int .i64 nd.fN,.int .i64 nd.fb,.int .i64 nd.fk,.string nd.fd,.string nd.fa,.int .i64 (nd.fc:Int),.int .i64 (nd.fw:Int)],.pointer (some ⟨q1,0,none⟩)] w fun e w'=>e = .returned (.bool (!v))∧Below w.heap.size w w':=by
 have HB:=yq ((Below.refl w.heap.size w).alloc (Nat.le_refl _) (.cells #[.int .i64 nd.fh,.int .i64 nd.fN,.int .i64 nd.fb,.int .i64 nd.fk,.string nd.fd,.string nd.fa,.int .i64 (nd.fc:Int),.int .i64 (nd.fw:Int)] 131));have HC:=yq (hc _ HB.out);clear hc
 go_enter Tryz.func180,Tryz.ntmps180
 (go_wp2_with fail);refine HC.out.mono ?_;rintro e w1 ⟨rfl,hb1⟩;have HB1:=yq (HB.out.trans (hb1.mono HB.out.size));clear hb1;go_wp2;go_ret;exact ⟨rfl,HB1.out⟩
theorem zrl {B c:Nat} {a:Option Addr} (q:ENode→Bool) (q1:Nat) (l:List ENode) (hl:l.length≤1048577) (w:World) (hs:w.ownsRow B 131 8 (.slice a l.length c) l.length (zat l)) (HP : ∀ k,k < l.length → ∀ (W:World),Below w.heap.size w W→Calls Tryz.prog 180 #[.agg #[.int .i64 (l.getD k default).fh,.int .i64 (l.getD k default).fN,.int .i64 (l.getD k default).fb,.int .i64 (l.getD k default).fk,.string (l.getD k default).fd,.string (l.getD k default).fa,.int .i64 ((l.getD k default).fc:Int),.int .i64 ((l.getD k default).fw:Int)],.pointer (some ⟨q1,0,none⟩)] W fun e W'=>e = .returned (.bool (q (l.getD k default)))∧Below W.heap.size W W') :
  Calls Tryz.prog 202 #[.slice a l.length c,.func (.func 180) #[] #[.pointer (some ⟨q1,0,none⟩)]] w fun e w'=>e = .returned (.int .i64 (idxI q l))∧Below w.heap.size w w':=by
 have HS:=yq hs;have HPX:=yq HP;clear hs HP
 go_enter Tryz.func202,Tryz.ntmps202
 go_wp2
 go_loopw [8] (fun i wr=>∃ k:Nat,k≤l.length∧i = .int .i64 (k:Int)∧zah q l k∧Below w.heap.size w wr) (fun i _=>l.length - (intOf i).toNat)
 case atStart=>exact ⟨0,Nat.zero_le _,rfl,zx _ _,Below.refl _ _⟩
 case round =>
  obtain ⟨k,hk,rfl,hno,hbl⟩:=hrel;have HBL:=yq hbl;have HNO:=yq hno;clear hno
  by_cases hlt:k < l.length
  ·obtain ⟨g,c2,e2,_,_⟩:=zc2 HS.out (by omega)
   simp only [Value.slice.injEq,true_and] at e2
   obtain ⟨rfl,rfl⟩:=e2;obtain ⟨hc0,hc1,hc2,hc3,hc4,hc5,hc6,hc7⟩:=zkr (zl HS.out hbl) hlt;have HC:=yq (HPX.out k hlt wr hbl);clear hbl
   cases hr:q (l.getD k default)
   ·have HPS:=yq (zt HNO.out hr)
    rw [hr] at HC;clear hr;generalize l.getD k default=x at *;(go_wp2_with fail);refine HC.out.mono ?_;rintro e w1 ⟨rfl,hb1⟩;have HB1:=yq (HBL.out.trans (hb1.mono HBL.out.size));clear hb1;go_wp2;go_roundw
    case rel=>exact ⟨k+1,by omega,by go_num,HPS.out,HB1.out⟩
    case measure=>simp [intOf];omega
   ·have FIN:=yq (zdh hlt hr HNO.out)
    rw [hr] at HC;clear hr;generalize l.getD k default=x at *;(go_wp2_with fail);refine HC.out.mono ?_;rintro e w1 ⟨rfl,hb1⟩;have HB1:=yq (HBL.out.trans (hb1.mono HBL.out.size));clear hb1;go_wp2;go_ret;exact ⟨zan FIN.out.symm,HB1.out⟩
  ·obtain rfl:k=l.length:=by omega
   have FIN:=yq (zbh HNO.out);go_wp2;go_ret;exact ⟨zan FIN.out.symm,HBL.out⟩
theorem zmj {B c:Nat} {a:Option Addr} (q:ENode→Bool) (q1:Nat) (l:List ENode) (hl:l.length≤1048577) (w:World) (hs:w.ownsRow B 131 8 (.slice a l.length c) l.length (zat l)) (HP : ∀ k,k < l.length → ∀ (W:World),Below w.heap.size w W→Calls Tryz.prog 180 #[.agg #[.int .i64 (l.getD k default).fh,.int .i64 (l.getD k default).fN,.int .i64 (l.getD k default).fb,.int .i64 (l.getD k default).fk,.string (l.getD k default).fd,.string (l.getD k default).fa,.int .i64 ((l.getD k default).fc:Int),.int .i64 ((l.getD k default).fw:Int)],.pointer (some ⟨q1,0,none⟩)] W fun e W'=>e = .returned (.bool (q (l.getD k default)))∧Below W.heap.size W W') :
  Calls Tryz.prog 179 #[.slice a l.length c,.func (.func 180) #[] #[.pointer (some ⟨q1,0,none⟩)]] w fun e w'=>e = .returned (.bool (l.any q))∧Below w.heap.size w w':=by
 have HI:=yq (zrl (c:=c) q q1 l hl w hs HP);have HD:=yq (ze8 q l);clear hs HP;generalize idxI q l=z at *;generalize l.any q=r at *;generalize l.length=n at *
 go_enter Tryz.func179,Tryz.ntmps179
 (go_wp2_with fail);refine HI.out.mono ?_;rintro e w1 ⟨rfl,hb1⟩;go_wp2;go_ret;exact ⟨zh HD.out,hb1⟩
theorem zmr {B c:Nat} {a:Option Addr} (p:ENode→Bool) (q:Nat) (l:List ENode) (hl:l.length≤1048577) (w:World) (hs:w.ownsRow B 131 8 (.slice a l.length c) l.length (zat l)) (HP : ∀ k,k < l.length → ∀ (W:World),Below w.heap.size w W→Calls Tryz.prog 154 #[.agg #[.int .i64 (l.getD k default).fh,.int .i64 (l.getD k default).fN,.int .i64 (l.getD k default).fb,.int .i64 (l.getD k default).fk,.string (l.getD k default).fd,.string (l.getD k default).fa,.int .i64 ((l.getD k default).fc:Int),.int .i64 ((l.getD k default).fw:Int)],.pointer (some ⟨q,0,none⟩)] W fun e W'=>e = .returned (.bool (p (l.getD k default)))∧Below W.heap.size W W') :
  Calls Tryz.prog 153 #[.slice a l.length c,.func (.func 154) #[] #[.pointer (some ⟨q,0,none⟩)]] w fun e w'=>e = .returned (.bool (l.all p))∧Below w.heap.size w w':=by
 have HB:=yq ((Below.refl w.heap.size w).alloc (Nat.le_refl _) (.cells #[.func (.func 154) #[] #[.pointer (some ⟨q,0,none⟩)]] 187));have HD:=yq (zfb p l)
 have HI:=yq (zmj (c:=c) (fun x=>!p x) w.heap.size l hl (w.alloc (.cells #[.func (.func 154) #[] #[.pointer (some ⟨q,0,none⟩)]] 187)) (zl hs HB.out) (fun k hk  W hW =>ztr _ q _ _ W ((hW.cell (p:=⟨w.heap.size,0,none⟩) (by simp)).trans (by go_simp)) (Nat.lt_of_lt_of_le (by simp) hW.size) (fun W2 hW2=>HP k hk  W2 (HB.out.trans ((hW.trans (hW2.mono hW.size)).mono HB.out.size)))))
 clear hs HP;generalize l.all p=r at *
 generalize (l.any fun x=>!p x)=z at *
 generalize l.length=n at *
 go_enter Tryz.func153,Tryz.ntmps153
 (go_wp2_with fail);refine HI.out.mono ?_;rintro e w1 ⟨rfl,hb1⟩;have HB1:=yq (HB.out.trans (hb1.mono HB.out.size));clear hb1;go_wp2;go_ret;exact ⟨zh HD.out,HB1.out⟩
theorem zw0 (a8:Option Addr) (c8:Nat) (x:DEquation) (q:Nat) (v:Bool) (q1:Nat) (w:World) (hq:w.cell? ⟨q1,0,none⟩=some (.func (.func 81) #[] #[.pointer (some ⟨q,0,none⟩)])) (hql:q1 < w.heap.size)
  (hc : ∀ W,Below w.heap.size w W→Calls Tryz.prog 81 #[.agg #[.int .i64 x.fAt.fb,.string x.fAt.fa,.int .i64 x.fi.fh,.int .i64 x.fi.fN,.int .i64 x.fi.fb,.int .i64 x.fi.fk,.string x.fi.fd,.string x.fi.fa,.slice a8 x.fi.fc.length c8],.pointer (some ⟨q,0,none⟩)] W fun e W'=>e = .returned (.bool v)∧Below W.heap.size W W') :
  Calls Tryz.prog 120 #[.agg #[.int .i64 x.fAt.fb,.string x.fAt.fa,.int .i64 x.fi.fh,.int .i64 x.fi.fN,.int .i64 x.fi.fb,.int .i64 x.fi.fk,.string x.fi.fd,.string x.fi.fa,.slice a8 x.fi.fc.length c8],.pointer (some ⟨q1,0,none⟩)] w fun e w'=>e = .returned (.bool (!v))∧Below w.heap.size w w':=by
 have HB:=yq ((Below.refl w.heap.size w).alloc (Nat.le_refl _) (.cells #[.int .i64 x.fAt.fb,.string x.fAt.fa,.int .i64 x.fi.fh,.int .i64 x.fi.fN,.int .i64 x.fi.fb,.int .i64 x.fi.fk,.string x.fi.fd,.string x.fi.fa,.slice a8 x.fi.fc.length c8] 95));have HC:=yq (hc _ HB.out);clear hc
 go_enter Tryz.func120,Tryz.ntmps120
 (go_wp2_with fail);refine HC.out.mono ?_;rintro e w1 ⟨rfl,hb1⟩;have HB1:=yq (HB.out.trans (hb1.mono HB.out.size));clear hb1;go_wp2;go_ret;exact ⟨rfl,HB1.out⟩
theorem zux {hi c:Nat} {a:Option Addr} (q:DEquation→Bool) (q1:Nat) (l:List DEquation) (hl:l.length≤1048577) (w:World) (hhi:hi≤w.heap.size) (hs:Sf 0 hi w 9 l.length (fun k=>DEquation.ct (l.getD k default)) a) (HP : ∀ k,k < l.length → ∀ (a8:Option Addr) (c8:Nat) (W:World),Below w.heap.size w W→Sf 0 hi W 7 (l.getD k default).fi.fc.length (ctE (l.getD k default).fi.fc) a8→Calls Tryz.prog 120 #[.agg #[.int .i64 (l.getD k default).fAt.fb,.string (l.getD k default).fAt.fa,.int .i64 (l.getD k default).fi.fh,.int .i64 (l.getD k default).fi.fN,.int .i64 (l.getD k default).fi.fb,.int .i64 (l.getD k default).fi.fk,.string (l.getD k default).fi.fd,.string (l.getD k default).fi.fa,.slice a8 (l.getD k default).fi.fc.length c8],.pointer (some ⟨q1,0,none⟩)] W fun e W'=>e = .returned (.bool (q (l.getD k default)))∧Below W.heap.size W W') :
  Calls Tryz.prog 151 #[.slice a l.length c,.func (.func 120) #[] #[.pointer (some ⟨q1,0,none⟩)]] w fun e w'=>e = .returned (.int .i64 (idxI q l))∧Below w.heap.size w w':=by
 have HS:=yq hs;have HPX:=yq HP;clear hs HP
 go_enter Tryz.func151,Tryz.ntmps151
 go_wp2
 go_loopw [8] (fun i wr=>∃ k:Nat,k≤l.length∧i = .int .i64 (k:Int)∧zah q l k∧Below w.heap.size w wr) (fun i _=>l.length - (intOf i).toNat)
 case atStart=>exact ⟨0,Nat.zero_le _,rfl,zx _ _,Below.refl _ _⟩
 case round =>
  obtain ⟨k,hk,rfl,hno,hbl⟩:=hrel;have HBL:=yq hbl;have HNO:=yq hno;clear hno
  by_cases hlt:k < l.length
  ·obtain ⟨b,off,rfl,_,_,_,hc⟩:=(HS.out.later (hbl.mono hhi) (Nat.le_refl _)).at k hlt
   obtain ⟨a8,c8,hc0,hc1,hc2,hc3,hc4,hc5,hc6,hc7,hc8,hs8⟩:=DEquation.openS hc;have HC:=yq (HPX.out k hlt a8 c8 wr hbl hs8);clear hc;clear hbl
   cases hr:q (l.getD k default)
   ·have HPS:=yq (zt HNO.out hr)
    rw [hr] at HC;clear hr;generalize l.getD k default=x at *;(go_wp2_with fail);refine HC.out.mono ?_;rintro e w1 ⟨rfl,hb1⟩;have HB1:=yq (HBL.out.trans (hb1.mono HBL.out.size));clear hb1;go_wp2;go_roundw
    case rel=>exact ⟨k+1,by omega,by go_num,HPS.out,HB1.out⟩
    case measure=>simp [intOf];omega
   ·have FIN:=yq (zdh hlt hr HNO.out)
    rw [hr] at HC;clear hr;generalize l.getD k default=x at *;(go_wp2_with fail);refine HC.out.mono ?_;rintro e w1 ⟨rfl,hb1⟩;have HB1:=yq (HBL.out.trans (hb1.mono HBL.out.size));clear hb1;go_wp2;go_ret;exact ⟨zan FIN.out.symm,HB1.out⟩
  ·obtain rfl:k=l.length:=by omega
   have FIN:=yq (zbh HNO.out);go_wp2;go_ret;exact ⟨zan FIN.out.symm,HBL.out⟩
theorem zpx {hi c:Nat} {a:Option Addr} (q:DEquation→Bool) (q1:Nat) (l:List DEquation) (hl:l.length≤1048577) (w:World) (hhi:hi≤w.heap.size) (hs:Sf 0 hi w 9 l.length (fun k=>DEquation.ct (l.getD k default)) a) (HP : ∀ k,k < l.length → ∀ (a8:Option Addr) (c8:Nat) (W:World),Below w.heap.size w W→Sf 0 hi W 7 (l.getD k default).fi.fc.length (ctE (l.getD k default).fi.fc) a8→Calls Tryz.prog 120 #[.agg #[.int .i64 (l.getD k default).fAt.fb,.string (l.getD k default).fAt.fa,.int .i64 (l.getD k default).fi.fh,.int .i64 (l.getD k default).fi.fN,.int .i64 (l.getD k default).fi.fb,.int .i64 (l.getD k default).fi.fk,.string (l.getD k default).fi.fd,.string (l.getD k default).fi.fa,.slice a8 (l.getD k default).fi.fc.length c8],.pointer (some ⟨q1,0,none⟩)] W fun e W'=>e = .returned (.bool (q (l.getD k default)))∧Below W.heap.size W W') :
  Calls Tryz.prog 119 #[.slice a l.length c,.func (.func 120) #[] #[.pointer (some ⟨q1,0,none⟩)]] w fun e w'=>e = .returned (.bool (l.any q))∧Below w.heap.size w w':=by
 have HI:=yq (zux (c:=c) q q1 l hl w hhi hs HP);have HD:=yq (ze8 q l);clear hs HP;generalize idxI q l=z at *;generalize l.any q=r at *;generalize l.length=n at *
 go_enter Tryz.func119,Tryz.ntmps119
 (go_wp2_with fail);refine HI.out.mono ?_;rintro e w1 ⟨rfl,hb1⟩;go_wp2;go_ret;exact ⟨zh HD.out,hb1⟩
theorem zqe {hi c:Nat} {a:Option Addr} (p:DEquation→Bool) (q:Nat) (l:List DEquation) (hl:l.length≤1048577) (w:World) (hhi:hi≤w.heap.size) (hs:Sf 0 hi w 9 l.length (fun k=>DEquation.ct (l.getD k default)) a) (HP : ∀ k,k < l.length → ∀ (a8:Option Addr) (c8:Nat) (W:World),Below w.heap.size w W→Sf 0 hi W 7 (l.getD k default).fi.fc.length (ctE (l.getD k default).fi.fc) a8→Calls Tryz.prog 81 #[.agg #[.int .i64 (l.getD k default).fAt.fb,.string (l.getD k default).fAt.fa,.int .i64 (l.getD k default).fi.fh,.int .i64 (l.getD k default).fi.fN,.int .i64 (l.getD k default).fi.fb,.int .i64 (l.getD k default).fi.fk,.string (l.getD k default).fi.fd,.string (l.getD k default).fi.fa,.slice a8 (l.getD k default).fi.fc.length c8],.pointer (some ⟨q,0,none⟩)] W fun e W'=>e = .returned (.bool (p (l.getD k default)))∧Below W.heap.size W W') :
  Calls Tryz.prog 80 #[.slice a l.length c,.func (.func 81) #[] #[.pointer (some ⟨q,0,none⟩)]] w fun e w'=>e = .returned (.bool (l.all p))∧Below w.heap.size w w':=by
 have HB:=yq ((Below.refl w.heap.size w).alloc (Nat.le_refl _) (.cells #[.func (.func 81) #[] #[.pointer (some ⟨q,0,none⟩)]] 120));have HD:=yq (zfb p l)
 have HI:=yq (zpx (c:=c) (fun x=>!p x) w.heap.size l hl (w.alloc (.cells #[.func (.func 81) #[] #[.pointer (some ⟨q,0,none⟩)]] 120)) (Nat.le_trans hhi HB.out.size) (hs.later HB.out hhi) (fun k hk a8 c8 W hW h0=>zw0 a8 c8 _ q _ _ W ((hW.cell (p:=⟨w.heap.size,0,none⟩) (by simp)).trans (by go_simp)) (Nat.lt_of_lt_of_le (by simp) hW.size) (fun W2 hW2=>HP k hk a8 c8 W2 (HB.out.trans ((hW.trans (hW2.mono hW.size)).mono HB.out.size)) (h0.later (hW2.mono (Nat.le_trans hhi (Nat.le_trans HB.out.size hW.size))) (Nat.le_refl _)))))
 clear hs HP;generalize l.all p=r at *
 generalize (l.any fun x=>!p x)=z at *
 generalize l.length=n at *
 go_enter Tryz.func80,Tryz.ntmps80
 (go_wp2_with fail);refine HI.out.mono ?_;rintro e w1 ⟨rfl,hb1⟩;have HB1:=yq (HB.out.trans (hb1.mono HB.out.size));clear hb1;go_wp2;go_ret;exact ⟨zh HD.out,HB1.out⟩
theorem zv2 (a8:Option Addr) (c8:Nat) (a15:Option Addr) (c15:Nat) (x:DContribution) (q:Nat) (v:Bool) (q1:Nat) (w:World) (hq:w.cell? ⟨q1,0,none⟩=some (.func (.func 84) #[] #[.pointer (some ⟨q,0,none⟩)])) (hql:q1 < w.heap.size)
  (hc : ∀ W,Below w.heap.size w W→Calls Tryz.prog 84 #[.agg #[.string x.fd,.string x.fa,.int .i64 x.fe.fh,.int .i64 x.fe.fN,.int .i64 x.fe.fb,.int .i64 x.fe.fk,.string x.fe.fd,.string x.fe.fa,.slice a8 x.fe.fc.length c8,.int .i64 x.ff.fh,.int .i64 x.ff.fN,.int .i64 x.ff.fb,.int .i64 x.ff.fk,.string x.ff.fd,.string x.ff.fa,.slice a15 x.ff.fc.length c15],.pointer (some ⟨q,0,none⟩)] W fun e W'=>e = .returned (.bool v)∧Below W.heap.size W W') :
  Calls Tryz.prog 123 #[.agg #[.string x.fd,.string x.fa,.int .i64 x.fe.fh,.int .i64 x.fe.fN,.int .i64 x.fe.fb,.int .i64 x.fe.fk,.string x.fe.fd,.string x.fe.fa,.slice a8 x.fe.fc.length c8,.int .i64 x.ff.fh,.int .i64 x.ff.fN,.int .i64 x.ff.fb,.int .i64 x.ff.fk,.string x.ff.fd,.string x.ff.fa,.slice a15 x.ff.fc.length c15],.pointer (some ⟨q1,0,none⟩)] w fun e w'=>e = .returned (.bool (!v))∧Below w.heap.size w w':=by
 have HB:=yq ((Below.refl w.heap.size w).alloc (Nat.le_refl _) (.cells #[.string x.fd,.string x.fa,.int .i64 x.fe.fh,.int .i64 x.fe.fN,.int .i64 x.fe.fb,.int .i64 x.fe.fk,.string x.fe.fd,.string x.fe.fa,.slice a8 x.fe.fc.length c8,.int .i64 x.ff.fh,.int .i64 x.ff.fN,.int .i64 x.ff.fb,.int .i64 x.ff.fk,.string x.ff.fd,.string x.ff.fa,.slice a15 x.ff.fc.length c15] 110));have HC:=yq (hc _ HB.out);clear hc
 go_enter Tryz.func123,Tryz.ntmps123
 (go_wp2_with fail);refine HC.out.mono ?_;rintro e w1 ⟨rfl,hb1⟩;have HB1:=yq (HB.out.trans (hb1.mono HB.out.size));clear hb1;go_wp2;go_ret;exact ⟨rfl,HB1.out⟩
theorem zsx {hi c:Nat} {a:Option Addr} (q:DContribution→Bool) (q1:Nat) (l:List DContribution) (hl:l.length≤1048577) (w:World) (hhi:hi≤w.heap.size) (hs:Sf 0 hi w 16 l.length (fun k=>DContribution.ct (l.getD k default)) a) (HP : ∀ k,k < l.length → ∀ (a8:Option Addr) (c8:Nat) (a15:Option Addr) (c15:Nat) (W:World),Below w.heap.size w W→Sf 0 hi W 7 (l.getD k default).fe.fc.length (ctE (l.getD k default).fe.fc) a8→Sf 0 hi W 7 (l.getD k default).ff.fc.length (ctE (l.getD k default).ff.fc) a15→Calls Tryz.prog 123 #[.agg #[.string (l.getD k default).fd,.string (l.getD k default).fa,.int .i64 (l.getD k default).fe.fh,.int .i64 (l.getD k default).fe.fN,.int .i64 (l.getD k default).fe.fb,.int .i64 (l.getD k default).fe.fk,.string (l.getD k default).fe.fd,.string (l.getD k default).fe.fa,.slice a8 (l.getD k default).fe.fc.length c8,.int .i64 (l.getD k default).ff.fh,.int .i64 (l.getD k default).ff.fN,.int .i64 (l.getD k default).ff.fb,.int .i64 (l.getD k default).ff.fk,.string (l.getD k default).ff.fd,.string (l.getD k default).ff.fa,.slice a15 (l.getD k default).ff.fc.length c15],.pointer (some ⟨q1,0,none⟩)] W fun e W'=>e = .returned (.bool (q (l.getD k default)))∧Below W.heap.size W W') :
  Calls Tryz.prog 155 #[.slice a l.length c,.func (.func 123) #[] #[.pointer (some ⟨q1,0,none⟩)]] w fun e w'=>e = .returned (.int .i64 (idxI q l))∧Below w.heap.size w w':=by
 have HS:=yq hs;have HPX:=yq HP;clear hs HP
 go_enter Tryz.func155,Tryz.ntmps155
 go_wp2
 go_loopw [8] (fun i wr=>∃ k:Nat,k≤l.length∧i = .int .i64 (k:Int)∧zah q l k∧Below w.heap.size w wr) (fun i _=>l.length - (intOf i).toNat)
 case atStart=>exact ⟨0,Nat.zero_le _,rfl,zx _ _,Below.refl _ _⟩
 case round =>
  obtain ⟨k,hk,rfl,hno,hbl⟩:=hrel;have HBL:=yq hbl;have HNO:=yq hno;clear hno
  by_cases hlt:k < l.length
  ·obtain ⟨b,off,rfl,_,_,_,hc⟩:=(HS.out.later (hbl.mono hhi) (Nat.le_refl _)).at k hlt
   obtain ⟨a8,c8,a15,c15,hc0,hc1,hc2,hc3,hc4,hc5,hc6,hc7,hc8,hc9,hc10,hc11,hc12,hc13,hc14,hc15,hs8,hs15⟩:=DContribution.openS hc;have HC:=yq (HPX.out k hlt a8 c8 a15 c15 wr hbl hs8 hs15);clear hc;clear hbl
   cases hr:q (l.getD k default)
   ·have HPS:=yq (zt HNO.out hr)
    rw [hr] at HC;clear hr;generalize l.getD k default=x at *;(go_wp2_with fail);refine HC.out.mono ?_;rintro e w1 ⟨rfl,hb1⟩;have HB1:=yq (HBL.out.trans (hb1.mono HBL.out.size));clear hb1;go_wp2;go_roundw
    case rel=>exact ⟨k+1,by omega,by go_num,HPS.out,HB1.out⟩
    case measure=>simp [intOf];omega
   ·have FIN:=yq (zdh hlt hr HNO.out)
    rw [hr] at HC;clear hr;generalize l.getD k default=x at *;(go_wp2_with fail);refine HC.out.mono ?_;rintro e w1 ⟨rfl,hb1⟩;have HB1:=yq (HBL.out.trans (hb1.mono HBL.out.size));clear hb1;go_wp2;go_ret;exact ⟨zan FIN.out.symm,HB1.out⟩
  ·obtain rfl:k=l.length:=by omega
   have FIN:=yq (zbh HNO.out);go_wp2;go_ret;exact ⟨zan FIN.out.symm,HBL.out⟩
theorem zoj {hi c:Nat} {a:Option Addr} (q:DContribution→Bool) (q1:Nat) (l:List DContribution) (hl:l.length≤1048577) (w:World) (hhi:hi≤w.heap.size) (hs:Sf 0 hi w 16 l.length (fun k=>DContribution.ct (l.getD k default)) a) (HP : ∀ k,k < l.length → ∀ (a8:Option Addr) (c8:Nat) (a15:Option Addr) (c15:Nat) (W:World),Below w.heap.size w W→Sf 0 hi W 7 (l.getD k default).fe.fc.length (ctE (l.getD k default).fe.fc) a8→Sf 0 hi W 7 (l.getD k default).ff.fc.length (ctE (l.getD k default).ff.fc) a15→Calls Tryz.prog 123 #[.agg #[.string (l.getD k default).fd,.string (l.getD k default).fa,.int .i64 (l.getD k default).fe.fh,.int .i64 (l.getD k default).fe.fN,.int .i64 (l.getD k default).fe.fb,.int .i64 (l.getD k default).fe.fk,.string (l.getD k default).fe.fd,.string (l.getD k default).fe.fa,.slice a8 (l.getD k default).fe.fc.length c8,.int .i64 (l.getD k default).ff.fh,.int .i64 (l.getD k default).ff.fN,.int .i64 (l.getD k default).ff.fb,.int .i64 (l.getD k default).ff.fk,.string (l.getD k default).ff.fd,.string (l.getD k default).ff.fa,.slice a15 (l.getD k default).ff.fc.length c15],.pointer (some ⟨q1,0,none⟩)] W fun e W'=>e = .returned (.bool (q (l.getD k default)))∧Below W.heap.size W W') :
  Calls Tryz.prog 122 #[.slice a l.length c,.func (.func 123) #[] #[.pointer (some ⟨q1,0,none⟩)]] w fun e w'=>e = .returned (.bool (l.any q))∧Below w.heap.size w w':=by
 have HI:=yq (zsx (c:=c) q q1 l hl w hhi hs HP);have HD:=yq (ze8 q l);clear hs HP;generalize idxI q l=z at *;generalize l.any q=r at *;generalize l.length=n at *
 go_enter Tryz.func122,Tryz.ntmps122
 (go_wp2_with fail);refine HI.out.mono ?_;rintro e w1 ⟨rfl,hb1⟩;go_wp2;go_ret;exact ⟨zh HD.out,hb1⟩
theorem zoy {hi c:Nat} {a:Option Addr} (p:DContribution→Bool) (q:Nat) (l:List DContribution) (hl:l.length≤1048577) (w:World) (hhi:hi≤w.heap.size) (hs:Sf 0 hi w 16 l.length (fun k=>DContribution.ct (l.getD k default)) a) (HP : ∀ k,k < l.length → ∀ (a8:Option Addr) (c8:Nat) (a15:Option Addr) (c15:Nat) (W:World),Below w.heap.size w W→Sf 0 hi W 7 (l.getD k default).fe.fc.length (ctE (l.getD k default).fe.fc) a8→Sf 0 hi W 7 (l.getD k default).ff.fc.length (ctE (l.getD k default).ff.fc) a15→Calls Tryz.prog 84 #[.agg #[.string (l.getD k default).fd,.string (l.getD k default).fa,.int .i64 (l.getD k default).fe.fh,.int .i64 (l.getD k default).fe.fN,.int .i64 (l.getD k default).fe.fb,.int .i64 (l.getD k default).fe.fk,.string (l.getD k default).fe.fd,.string (l.getD k default).fe.fa,.slice a8 (l.getD k default).fe.fc.length c8,.int .i64 (l.getD k default).ff.fh,.int .i64 (l.getD k default).ff.fN,.int .i64 (l.getD k default).ff.fb,.int .i64 (l.getD k default).ff.fk,.string (l.getD k default).ff.fd,.string (l.getD k default).ff.fa,.slice a15 (l.getD k default).ff.fc.length c15],.pointer (some ⟨q,0,none⟩)] W fun e W'=>e = .returned (.bool (p (l.getD k default)))∧Below W.heap.size W W') :
  Calls Tryz.prog 83 #[.slice a l.length c,.func (.func 84) #[] #[.pointer (some ⟨q,0,none⟩)]] w fun e w'=>e = .returned (.bool (l.all p))∧Below w.heap.size w w':=by
 have HB:=yq ((Below.refl w.heap.size w).alloc (Nat.le_refl _) (.cells #[.func (.func 84) #[] #[.pointer (some ⟨q,0,none⟩)]] 123));have HD:=yq (zfb p l)
 have HI:=yq (zoj (c:=c) (fun x=>!p x) w.heap.size l hl (w.alloc (.cells #[.func (.func 84) #[] #[.pointer (some ⟨q,0,none⟩)]] 123)) (Nat.le_trans hhi HB.out.size) (hs.later HB.out hhi) (fun k hk a8 c8 a15 c15 W hW h0 h1=>zv2 a8 c8 a15 c15 _ q _ _ W ((hW.cell (p:=⟨w.heap.size,0,none⟩) (by simp)).trans (by go_simp)) (Nat.lt_of_lt_of_le (by simp) hW.size) (fun W2 hW2=>HP k hk a8 c8 a15 c15 W2 (HB.out.trans ((hW.trans (hW2.mono hW.size)).mono HB.out.size)) (h0.later (hW2.mono (Nat.le_trans hhi (Nat.le_trans HB.out.size hW.size))) (Nat.le_refl _)) (h1.later (hW2.mono (Nat.le_trans hhi (Nat.le_trans HB.out.size hW.size))) (Nat.le_refl _)))))
 clear hs HP;generalize l.all p=r at *
 generalize (l.any fun x=>!p x)=z at *
 generalize l.length=n at *
 go_enter Tryz.func83,Tryz.ntmps83
 (go_wp2_with fail);refine HI.out.mono ?_;rintro e w1 ⟨rfl,hb1⟩;have HB1:=yq (HB.out.trans (hb1.mono HB.out.size));clear hb1;go_wp2;go_ret;exact ⟨zh HD.out,HB1.out⟩
end Go.Proofs.YtmbaajangkmjdaaGreat
