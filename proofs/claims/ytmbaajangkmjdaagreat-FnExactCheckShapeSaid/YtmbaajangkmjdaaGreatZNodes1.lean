/-
  One node of an expression: nodeOf.
-/
import Derived.Test.YtmbaajangkmjdaaGreatZz3
import Derived.Test.YtmbaajangkmjdaaGreatZPSet
import Derived.StillTailTactics
set_option maxHeartbeats 1600000
set_option maxRecDepth 100000
namespace Go.Proofs.YtmbaajangkmjdaaGreat
open Go.ChangeShapes Go.WideShapes Go.ChangeAt Go.RowKit Go.Deep
theorem zrw {b off c6:Nat} {a6:Option Addr} (x:DExpr) (d:Nat) (w:World)
  (hc0:w.cell? ⟨b,off,none⟩=some (.int .i64 x.fh)) (hc1:w.cell? ⟨b,off+1,none⟩=some (.int .i64 x.fN)) (hc2:w.cell? ⟨b,off+2,none⟩=some (.int .i64 x.fb)) (hc3:w.cell? ⟨b,off+3,none⟩=some (.int .i64 x.fk)) (hc4:w.cell? ⟨b,off+4,none⟩=some (.string x.fd)) (hc5:w.cell? ⟨b,off+5,none⟩=some (.string x.fa)) (hc6:w.cell? ⟨b,off+6,none⟩=some (.slice a6 x.fc.length c6)) :
  Calls Tryz.prog 156 #[.pointer (some ⟨b,off,none⟩),.int .i64 (d:Int)] w fun e w'=>e = .returned (.agg #[.int .i64 x.fh,.int .i64 x.fN,.int .i64 x.fb,.int .i64 x.fk,.string x.fd,.string x.fa,.int .i64 (x.fc.length:Int),.int .i64 (d:Int)])∧Below w.heap.size w w':=by
 generalize x.fc.length=n at *;have hb:b < w.heap.size:=zd5 hc0
 go_enter Tryz.func156,Tryz.ntmps156
 go_wp2
 go_region
 go_wp2
 go_region
 go_wp2
 refine bodyPost_ret (v:=.agg #[.int .i64 x.fh,.int .i64 x.fN,.int .i64 x.fb,.int .i64 x.fk,.string x.fd,.string x.fa,.int .i64 (n:Int),.int .i64 (d:Int)]) (results_cell_row Tryz.results156 _ _ w.heap.size 131 #[.int .i64 x.fh,.int .i64 x.fN,.int .i64 x.fb,.int .i64 x.fk,.string x.fd,.string x.fa,.int .i64 (n:Int),.int .i64 (d:Int)] (0,0) _ rfl (zn (by simp) (ze rfl)) Tryz.underlying131 rfl rfl) rfl ⟨rfl,?_⟩
 exact (((Below.refl _ _).alloc (Nat.le_refl _) _).alloc (by simp) _).drew.drew
end Go.Proofs.YtmbaajangkmjdaaGreat
