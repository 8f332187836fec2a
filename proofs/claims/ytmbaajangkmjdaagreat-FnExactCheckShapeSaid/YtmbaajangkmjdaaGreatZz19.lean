/-
  Chapter 3: the operators' types and functions, in the program.
  Chapter 3: OperandTypes and ApplyOp, in the program and in the model.
-/
import Derived.Test.YtmbaajangkmjdaaGreatZz4
import Derived.Great.BuildSlice
import Derived.Deep.WholeRow
import Derived.Laws.EntriesVeiled
set_option maxHeartbeats 800000
set_option maxRecDepth 100000
namespace Go.Proofs.YtmbaajangkmjdaaGreat
open Go.ChangeShapes Go.WideShapes Go.ChangeAt Go.RowKit
def opV1:Value:=.agg #[.int .i64 1,.int .i64 1,.int .i64 1,.func (.func 214) #[] #[]]
def opV2:Value:=.agg #[.int .i64 1,.int .i64 1,.int .i64 1,.func (.func 216) #[] #[]]
def opV3:Value:=.agg #[.int .i64 1,.int .i64 1,.int .i64 1,.func (.func 217) #[] #[]]
def opV4:Value:=.agg #[.int .i64 1,.int .i64 1,.int .i64 1,.func (.func 218) #[] #[]]
def opV5:Value:=.agg #[.int .i64 1,.int .i64 1,.int .i64 1,.func (.func 219) #[] #[]]
def opV6:Value:=.agg #[.int .i64 2,.int .i64 2,.int .i64 2,.func (.func 220) #[] #[]]
def opV7:Value:=.agg #[.int .i64 2,.int .i64 2,.int .i64 2,.func (.func 221) #[] #[]]
def opV8:Value:=.agg #[.int .i64 2,.int .i64 2,.int .i64 2,.func (.func 222) #[] #[]]
def opV9:Value:=.agg #[.int .i64 1,.int .i64 1,.int .i64 3,.func (.func 223) #[] #[]]
def zvy:Value:=.agg #[.int .i64 1,.int .i64 1,.int .i64 3,.func (.func 225) #[] #[]]
def zw2:Value:=.agg #[.int .i64 2,.int .i64 1,.int .i64 3,.func (.func 226) #[] #[]]
def zye:Value:=.agg #[.int .i64 2,.int .i64 1,.int .i64 2,.func (.func 228) #[] #[]]
def zln:Array Value:=#[.int .i64 0,.int .i64 0,.int .i64 0,.nilFunc,
 .int .i64 1,.int .i64 1,.int .i64 1,.func (.func 214) #[] #[],
 .int .i64 1,.int .i64 1,.int .i64 1,.func (.func 216) #[] #[],
 .int .i64 1,.int .i64 1,.int .i64 1,.func (.func 217) #[] #[],
 .int .i64 1,.int .i64 1,.int .i64 1,.func (.func 218) #[] #[],
 .int .i64 1,.int .i64 1,.int .i64 1,.func (.func 219) #[] #[],
 .int .i64 2,.int .i64 2,.int .i64 2,.func (.func 220) #[] #[],
 .int .i64 2,.int .i64 2,.int .i64 2,.func (.func 221) #[] #[],
 .int .i64 2,.int .i64 2,.int .i64 2,.func (.func 222) #[] #[],
 .int .i64 1,.int .i64 1,.int .i64 3,.func (.func 223) #[] #[],
 .int .i64 1,.int .i64 1,.int .i64 3,.func (.func 225) #[] #[],
 .int .i64 2,.int .i64 1,.int .i64 3,.func (.func 226) #[] #[],
 .int .i64 2,.int .i64 1,.int .i64 2,.func (.func 228) #[] #[]]
theorem zme (w:World) :
  Calls Tryz.prog 209 #[] w fun e w'=>e = .returned (.agg zln)∧Below w.heap.size w w':=by
 go_enter Tryz.func209,Tryz.ntmps209
 go_wp2_with (first
  | (refine wpList_buildTo rfl 230 _ rfl (some 1) rfl #[.int .i64 1,.int .i64 1,.int .i64 1,.func (.func 214) #[] #[]] (by kernel_rfl) ?_;refine wpList_frame (a':={ tmps:=#[.pointer (some ⟨w.heap.size,0,none⟩),opV1,undef,undef,undef,undef,undef,undef,undef,undef,undef,undef,undef,undef],defers:=[] }) (by kernel_rfl) ?_)
  | (refine wpList_buildTo rfl 230 _ rfl (some 2) rfl #[.int .i64 1,.int .i64 1,.int .i64 1,.func (.func 216) #[] #[]] (by kernel_rfl) ?_;refine wpList_frame (a':={ tmps:=#[.pointer (some ⟨w.heap.size,0,none⟩),opV1,opV2,undef,undef,undef,undef,undef,undef,undef,undef,undef,undef,undef],defers:=[] }) (by kernel_rfl) ?_)
  | (refine wpList_buildTo rfl 230 _ rfl (some 3) rfl #[.int .i64 1,.int .i64 1,.int .i64 1,.func (.func 217) #[] #[]] (by kernel_rfl) ?_;refine wpList_frame (a':={ tmps:=#[.pointer (some ⟨w.heap.size,0,none⟩),opV1,opV2,opV3,undef,undef,undef,undef,undef,undef,undef,undef,undef,undef],defers:=[] }) (by kernel_rfl) ?_)
  | (refine wpList_buildTo rfl 230 _ rfl (some 4) rfl #[.int .i64 1,.int .i64 1,.int .i64 1,.func (.func 218) #[] #[]] (by kernel_rfl) ?_;refine wpList_frame (a':={ tmps:=#[.pointer (some ⟨w.heap.size,0,none⟩),opV1,opV2,opV3,opV4,undef,undef,undef,undef,undef,undef,undef,undef,undef],defers:=[] }) (by kernel_rfl) ?_)
  | (refine wpList_buildTo rfl 230 _ rfl (some 5) rfl #[.int .i64 1,.int .i64 1,.int .i64 1,.func (.func 219) #[] #[]] (by kernel_rfl) ?_;refine wpList_frame (a':={ tmps:=#[.pointer (some ⟨w.heap.size,0,none⟩),opV1,opV2,opV3,opV4,opV5,undef,undef,undef,undef,undef,undef,undef,undef],defers:=[] }) (by kernel_rfl) ?_)
  | (refine wpList_buildTo rfl 230 _ rfl (some 6) rfl #[.int .i64 2,.int .i64 2,.int .i64 2,.func (.func 220) #[] #[]] (by kernel_rfl) ?_;refine wpList_frame (a':={ tmps:=#[.pointer (some ⟨w.heap.size,0,none⟩),opV1,opV2,opV3,opV4,opV5,opV6,undef,undef,undef,undef,undef,undef,undef],defers:=[] }) (by kernel_rfl) ?_)
  | (refine wpList_buildTo rfl 230 _ rfl (some 7) rfl #[.int .i64 2,.int .i64 2,.int .i64 2,.func (.func 221) #[] #[]] (by kernel_rfl) ?_;refine wpList_frame (a':={ tmps:=#[.pointer (some ⟨w.heap.size,0,none⟩),opV1,opV2,opV3,opV4,opV5,opV6,opV7,undef,undef,undef,undef,undef,undef],defers:=[] }) (by kernel_rfl) ?_)
  | (refine wpList_buildTo rfl 230 _ rfl (some 8) rfl #[.int .i64 2,.int .i64 2,.int .i64 2,.func (.func 222) #[] #[]] (by kernel_rfl) ?_;refine wpList_frame (a':={ tmps:=#[.pointer (some ⟨w.heap.size,0,none⟩),opV1,opV2,opV3,opV4,opV5,opV6,opV7,opV8,undef,undef,undef,undef,undef],defers:=[] }) (by kernel_rfl) ?_)
  | (refine wpList_buildTo rfl 230 _ rfl (some 9) rfl #[.int .i64 1,.int .i64 1,.int .i64 3,.func (.func 223) #[] #[]] (by kernel_rfl) ?_;refine wpList_frame (a':={ tmps:=#[.pointer (some ⟨w.heap.size,0,none⟩),opV1,opV2,opV3,opV4,opV5,opV6,opV7,opV8,opV9,undef,undef,undef,undef],defers:=[] }) (by kernel_rfl) ?_)
  | (refine wpList_buildTo rfl 230 _ rfl (some 10) rfl #[.int .i64 1,.int .i64 1,.int .i64 3,.func (.func 225) #[] #[]] (by kernel_rfl) ?_;refine wpList_frame (a':={ tmps:=#[.pointer (some ⟨w.heap.size,0,none⟩),opV1,opV2,opV3,opV4,opV5,opV6,opV7,opV8,opV9,zvy,undef,undef,undef],defers:=[] }) (by kernel_rfl) ?_)
  | (refine wpList_buildTo rfl 230 _ rfl (some 11) rfl #[.int .i64 2,.int .i64 1,.int .i64 3,.func (.func 226) #[] #[]] (by kernel_rfl) ?_;refine wpList_frame (a':={ tmps:=#[.pointer (some ⟨w.heap.size,0,none⟩),opV1,opV2,opV3,opV4,opV5,opV6,opV7,opV8,opV9,zvy,zw2,undef,undef],defers:=[] }) (by kernel_rfl) ?_)
  | (refine wpList_buildTo rfl 230 _ rfl (some 12) rfl #[.int .i64 2,.int .i64 1,.int .i64 2,.func (.func 228) #[] #[]] (by kernel_rfl) ?_;refine wpList_frame (a':={ tmps:=#[.pointer (some ⟨w.heap.size,0,none⟩),opV1,opV2,opV3,opV4,opV5,opV6,opV7,opV8,opV9,zvy,zw2,zye,undef],defers:=[] }) (by kernel_rfl) ?_)
  | (refine wpList_buildTo rfl 237 _ rfl (some 13) rfl zln (by kernel_rfl) ?_;refine wpList_frame (a':={ tmps:=#[.pointer (some ⟨w.heap.size,0,none⟩),opV1,opV2,opV3,opV4,opV5,opV6,opV7,opV8,opV9,zvy,zw2,zye,.agg zln],defers:=[] }) (by kernel_rfl) ?_)
  | (refine wpList_store_rowTo rfl 237 (.tmp 0) (.tmp 13) rfl rfl w.heap.size zln rfl rfl 237 _ (heap_alloc_last w _) (by kernel_rfl) (by kernel_rfl) (by kernel_rfl) ?_;rw [World.setRow_alloc_new]))
 exact bodyPost_ret (v:=.agg zln) (results_cell_row rfl _ _ w.heap.size 237 zln (0,0) _ rfl (heap_alloc_last w _) Tryz.underlying237 rfl (by kernel_rfl)) rfl ⟨rfl,(Below.refl _ _).alloc (Nat.le_refl _) _⟩
theorem zpr {B:Nat} {a w:World} (h:Below B a w) {g:Nat} (hg:B≤g) (cs:Array Value):Below B a (w.setRow g cs) :=
 ⟨h.os,h.tape,h.output,by have:=h.size;simp [World.setRow];omega,fun k hk=>(setRow_other w g k cs (by omega)).trans (h.block k hk)⟩
theorem zxs {k:Int}:(k < 1∨12 < k)∨k=1∨k=2∨k=3∨k=4∨k=5∨k=6∨k=7∨k=8∨k=9∨k=10∨k=11∨k=12:=by omega
theorem zgw (k:Int) (hk:k < 1∨12 < k) (w:World) :
  Calls Tryz.prog 201 #[.int .i64 k] w fun e w'=>e = .returned (.agg #[.int .i64 0,.int .i64 0,.int .i64 0,.nilFunc])∧Below w.heap.size w w':=by
 rcases (by omega:k < 1∨(1≤k∧12 < k)) with h|⟨h,h'⟩
 all_goals
  clear hk
  go_enter Tryz.func201,Tryz.ntmps201
  go_wp2_with (first
   | (refine wpList_buildTo rfl 230 _ rfl (some 9) rfl #[.int .i64 0,.int .i64 0,.int .i64 0,.nilFunc] (by kernel_rfl) ?_)
   | (refine wpList_store_rowTo rfl 230 (.tmp 2) (.tmp 9) rfl rfl w.heap.size #[.int .i64 0,.int .i64 0,.int .i64 0,.nilFunc] rfl rfl 230 _ (heap_alloc_last w _) (by kernel_rfl) (by kernel_rfl) (by kernel_rfl) ?_;rw [World.setRow_alloc_new]))
  exact bodyPost_ret (v:=.agg #[.int .i64 0,.int .i64 0,.int .i64 0,.nilFunc]) (results_cell_row rfl _ _ w.heap.size 230 #[.int .i64 0,.int .i64 0,.int .i64 0,.nilFunc] (0,0) _ rfl (heap_alloc_last w _) Tryz.underlying230 rfl (by kernel_rfl)) rfl ⟨rfl,(Below.refl _ _).alloc (Nat.le_refl _) _⟩
theorem zz (k:Int) (h1:1≤k) (h12:k≤12) (cs:Array Value) (hcs:cs.size=4) (hone:cs.all (·.oneCell')=true) (hidx : ∀ w,(Instr.index 237 (.agg zln) (.int .i64 k)).run Tryz.prog w = .ok (.agg cs) w) (w:World) :
  Calls Tryz.prog 201 #[.int .i64 k] w fun e w'=>e = .returned (.agg cs)∧Below w.heap.size w w':=by
 have hsz:(Tryz.prog.info? 230).map (·.size)=some cs.size:=by rw [hcs];kernel_rfl
 have HSZ:=yq hsz;have HCS:=yq hcs;have HONE:=yq hone;clear hsz hcs hone
 go_enter Tryz.func201,Tryz.ntmps201
 (go_wp2_with fail);refine (zme _).mono ?_;rintro e w1 ⟨rfl,hb⟩
 have hg:w1.heap[w.heap.size]? = some (.cells #[.int .i64 0,.int .i64 0,.int .i64 0,.nilFunc] 230 (0,0)):=(hb.block w.heap.size (by simp)).trans (heap_alloc_last w _)
 have HB:=yq (((Below.refl w.heap.size w).alloc (Nat.le_refl _) _).trans (hb.mono (by simp)))
 have HG:=yq hg;clear hb hg
 go_wp2_with (refine wpList_store_rowTo rfl 230 (.tmp 2) (.tmp 12) rfl rfl w.heap.size cs rfl rfl 230 _ HG.out HSZ.out HCS.out.symm HONE.out ?_)
 exact bodyPost_ret (v:=.agg cs) (results_cell_row rfl _ _ w.heap.size 230 cs (0,0) _ rfl (setRow_heap _ _ _ _ _ _ HG.out) Tryz.underlying230 rfl HSZ.out) rfl ⟨rfl,zpr HB.out (Nat.le_refl _) cs⟩
theorem zhp (w:World) :
  Calls Tryz.prog 201 #[.int .i64 1] w fun e w'=>e = .returned (.agg #[.int .i64 1,.int .i64 1,.int .i64 1,.func (.func 214) #[] #[]])∧Below w.heap.size w w' :=
 zz 1 (by decide) (by decide) _ rfl (by kernel_rfl) (fun w=>by kernel_rfl) w
theorem zh2 (w:World) :
  Calls Tryz.prog 201 #[.int .i64 2] w fun e w'=>e = .returned (.agg #[.int .i64 1,.int .i64 1,.int .i64 1,.func (.func 216) #[] #[]])∧Below w.heap.size w w' :=
 zz 2 (by decide) (by decide) _ rfl (by kernel_rfl) (fun w=>by kernel_rfl) w
theorem zhq (w:World) :
  Calls Tryz.prog 201 #[.int .i64 3] w fun e w'=>e = .returned (.agg #[.int .i64 1,.int .i64 1,.int .i64 1,.func (.func 217) #[] #[]])∧Below w.heap.size w w' :=
 zz 3 (by decide) (by decide) _ rfl (by kernel_rfl) (fun w=>by kernel_rfl) w
theorem zhm (w:World) :
  Calls Tryz.prog 201 #[.int .i64 4] w fun e w'=>e = .returned (.agg #[.int .i64 1,.int .i64 1,.int .i64 1,.func (.func 218) #[] #[]])∧Below w.heap.size w w' :=
 zz 4 (by decide) (by decide) _ rfl (by kernel_rfl) (fun w=>by kernel_rfl) w
theorem zig (w:World) :
  Calls Tryz.prog 201 #[.int .i64 5] w fun e w'=>e = .returned (.agg #[.int .i64 1,.int .i64 1,.int .i64 1,.func (.func 219) #[] #[]])∧Below w.heap.size w w' :=
 zz 5 (by decide) (by decide) _ rfl (by kernel_rfl) (fun w=>by kernel_rfl) w
theorem zho (w:World) :
  Calls Tryz.prog 201 #[.int .i64 6] w fun e w'=>e = .returned (.agg #[.int .i64 2,.int .i64 2,.int .i64 2,.func (.func 220) #[] #[]])∧Below w.heap.size w w' :=
 zz 6 (by decide) (by decide) _ rfl (by kernel_rfl) (fun w=>by kernel_rfl) w
theorem zhs (w:World) :
  Calls Tryz.prog 201 #[.int .i64 7] w fun e w'=>e = .returned (.agg #[.int .i64 2,.int .i64 2,.int .i64 2,.func (.func 221) #[] #[]])∧Below w.heap.size w w' :=
 zz 7 (by decide) (by decide) _ rfl (by kernel_rfl) (fun w=>by kernel_rfl) w
theorem zij (w:World) :
  Calls Tryz.prog 201 #[.int .i64 8] w fun e w'=>e = .returned (.agg #[.int .i64 2,.int .i64 2,.int .i64 2,.func (.func 222) #[] #[]])∧Below w.heap.size w w' :=
 zz 8 (by decide) (by decide) _ rfl (by kernel_rfl) (fun w=>by kernel_rfl) w
theorem zid (w:World) :
  Calls Tryz.prog 201 #[.int .i64 9] w fun e w'=>e = .returned (.agg #[.int .i64 1,.int .i64 1,.int .i64 3,.func (.func 223) #[] #[]])∧Below w.heap.size w w' :=
 zz 9 (by decide) (by decide) _ rfl (by kernel_rfl) (fun w=>by kernel_rfl) w
theorem zhh (w:World) :
  Calls Tryz.prog 201 #[.int .i64 10] w fun e w'=>e = .returned (.agg #[.int .i64 1,.int .i64 1,.int .i64 3,.func (.func 225) #[] #[]])∧Below w.heap.size w w' :=
 zz 10 (by decide) (by decide) _ rfl (by kernel_rfl) (fun w=>by kernel_rfl) w
theorem zgx (w:World) :
  Calls Tryz.prog 201 #[.int .i64 11] w fun e w'=>e = .returned (.agg #[.int .i64 2,.int .i64 1,.int .i64 3,.func (.func 226) #[] #[]])∧Below w.heap.size w w' :=
 zz 11 (by decide) (by decide) _ rfl (by kernel_rfl) (fun w=>by kernel_rfl) w
theorem zgm (w:World) :
  Calls Tryz.prog 201 #[.int .i64 12] w fun e w'=>e = .returned (.agg #[.int .i64 2,.int .i64 1,.int .i64 2,.func (.func 228) #[] #[]])∧Below w.heap.size w w' :=
 zz 12 (by decide) (by decide) _ rfl (by kernel_rfl) (fun w=>by kernel_rfl) w
end Go.Proofs.YtmbaajangkmjdaaGreat
