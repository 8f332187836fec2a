/-
  Chapter 3: the operators' types and functions, in the program.
-/
import Derived.Test.YtmbihfeocfikbaaV0
import Derived.Great.BuildSlice
import Derived.Deep.WholeRow
namespace Go.Proofs.Ytmbihfeocfikbaa
open Go.ChangeShapes Go.WideShapes Go.ChangeAt Go.RowKit

def opV1 : Value := .agg #[.int .i64 1, .int .i64 1, .int .i64 1, .func (.func 159) #[] #[]]
def opV2 : Value := .agg #[.int .i64 1, .int .i64 1, .int .i64 1, .func (.func 161) #[] #[]]
def opV3 : Value := .agg #[.int .i64 1, .int .i64 1, .int .i64 1, .func (.func 162) #[] #[]]
def opV4 : Value := .agg #[.int .i64 1, .int .i64 1, .int .i64 1, .func (.func 163) #[] #[]]
def opV5 : Value := .agg #[.int .i64 1, .int .i64 1, .int .i64 1, .func (.func 164) #[] #[]]
def opV6 : Value := .agg #[.int .i64 2, .int .i64 2, .int .i64 2, .func (.func 165) #[] #[]]
def opV7 : Value := .agg #[.int .i64 2, .int .i64 2, .int .i64 2, .func (.func 166) #[] #[]]
def opV8 : Value := .agg #[.int .i64 2, .int .i64 2, .int .i64 2, .func (.func 167) #[] #[]]
def opV9 : Value := .agg #[.int .i64 1, .int .i64 1, .int .i64 3, .func (.func 168) #[] #[]]
def opV10 : Value := .agg #[.int .i64 1, .int .i64 1, .int .i64 3, .func (.func 170) #[] #[]]
def opV11 : Value := .agg #[.int .i64 2, .int .i64 1, .int .i64 3, .func (.func 171) #[] #[]]
def opV12 : Value := .agg #[.int .i64 2, .int .i64 1, .int .i64 2, .func (.func 173) #[] #[]]
def opsArr : Array Value := #[.int .i64 0, .int .i64 0, .int .i64 0, .nilFunc,
  .int .i64 1, .int .i64 1, .int .i64 1, .func (.func 159) #[] #[],
  .int .i64 1, .int .i64 1, .int .i64 1, .func (.func 161) #[] #[],
  .int .i64 1, .int .i64 1, .int .i64 1, .func (.func 162) #[] #[],
  .int .i64 1, .int .i64 1, .int .i64 1, .func (.func 163) #[] #[],
  .int .i64 1, .int .i64 1, .int .i64 1, .func (.func 164) #[] #[],
  .int .i64 2, .int .i64 2, .int .i64 2, .func (.func 165) #[] #[],
  .int .i64 2, .int .i64 2, .int .i64 2, .func (.func 166) #[] #[],
  .int .i64 2, .int .i64 2, .int .i64 2, .func (.func 167) #[] #[],
  .int .i64 1, .int .i64 1, .int .i64 3, .func (.func 168) #[] #[],
  .int .i64 1, .int .i64 1, .int .i64 3, .func (.func 170) #[] #[],
  .int .i64 2, .int .i64 1, .int .i64 3, .func (.func 171) #[] #[],
  .int .i64 2, .int .i64 1, .int .i64 2, .func (.func 173) #[] #[]]

set_option maxHeartbeats 800000 in
set_option maxRecDepth 100000 in
theorem impl_operators (w : World) :
    Calls Try.prog 137 #[] w fun e w' => e = .returned (.agg opsArr) ∧ Below w.heap.size w w' := by
  go_enter Try.func137, Try.ntmps137
  go_wp2_with (first
    | (refine wpList_buildTo rfl 140 _ rfl (some 1) rfl #[.int .i64 1, .int .i64 1, .int .i64 1, .func (.func 159) #[] #[]] (by kernel_rfl) ?_; refine wpList_frame (a' := { tmps := #[.pointer (some ⟨w.heap.size, 0, none⟩), opV1, undef, undef, undef, undef, undef, undef, undef, undef, undef, undef, undef, undef], defers := [] }) (by kernel_rfl) ?_)
    | (refine wpList_buildTo rfl 140 _ rfl (some 2) rfl #[.int .i64 1, .int .i64 1, .int .i64 1, .func (.func 161) #[] #[]] (by kernel_rfl) ?_; refine wpList_frame (a' := { tmps := #[.pointer (some ⟨w.heap.size, 0, none⟩), opV1, opV2, undef, undef, undef, undef, undef, undef, undef, undef, undef, undef, undef], defers := [] }) (by kernel_rfl) ?_)
    | (refine wpList_buildTo rfl 140 _ rfl (some 3) rfl #[.int .i64 1, .int .i64 1, .int .i64 1, .func (.func 162) #[] #[]] (by kernel_rfl) ?_; refine wpList_frame (a' := { tmps := #[.pointer (some ⟨w.heap.size, 0, none⟩), opV1, opV2, opV3, undef, undef, undef, undef, undef, undef, undef, undef, undef, undef], defers := [] }) (by kernel_rfl) ?_)
    | (refine wpList_buildTo rfl 140 _ rfl (some 4) rfl #[.int .i64 1, .int .i64 1, .int .i64 1, .func (.func 163) #[] #[]] (by kernel_rfl) ?_; refine wpList_frame (a' := { tmps := #[.pointer (some ⟨w.heap.size, 0, none⟩), opV1, opV2, opV3, opV4, undef, undef, undef, undef, undef, undef, undef, undef, undef], defers := [] }) (by kernel_rfl) ?_)
    | (refine wpList_buildTo rfl 140 _ rfl (some 5) rfl #[.int .i64 1, .int .i64 1, .int .i64 1, .func (.func 164) #[] #[]] (by kernel_rfl) ?_; refine wpList_frame (a' := { tmps := #[.pointer (some ⟨w.heap.size, 0, none⟩), opV1, opV2, opV3, opV4, opV5, undef, undef, undef, undef, undef, undef, undef, undef], defers := [] }) (by kernel_rfl) ?_)
    | (refine wpList_buildTo rfl 140 _ rfl (some 6) rfl #[.int .i64 2, .int .i64 2, .int .i64 2, .func (.func 165) #[] #[]] (by kernel_rfl) ?_; refine wpList_frame (a' := { tmps := #[.pointer (some ⟨w.heap.size, 0, none⟩), opV1, opV2, opV3, opV4, opV5, opV6, undef, undef, undef, undef, undef, undef, undef], defers := [] }) (by kernel_rfl) ?_)
    | (refine wpList_buildTo rfl 140 _ rfl (some 7) rfl #[.int .i64 2, .int .i64 2, .int .i64 2, .func (.func 166) #[] #[]] (by kernel_rfl) ?_; refine wpList_frame (a' := { tmps := #[.pointer (some ⟨w.heap.size, 0, none⟩), opV1, opV2, opV3, opV4, opV5, opV6, opV7, undef, undef, undef, undef, undef, undef], defers := [] }) (by kernel_rfl) ?_)
    | (refine wpList_buildTo rfl 140 _ rfl (some 8) rfl #[.int .i64 2, .int .i64 2, .int .i64 2, .func (.func 167) #[] #[]] (by kernel_rfl) ?_; refine wpList_frame (a' := { tmps := #[.pointer (some ⟨w.heap.size, 0, none⟩), opV1, opV2, opV3, opV4, opV5, opV6, opV7, opV8, undef, undef, undef, undef, undef], defers := [] }) (by kernel_rfl) ?_)
    | (refine wpList_buildTo rfl 140 _ rfl (some 9) rfl #[.int .i64 1, .int .i64 1, .int .i64 3, .func (.func 168) #[] #[]] (by kernel_rfl) ?_; refine wpList_frame (a' := { tmps := #[.pointer (some ⟨w.heap.size, 0, none⟩), opV1, opV2, opV3, opV4, opV5, opV6, opV7, opV8, opV9, undef, undef, undef, undef], defers := [] }) (by kernel_rfl) ?_)
    | (refine wpList_buildTo rfl 140 _ rfl (some 10) rfl #[.int .i64 1, .int .i64 1, .int .i64 3, .func (.func 170) #[] #[]] (by kernel_rfl) ?_; refine wpList_frame (a' := { tmps := #[.pointer (some ⟨w.heap.size, 0, none⟩), opV1, opV2, opV3, opV4, opV5, opV6, opV7, opV8, opV9, opV10, undef, undef, undef], defers := [] }) (by kernel_rfl) ?_)
    | (refine wpList_buildTo rfl 140 _ rfl (some 11) rfl #[.int .i64 2, .int .i64 1, .int .i64 3, .func (.func 171) #[] #[]] (by kernel_rfl) ?_; refine wpList_frame (a' := { tmps := #[.pointer (some ⟨w.heap.size, 0, none⟩), opV1, opV2, opV3, opV4, opV5, opV6, opV7, opV8, opV9, opV10, opV11, undef, undef], defers := [] }) (by kernel_rfl) ?_)
    | (refine wpList_buildTo rfl 140 _ rfl (some 12) rfl #[.int .i64 2, .int .i64 1, .int .i64 2, .func (.func 173) #[] #[]] (by kernel_rfl) ?_; refine wpList_frame (a' := { tmps := #[.pointer (some ⟨w.heap.size, 0, none⟩), opV1, opV2, opV3, opV4, opV5, opV6, opV7, opV8, opV9, opV10, opV11, opV12, undef], defers := [] }) (by kernel_rfl) ?_)
    | (refine wpList_buildTo rfl 175 _ rfl (some 13) rfl opsArr (by kernel_rfl) ?_; refine wpList_frame (a' := { tmps := #[.pointer (some ⟨w.heap.size, 0, none⟩), opV1, opV2, opV3, opV4, opV5, opV6, opV7, opV8, opV9, opV10, opV11, opV12, .agg opsArr], defers := [] }) (by kernel_rfl) ?_)
    | (refine wpList_store_rowTo rfl 175 (.tmp 0) (.tmp 13) rfl rfl w.heap.size opsArr rfl rfl 175 _ (heap_alloc_last w _) (by kernel_rfl) (by kernel_rfl) (by kernel_rfl) ?_; rw [World.setRow_alloc_new]))
  exact bodyPost_ret (v := .agg opsArr) (results_cell_row rfl _ _ w.heap.size 175 opsArr (0, 0) _ rfl (heap_alloc_last w _) Try.underlying175 rfl (by kernel_rfl)) rfl ⟨rfl, (Below.refl _ _).alloc (Nat.le_refl _) _⟩
end Go.Proofs.Ytmbihfeocfikbaa
