/-
  Chapter 3: the operators' types and functions, in the program.
-/
import Derived.Test.YtpipdlgnedhhaaaV0
import Derived.Great.BuildSlice
import Derived.Deep.WholeRow
namespace Go.Proofs.Ytpipdlgnedhhaaa
open Go.ChangeShapes Go.WideShapes Go.ChangeAt Go.RowKit

def opV1 : Value := .agg #[.int .i64 1, .int .i64 1, .int .i64 1, .func (.func 86) #[] #[]]
def opV2 : Value := .agg #[.int .i64 1, .int .i64 1, .int .i64 1, .func (.func 88) #[] #[]]
def opV3 : Value := .agg #[.int .i64 1, .int .i64 1, .int .i64 1, .func (.func 89) #[] #[]]
def opV4 : Value := .agg #[.int .i64 1, .int .i64 1, .int .i64 1, .func (.func 90) #[] #[]]
def opV5 : Value := .agg #[.int .i64 1, .int .i64 1, .int .i64 1, .func (.func 91) #[] #[]]
def opV6 : Value := .agg #[.int .i64 2, .int .i64 2, .int .i64 2, .func (.func 92) #[] #[]]
def opV7 : Value := .agg #[.int .i64 2, .int .i64 2, .int .i64 2, .func (.func 93) #[] #[]]
def opV8 : Value := .agg #[.int .i64 2, .int .i64 2, .int .i64 2, .func (.func 94) #[] #[]]
def opV9 : Value := .agg #[.int .i64 1, .int .i64 1, .int .i64 3, .func (.func 95) #[] #[]]
def opV10 : Value := .agg #[.int .i64 1, .int .i64 1, .int .i64 3, .func (.func 97) #[] #[]]
def opV11 : Value := .agg #[.int .i64 2, .int .i64 1, .int .i64 3, .func (.func 98) #[] #[]]
def opV12 : Value := .agg #[.int .i64 2, .int .i64 1, .int .i64 2, .func (.func 100) #[] #[]]
def opsArr : Array Value := #[.int .i64 0, .int .i64 0, .int .i64 0, .nilFunc,
  .int .i64 1, .int .i64 1, .int .i64 1, .func (.func 86) #[] #[],
  .int .i64 1, .int .i64 1, .int .i64 1, .func (.func 88) #[] #[],
  .int .i64 1, .int .i64 1, .int .i64 1, .func (.func 89) #[] #[],
  .int .i64 1, .int .i64 1, .int .i64 1, .func (.func 90) #[] #[],
  .int .i64 1, .int .i64 1, .int .i64 1, .func (.func 91) #[] #[],
  .int .i64 2, .int .i64 2, .int .i64 2, .func (.func 92) #[] #[],
  .int .i64 2, .int .i64 2, .int .i64 2, .func (.func 93) #[] #[],
  .int .i64 2, .int .i64 2, .int .i64 2, .func (.func 94) #[] #[],
  .int .i64 1, .int .i64 1, .int .i64 3, .func (.func 95) #[] #[],
  .int .i64 1, .int .i64 1, .int .i64 3, .func (.func 97) #[] #[],
  .int .i64 2, .int .i64 1, .int .i64 3, .func (.func 98) #[] #[],
  .int .i64 2, .int .i64 1, .int .i64 2, .func (.func 100) #[] #[]]

set_option maxHeartbeats 800000 in
set_option maxRecDepth 100000 in
theorem impl_operators (w : World) :
    Calls Try.prog 85 #[] w fun e w' => e = .returned (.agg opsArr) ∧ Below w.heap.size w w' := by
  go_enter Try.func85, Try.ntmps85
  go_wp2_with (first
    | (refine wpList_buildTo rfl 146 _ rfl (some 1) rfl #[.int .i64 1, .int .i64 1, .int .i64 1, .func (.func 86) #[] #[]] (by kernel_rfl) ?_; refine wpList_frame (a' := { tmps := #[.pointer (some ⟨w.heap.size, 0, none⟩), opV1, undef, undef, undef, undef, undef, undef, undef, undef, undef, undef, undef, undef], defers := [] }) (by kernel_rfl) ?_)
    | (refine wpList_buildTo rfl 146 _ rfl (some 2) rfl #[.int .i64 1, .int .i64 1, .int .i64 1, .func (.func 88) #[] #[]] (by kernel_rfl) ?_; refine wpList_frame (a' := { tmps := #[.pointer (some ⟨w.heap.size, 0, none⟩), opV1, opV2, undef, undef, undef, undef, undef, undef, undef, undef, undef, undef, undef], defers := [] }) (by kernel_rfl) ?_)
    | (refine wpList_buildTo rfl 146 _ rfl (some 3) rfl #[.int .i64 1, .int .i64 1, .int .i64 1, .func (.func 89) #[] #[]] (by kernel_rfl) ?_; refine wpList_frame (a' := { tmps := #[.pointer (some ⟨w.heap.size, 0, none⟩), opV1, opV2, opV3, undef, undef, undef, undef, undef, undef, undef, undef, undef, undef], defers := [] }) (by kernel_rfl) ?_)
    | (refine wpList_buildTo rfl 146 _ rfl (some 4) rfl #[.int .i64 1, .int .i64 1, .int .i64 1, .func (.func 90) #[] #[]] (by kernel_rfl) ?_; refine wpList_frame (a' := { tmps := #[.pointer (some ⟨w.heap.size, 0, none⟩), opV1, opV2, opV3, opV4, undef, undef, undef, undef, undef, undef, undef, undef, undef], defers := [] }) (by kernel_rfl) ?_)
    | (refine wpList_buildTo rfl 146 _ rfl (some 5) rfl #[.int .i64 1, .int .i64 1, .int .i64 1, .func (.func 91) #[] #[]] (by kernel_rfl) ?_; refine wpList_frame (a' := { tmps := #[.pointer (some ⟨w.heap.size, 0, none⟩), opV1, opV2, opV3, opV4, opV5, undef, undef, undef, undef, undef, undef, undef, undef], defers := [] }) (by kernel_rfl) ?_)
    | (refine wpList_buildTo rfl 146 _ rfl (some 6) rfl #[.int .i64 2, .int .i64 2, .int .i64 2, .func (.func 92) #[] #[]] (by kernel_rfl) ?_; refine wpList_frame (a' := { tmps := #[.pointer (some ⟨w.heap.size, 0, none⟩), opV1, opV2, opV3, opV4, opV5, opV6, undef, undef, undef, undef, undef, undef, undef], defers := [] }) (by kernel_rfl) ?_)
    | (refine wpList_buildTo rfl 146 _ rfl (some 7) rfl #[.int .i64 2, .int .i64 2, .int .i64 2, .func (.func 93) #[] #[]] (by kernel_rfl) ?_; refine wpList_frame (a' := { tmps := #[.pointer (some ⟨w.heap.size, 0, none⟩), opV1, opV2, opV3, opV4, opV5, opV6, opV7, undef, undef, undef, undef, undef, undef], defers := [] }) (by kernel_rfl) ?_)
    | (refine wpList_buildTo rfl 146 _ rfl (some 8) rfl #[.int .i64 2, .int .i64 2, .int .i64 2, .func (.func 94) #[] #[]] (by kernel_rfl) ?_; refine wpList_frame (a' := { tmps := #[.pointer (some ⟨w.heap.size, 0, none⟩), opV1, opV2, opV3, opV4, opV5, opV6, opV7, opV8, undef, undef, undef, undef, undef], defers := [] }) (by kernel_rfl) ?_)
    | (refine wpList_buildTo rfl 146 _ rfl (some 9) rfl #[.int .i64 1, .int .i64 1, .int .i64 3, .func (.func 95) #[] #[]] (by kernel_rfl) ?_; refine wpList_frame (a' := { tmps := #[.pointer (some ⟨w.heap.size, 0, none⟩), opV1, opV2, opV3, opV4, opV5, opV6, opV7, opV8, opV9, undef, undef, undef, undef], defers := [] }) (by kernel_rfl) ?_)
    | (refine wpList_buildTo rfl 146 _ rfl (some 10) rfl #[.int .i64 1, .int .i64 1, .int .i64 3, .func (.func 97) #[] #[]] (by kernel_rfl) ?_; refine wpList_frame (a' := { tmps := #[.pointer (some ⟨w.heap.size, 0, none⟩), opV1, opV2, opV3, opV4, opV5, opV6, opV7, opV8, opV9, opV10, undef, undef, undef], defers := [] }) (by kernel_rfl) ?_)
    | (refine wpList_buildTo rfl 146 _ rfl (some 11) rfl #[.int .i64 2, .int .i64 1, .int .i64 3, .func (.func 98) #[] #[]] (by kernel_rfl) ?_; refine wpList_frame (a' := { tmps := #[.pointer (some ⟨w.heap.size, 0, none⟩), opV1, opV2, opV3, opV4, opV5, opV6, opV7, opV8, opV9, opV10, opV11, undef, undef], defers := [] }) (by kernel_rfl) ?_)
    | (refine wpList_buildTo rfl 146 _ rfl (some 12) rfl #[.int .i64 2, .int .i64 1, .int .i64 2, .func (.func 100) #[] #[]] (by kernel_rfl) ?_; refine wpList_frame (a' := { tmps := #[.pointer (some ⟨w.heap.size, 0, none⟩), opV1, opV2, opV3, opV4, opV5, opV6, opV7, opV8, opV9, opV10, opV11, opV12, undef], defers := [] }) (by kernel_rfl) ?_)
    | (refine wpList_buildTo rfl 156 _ rfl (some 13) rfl opsArr (by kernel_rfl) ?_; refine wpList_frame (a' := { tmps := #[.pointer (some ⟨w.heap.size, 0, none⟩), opV1, opV2, opV3, opV4, opV5, opV6, opV7, opV8, opV9, opV10, opV11, opV12, .agg opsArr], defers := [] }) (by kernel_rfl) ?_)
    | (refine wpList_store_rowTo rfl 156 (.tmp 0) (.tmp 13) rfl rfl w.heap.size opsArr rfl rfl 156 _ (heap_alloc_last w _) (by kernel_rfl) (by kernel_rfl) (by kernel_rfl) ?_; rw [World.setRow_alloc_new]))
  exact bodyPost_ret (v := .agg opsArr) (results_cell_row rfl _ _ w.heap.size 156 opsArr (0, 0) _ rfl (heap_alloc_last w _) Try.underlying156 rfl (by kernel_rfl)) rfl ⟨rfl, (Below.refl _ _).alloc (Nat.le_refl _) _⟩
end Go.Proofs.Ytpipdlgnedhhaaa
