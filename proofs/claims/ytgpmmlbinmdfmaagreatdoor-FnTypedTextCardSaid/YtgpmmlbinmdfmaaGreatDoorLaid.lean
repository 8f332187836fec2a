/-
  From the rows' list of package-level variables to what the walks need: the table of powers of ten and strconv's two errors.
-/
import Derived.Test.YtgpmmlbinmdfmaaGreatDoorParse
namespace Go.Proofs.YtgpmmlbinmdfmaaGreatDoor
open Go.ChangeShapes Go.WideShapes Go.ChangeAt Go.RowKit
open Go.Lib

theorem star : "*" ++ "errors.errorString" = "*errors.errorString" := by decide
theorem numErr_row (u : TypeId) (h : Tryz.prog.typeName? 3 u = some "*errors.errorString") : u = 125 :=
  typeName_ptr_named (nm := "errors.errorString") (by rw [star]; kernel_rfl) (by kernel_rfl) (by decide) u (by rw [star]; exact h)

theorem lib3_of {rest : List (String × DataW Unit)} {W : World} {x y : List UInt8}
    (h : laidMet Tryz.prog (("internal/strconv.uint64pow10", tabData .u64 pow10Tab) :: ("strconv.ErrRange", .iface "*errors.errorString" (.ptr (.agg [.lit (.string x)]))) :: ("strconv.ErrSyntax", .iface "*errors.errorString" (.ptr (.agg [.lit (.string y)]))) :: rest) W) : Lib3 W := by
  refine ⟨pow_of h, ?_, ?_⟩
  · obtain ⟨a, s, hv, _⟩ := laid_sentinel (laidMet.tail (laidMet.tail h)) gSyn (by kernel_rfl) Tryz.underlying72 numErr_row Tryz.underlying125 Tryz.underlying127 rfl rfl Tryz.underlying9 (by kernel_rfl) (by kernel_rfl)
    exact ⟨_, _, hv⟩
  · obtain ⟨a, s, hv, _⟩ := laid_sentinel (laidMet.tail h) gRng (by kernel_rfl) Tryz.underlying72 numErr_row Tryz.underlying125 Tryz.underlying127 rfl rfl Tryz.underlying9 (by kernel_rfl) (by kernel_rfl)
    exact ⟨_, _, hv⟩
end Go.Proofs.YtgpmmlbinmdfmaaGreatDoor
