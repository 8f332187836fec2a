/-
  The type Instance of the laws: its data, and the contracts of the laws' own helpers on it.
-/
import Derived.Test.YtbaibioifmbchaaTSz
import Derived.WalkSpells
import Derived.WalkSmall
import Derived.WalkLawsBesides
import Derived.SliceStrings
import Derived.Deep.QuietTactic
import Derived.Deep.RegionWith
import Derived.BigQuiet
import Derived.Outline
import Derived.Laws.Rows
namespace Go.Proofs.Ytbaibioifmbchaa
open Go.ChangeShapes Go.WideShapes Go.ChangeAt Go.RowKit Go.Deep

structure DInstance where
  fNode : Int
  fName : ByteArray
  deriving Inhabited

def DInstance.ct (x : DInstance) : Nat → Ct
  | 0 => .lit (.int .i64 x.fNode)
  | 1 => .lit (.string x.fName)
  | _ => .lit .nilFunc

def DInstance.ok (x : DInstance) : Prop := okI x.fNode ∧ okS x.fName

def DInstance.sz (x : DInstance) : Nat := x.fName.size

theorem DInstance.open {lo hi b o : Nat} {w : World} {x : DInstance} (h : ∀ j, j < 2 → ∃ u, w.cell? ⟨b, o + j, none⟩ = some u ∧ Lies lo hi w (x.ct j) u) :
    w.cell? ⟨b, o, none⟩ = some (.int .i64 x.fNode) ∧ w.cell? ⟨b, o + 1, none⟩ = some (.string x.fName) := by
  obtain ⟨u0, hc0, hl0⟩ := h 0 (by decide)
  obtain rfl := lies_lit hl0
  obtain ⟨u1, hc1, hl1⟩ := h 1 (by decide)
  obtain rfl := lies_lit hl1
  exact ⟨hc0, hc1⟩

theorem info_Instance : (Try.prog.info? 35).map (fun i => (i.zero, i.size, i.bytes)) = some (some (.agg #[.int .i64 0, .string ⟨#[]⟩]), 2, 24) := by kernel_rfl

set_option maxHeartbeats 1600000 in
set_option maxRecDepth 100000 in
theorem laws_eqInstance (x : DInstance) (w : World) :
    Calls Try.prog 12 #[.agg #[.int .i64 x.fNode, .string x.fName], .agg #[.int .i64 x.fNode, .string x.fName]] w fun e w' => e = .returned (.bool true) ∧ Below w.heap.size w w' := by
  go_enter Try.func12, Try.ntmps12
  go_wp2
  go_ret
  exact ⟨rfl, by
    repeat (first | exact Below.refl _ _ | (refine Below.setCell ?_ (by simp <;> omega) _) | (refine Below.alloc ?_ (by simp <;> omega) _))⟩
end Go.Proofs.Ytbaibioifmbchaa
