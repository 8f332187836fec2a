/-
  slices.Clone over a list of Attribute.
-/
import Derived.Test.YtnmepemmpeboeaaGreatZz3
import Derived.Test.YtnmepemmpeboeaaGreatZz7
import Derived.Lib.SlicesS
import Derived.WalkSpells
import Derived.WalkSmall
import Derived.WalkLawsBesides
import Derived.SliceStrings
import Derived.Deep.QuietTactic
import Derived.Deep.RegionWith
import Derived.BigQuiet
import Derived.Outline
import Derived.Laws.Rows
namespace Go.Proofs.YtnmepemmpeboeaaGreat
open Go.ChangeShapes Go.WideShapes Go.ChangeAt Go.RowKit Go.Deep

def vAttribute (x : DAttribute) : List Value := [.string x.fName, .int .i64 x.fType, .int .i64 x.fMode, .bool x.fCircular]
theorem vAttribute_len (x : DAttribute) : (vAttribute x).length = 4 := rfl
theorem vAttribute_ct (x : DAttribute) (c : Nat) (h : c < 4) : x.ct c = .lit ((vAttribute x).getD c .nilFunc) := match c, h with | 0, _ => rfl | 1, _ => rfl | 2, _ => rfl | 3, _ => rfl
theorem vAttribute_one (x : DAttribute) : ∀ u ∈ vAttribute x, u.oneCell' = true := by
  intro u hu
  simp only [vAttribute, List.mem_cons, List.not_mem_nil, or_false] at hu
  rcases hu with rfl | rfl | rfl | rfl <;> rfl
end Go.Proofs.YtnmepemmpeboeaaGreat
