/-
  The program's Join (package impl): strings.Join, by the shelf's contract, over a slice of the law's own.
-/
import Derived.Test.YtljoeigkjbeeeaaDoorJo
import Derived.Test.YtljoeigkjbeeeaaDoorStrsOwn
import Derived.Test.YtljoeigkjbeeeaaDoorShelfJoin
namespace Go.Proofs.YtljoeigkjbeeeaaDoor
open Go.ChangeShapes Go.WideShapes Go.ChangeAt Go.RowKit
open Go.Lib

set_option maxRecDepth 100000 in
theorem impl_Join {g : Nat} (ss : List ByteArray) (b : ByteArray) (hb : b.size ≤ 1048576) (hn : ss.length ≤ 1048576) (hsum : sumSize ss ≤ 1048576) (w : World) (ho : OwnStrs w g ss) :
    Calls Tryd.prog 19 #[.slice (some ⟨g, 0, none⟩) ss.length ss.length, .string b] w fun e w' => e = .returned (.string ⟨(join (ss.map (·.data.toList)) b.data.toList).toArray⟩) ∧ Below w.heap.size w w' := by
  have hJ : Calls Tryd.prog 36 #[.slice (some ⟨g, 0, none⟩) ss.length ss.length, .string b] w fun e w' => e = .returned (.string ⟨(join (ss.map (·.data.toList)) b.data.toList).toArray⟩) ∧ Below w.heap.size w w' := by
    refine Tryd.strings_Join g 0 ss.length ss b w (fun j x hx => ?_) ho.lt (by omega) (Nat.le_refl _) ?_
    · obtain ⟨hj, he⟩ := List.getElem?_eq_some_iff.1 hx
      rw [Nat.zero_add, ho.cell j hj, List.getD_eq_getElem?_getD, hx]
      rfl
    · have h1 := jo_length ss b hb ss.length (Nat.le_refl _)
      rw [jo_all, List.take_length] at h1
      omega
  have HJ := Lib.hid hJ
  clear hJ ho
  go_enter Tryd.func19, Tryd.ntmps19
  go_wp2_with (go_at_call 36; refine HJ.out.mono ?_; rintro e w1 ⟨rfl, hb1⟩)
  go_ret
  exact ⟨rfl, hb1⟩
end Go.Proofs.YtljoeigkjbeeeaaDoor
