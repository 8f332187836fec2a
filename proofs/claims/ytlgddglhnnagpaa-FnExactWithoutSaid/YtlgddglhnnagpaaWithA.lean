/-
  The program's Without, its answer as a slice of its own, perhaps nil.
-/
import Derived.Test.YtlgddglhnnagpaaWith
import Derived.Test.YtlgddglhnnagpaaOwnA
namespace Go.Proofs.Ytlgddglhnnagpaa
open Go.ChangeShapes Go.WideShapes Go.ChangeAt Go.RowKit

theorem impl_WithoutA {B : Nat} {a a2 : Option Addr} {cap cap2 : Nat} (ss rs : List ByteArray) (hn : ss.length ≤ 1048576) (hr : rs.length ≤ 1048576) (hzs : sumSize ss ≤ 1048576) (hzr : sumSize rs ≤ 1048576) (w : World) (hB : B ≤ w.heap.size) (hs : Strs B w a ss) (hs2 : Strs B w a2 rs) :
    Calls Try.prog 25 #[.slice a ss.length cap, .slice a2 rs.length cap2] w fun e w' => ∃ a' cap', e = .returned (.slice a' (wo rs ss).length cap') ∧ OwnA w.heap.size w' a' (wo rs ss) ∧ Below w.heap.size w w' := by
  refine (impl_Without ss rs hn hr hzs hzr w hB hs hs2).mono ?_
  rintro e w' ⟨v, rfl, hv, hb⟩
  rcases hv with ⟨rfl, h0⟩ | ⟨g, cap', rfl, hg, ho⟩
  · exact ⟨none, 0, by rw [h0]; rfl, Or.inl h0, hb⟩
  · exact ⟨_, cap', rfl, OwnA.of ho hg, hb⟩
end Go.Proofs.Ytlgddglhnnagpaa
