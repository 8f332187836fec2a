/-
  Join of the model and of the program over a list of strings that a call grew, with a wide bound on its length.
-/
import Derived.Test.YtjlcbbaicengbaaDoorJoin
import Derived.Test.YtjlcbbaicengbaaDoorGrow
import Derived.Test.YtjlcbbaicengbaaDoorStrsOwn
import Derived.Test.YtjlcbbaicengbaaDoorShelfJoin
namespace Go.Proofs.YtjlcbbaicengbaaDoor
open Go.ChangeShapes Go.WideShapes Go.ChangeAt Go.RowKit
open Go.Lib hiding intOf

def vS (s : ByteArray) : List Value := [.string s]
theorem vS_len (s : ByteArray) : (vS s).length = 1 := rfl
theorem strs_grown {w : World} {B : Nat} {v : Value} {L : List ByteArray} (h : w.ownsRow B 9 1 v L.length (L.flatMap vS)) (hz : ∀ k, (L.getD k ByteArray.empty).size ≤ 9223372036854775807) :
    (v = .slice none 0 0 ∧ L = []) ∨ ∃ g cap, v = .slice (some ⟨g, 0, none⟩) L.length cap ∧ L.length ≤ cap ∧ g < w.heap.size ∧ (∀ k, k < L.length → w.cell? ⟨g, k, none⟩ = some (.string (L.getD k ByteArray.empty))) ∧ Strs w.heap.size w (some ⟨g, 0, none⟩) L := by
  rcases h.2 with ⟨hv, hn⟩ | ⟨g, cap, cur, hv, hg, hblk, h1, h2, h3, h4⟩
  · exact Or.inl ⟨hv, by first | exact List.length_eq_zero_iff.1 hn | simpa using hn⟩
  · subst hv
    have hc : ∀ k, k < L.length → w.cell? ⟨g, k, none⟩ = some (.string (L.getD k ByteArray.empty)) := fun k hk => by
      have h5 := flat_get vS_len L k 0 hk (by decide)
      rw [Nat.mul_one, Nat.add_zero] at h5
      rw [h.cellAt k (by omega), h5]
      rfl
    exact Or.inr ⟨g, cap, rfl, h1, (h.lt g rfl).2, hc, Or.inr ⟨g, 0, rfl, (h.lt g rfl).2, fun k hk => ⟨hz k, by rw [Nat.zero_add]; exact hc k hk⟩⟩⟩

theorem impl_Join_own {w : World} {B : Nat} {v : Value} {L : List ByteArray} (h : w.ownsRow B 9 1 v L.length (L.flatMap vS)) (hz : ∀ k, (L.getD k ByteArray.empty).size ≤ 9223372036854775807) (b : ByteArray) (hb : b.size ≤ 1048576) (hn : L.length ≤ 1048576) (hsum : sumSize L ≤ 67108864) :
    Calls Tryd.prog 26 #[v, .string b] w fun e w' => e = .returned (.string ⟨(join (L.map (·.data.toList)) b.data.toList).toArray⟩) ∧ Below w.heap.size w w' := by
  have hJ : Calls Tryd.prog 34 #[v, .string b] w fun e w' => e = .returned (.string ⟨(join (L.map (·.data.toList)) b.data.toList).toArray⟩) ∧ Below w.heap.size w w' := by
    rcases strs_grown h hz with ⟨rfl, rfl⟩ | ⟨g, cap, rfl, hcap, hlt, hc, hs⟩
    · exact (Tryd.strings_Join_none none 0 b w).mono fun e w' ⟨he, hw⟩ => ⟨he, by rw [hw]; exact Below.refl _ _⟩
    · refine Tryd.strings_Join g 0 cap L b w (fun j x hx => ?_) hlt (by omega) hcap ?_
      · obtain ⟨hj, he⟩ := List.getElem?_eq_some_iff.1 hx
        rw [Nat.zero_add, hc j hj, List.getD_eq_getElem?_getD, hx]
        rfl
      · have h1 := jo_length L b hb L.length (Nat.le_refl _)
        rw [jo_all, List.take_length] at h1
        omega
  have HJ := Lib.hid hJ
  clear hJ h
  go_enter Tryd.func26, Tryd.ntmps26
  go_wp2_with (go_at_call 34; refine HJ.out.mono ?_; rintro e w1 ⟨rfl, hb1⟩)
  go_ret
  exact ⟨rfl, hb1⟩
end Go.Proofs.YtjlcbbaicengbaaDoor
