/-
  Chapter 2 in the program: SortNames, AllDistinct and IndexOf, by the library's contracts for slices.Clone, slices.Sort, slices.Compact and slices.Index.
-/
import Derived.Test.YteeehpldkhceoaaSrt
import Derived.Test.YteeehpldkhceoaaRes
import Derived.Test.YteeehpldkhceoaaStrsOwn
import Derived.Test.YteeehpldkhceoaaShelfSrt
import Derived.Sort.OwnSorted
namespace Go.Proofs.Yteeehpldkhceoaa
open Go.ChangeShapes Go.WideShapes Go.ChangeAt Go.RowKit
open Go.Sort

theorem own_of_row {w : World} {g : Nat} {cur : Array Value} {e : TypeId} {ls : List (List UInt8)} (hb : w.heap[g]? = some (.cells cur e (0, 0))) (ht : cur.toList.take ls.length = ls.map encStr) : OwnStrs w g (ls.map lb) := by
  have h := holds_of_block hb ht
  refine ⟨(Array.getElem?_eq_some_iff.1 hb).1, fun k hk => ?_, fun k => by simp [World.frozen?, hb]⟩
  rw [List.length_map] at hk
  have := (h k (by simpa using hk)).1
  rw [Nat.zero_add] at this
  rw [this]
  simp [List.getD, hk, lb, encStr]

theorem strs_cells {B b off : Nat} {w : World} {ss : List ByteArray} (h : Strs B w (some ⟨b, off, none⟩) ss) : ∀ j, j < ss.length → w.cell? ⟨b, off + j, none⟩ = some (.string (ss.getD j ByteArray.empty)) := by
  intro j hj
  obtain ⟨b', off', e, _, _, hc⟩ := h.at j hj
  injection e with e
  injection e with e1 e2
  rw [e1, e2]
  exact hc

/-- Block g holds the strings ls at its head; cap cells in all. -/
def RowL (w : World) (g cap : Nat) (ls : List (List UInt8)) : Prop :=
  ∃ cur : Array Value, w.heap[g]? = some (.cells cur 9 (0, 0)) ∧ cur.toList.take ls.length = ls.map encStr ∧ cur.size = cap

theorem sort_any {g cap : Nat} (ls : List (List UInt8)) (w : World) (h : RowL w g cap ls) (hn : ls.length ≤ 1048576) (hc : ls.length ≤ cap) :
    Calls Try.prog 47 #[.slice (some ⟨g, 0, none⟩) ls.length cap] w fun e w' => e = .returned (.tuple #[]) ∧ RowL w' g cap (sl ls) ∧ w.grownBy w' (some g) := by
  obtain ⟨cur, h1, h2, h3⟩ := h
  refine (Try.slices_Sort_string g 0 cap ls w (holds_of_block h1 h2) (Array.getElem?_eq_some_iff.1 h1).1 (by omega)).mono ?_
  rintro e w' ⟨rfl, n, os, rfl⟩
  exact ⟨rfl, ⟨_, heap_sorted _ h1, take_putCells cur _ (by show (sl ls).length ≤ _; rw [sl_length]; omega), by simp [putCells, h3]⟩, grownBy_sorted _⟩

theorem take_append_of {α : Type} {l a b : List α} (h : l = a ++ b) : l.take a.length = a := by rw [h]; simp

theorem compact_any {g cap : Nat} (ls : List (List UInt8)) (w : World) (h : RowL w g cap ls) (hn : ls.length ≤ 1048576) (hc : ls.length ≤ cap) :
    Calls Try.prog 48 #[.slice (some ⟨g, 0, none⟩) ls.length cap] w fun e w' => e = .returned (.slice (some ⟨g, 0, none⟩) (Lib.compact ls).length cap) ∧ RowL w' g cap (Lib.compact ls) ∧ w.grownBy w' (some g) := by
  obtain ⟨cur, h1, h2, h3⟩ := h
  refine (Try.slices_Compact_string g 0 cap ls w (holds_of_block h1 h2) (by omega) hc).mono ?_
  rintro e w' ⟨rfl, q, rfl⟩
  have hle : (Lib.compact ls).length ≤ ls.length := by
    unfold Lib.compact Lib.compactUpTo
    rw [List.length_map]
    exact Nat.le_trans (List.length_filter_le _ _) (by simp)
  have hlen : (Lib.compact ls ++ List.replicate (ls.length - (Lib.compact ls).length) []).length = ls.length := by
    rw [List.length_append, List.length_replicate]; omega
  have e0 : ∀ d, putRow encStr (Sort.ahead w q) g 0 d = grow (putRow encStr (Sort.ahead w q) g 0 d) #[] := fun d => (grow_empty _).symm
  refine ⟨rfl, ?_, ?_⟩
  · rw [e0]
    have ht := take_putCells cur (Lib.compact ls ++ List.replicate (ls.length - (Lib.compact ls).length) []) (by rw [hlen]; omega)
    refine ⟨_, heap_sorted _ h1, ?_, by simp [putCells, h3]⟩
    have h4 := congrArg (List.take (Lib.compact ls).length) ht
    rw [List.take_take, hlen, Nat.min_eq_left hle, List.map_append] at h4
    rw [h4]
    have h5 := take_append_of (l := (Lib.compact ls).map encStr ++ (List.replicate (ls.length - (Lib.compact ls).length) ([] : List UInt8)).map encStr) rfl
    rw [List.length_map] at h5
    exact h5
  · rw [e0]; exact grownBy_sorted _

set_option maxHeartbeats 800000 in
set_option maxRecDepth 100000 in
theorem impl_SortNames {B b off cap : Nat} (ss : List ByteArray) (hn : ss.length ≤ 1048576) (w : World) (hs : Strs B w (some ⟨b, off, none⟩) ss) :
    Calls Try.prog 38 #[.slice (some ⟨b, off, none⟩) ss.length cap] w fun e w' => ∃ g cap', e = .returned (.slice (some ⟨g, 0, none⟩) (srt ss).length cap') ∧ w.heap.size ≤ g ∧ OwnStrs w' g (srt ss) ∧ Below w.heap.size w w' := by
  have hC : Calls Try.prog 46 #[.slice (some ⟨b, off, none⟩) ss.length cap] w fun e w' => ∃ g cap', e = .returned (.slice (some ⟨g, 0, none⟩) ss.length cap') ∧ w.heap.size ≤ g ∧ RowL w' g cap' (ss.map bl) ∧ ss.length ≤ cap' ∧ Below w.heap.size w w' := by
    have h := Try.slices_Clone_string b off ss.length cap ss w (Nat.le_refl _) (by omega) (strs_cells hs)
    rw [List.take_length] at h
    refine h.mono ?_
    rintro e w1 ⟨v1, rfl, hown, hne, hb⟩
    rcases hown.2 with ⟨hnil, _⟩ | ⟨g, cap', cur, rfl, hg, hblk, h1, h2, h3, h4⟩
    · exact absurd hnil hne
    · have e0 : (ss.map Value.string) = (ss.map bl).map encStr := by
        rw [List.map_map]; exact List.map_congr_left fun x _ => rfl
      refine ⟨g, cap', rfl, hg, ⟨cur, hblk, ?_, by omega⟩, h1, hb⟩
      rw [Nat.mul_one, e0] at h4
      rw [List.length_map]; exact h4
  have HC := Lib.hid hC
  have HL := Lib.hid (show (ss.map bl).length = ss.length from List.length_map ..)
  have HF : Hid (∀ w, OwnStrs w 0 (srt ss) → OwnStrs w 0 (srt ss)) := fun _ h => h
  clear hC hs HF
  go_enter Try.func38, Try.ntmps38
  go_wp2_with fail
  refine HC.out.mono ?_
  rintro e w1 ⟨g, cap', rfl, hg, hrow, hcap, hb⟩
  have HB := Lib.hid hb
  have hS := sort_any (ss.map bl) w1 hrow (by rw [HL.out]; exact hn) (by rw [HL.out]; exact hcap)
  rw [HL.out] at hS
  have HS := Lib.hid hS
  clear hS hb hrow HC
  go_wp2_with fail
  refine HS.out.mono ?_
  rintro e w2 ⟨rfl, hrow, hgr⟩
  have hsl : (sl (ss.map bl)).length = ss.length := by rw [sl_length, HL.out]
  have hS := compact_any (sl (ss.map bl)) w2 hrow (by rw [hsl]; exact hn) (by rw [hsl]; exact hcap)
  have hb := HB.out.grown hgr HB.out.size (fun j hj => by cases hj; exact hg)
  rw [hsl] at hS
  have HB2 := Lib.hid hb
  have HS2 := Lib.hid hS
  clear hS hb hrow hgr HS hsl
  go_wp2_with fail
  refine HS2.out.mono ?_
  rintro e w3 ⟨rfl, hrow, hgr⟩
  have hb := HB2.out.grown hgr HB2.out.size (fun j hj => by cases hj; exact hg)
  have HR := Lib.hid hrow
  have HB3 := Lib.hid hb
  clear hrow hgr hb
  go_wp2
  go_ret
  obtain ⟨cur, k1, k2, k3⟩ := HR.out
  refine ⟨g, cap', ?_, hg, own_of_row k1 k2, HB3.out⟩
  show _ = Ending.returned (.slice _ ((srtL (ss.map bl)).map lb).length _)
  rw [List.length_map]
  rfl

set_option maxRecDepth 100000 in
theorem impl_AllDistinct {B b off cap : Nat} (ss : List ByteArray) (hn : ss.length ≤ 1048576) (w : World) (hs : Strs B w (some ⟨b, off, none⟩) ss) :
    Calls Try.prog 25 #[.slice (some ⟨b, off, none⟩) ss.length cap] w fun e w' => e = .returned (.bool (nodB ss)) ∧ Below w.heap.size w w' := by
  have HS := Lib.hid (impl_SortNames (cap := cap) ss hn w hs)
  have hle := srt_length_le ss
  have HL := Lib.hid hle
  have hX : ((srt ss).length : Int) ≤ 1048576 := by omega
  have t1 : (((srt ss).length : Int) == (ss.length : Int)) = decide ((srt ss).length = ss.length) := by
    rw [Bool.eq_iff_iff, beq_iff_eq, decide_eq_true_eq]; omega
  have T1 := Lib.hid t1
  clear hs hle hX t1
  go_enter Try.func25, Try.ntmps25
  go_wp2_with fail
  refine HS.out.mono ?_
  rintro e w1 ⟨g, cap', rfl, _, _, hb⟩
  go_wp2
  go_ret
  exact ⟨ret_bool T1.out, hb⟩
end Go.Proofs.Yteeehpldkhceoaa
