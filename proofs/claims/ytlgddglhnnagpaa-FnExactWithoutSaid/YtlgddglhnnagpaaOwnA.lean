/-
  A slice of strings of a call's own, perhaps nil: the laws' helpers on it.
-/
import Derived.Test.YtlgddglhnnagpaaMarkStrs
import Derived.Test.YtlgddglhnnagpaaStrsEq
namespace Go.Proofs.Ytlgddglhnnagpaa
open Go.ChangeShapes Go.WideShapes Go.ChangeAt Go.RowKit
open Go.Lib Num

/-- The strings L in a block from B on, or none at all. -/
def OwnA (B : Nat) (w : World) (a : Option Addr) (L : List ByteArray) : Prop :=
  L = [] ∨ ∃ g, a = some ⟨g, 0, none⟩ ∧ B ≤ g ∧ OwnStrs w g L
theorem OwnA.later {B : Nat} {w w' : World} {a : Option Addr} {L : List ByteArray} (h : OwnA B w a L) (hb : Below w.heap.size w w') : OwnA B w' a L := by
  rcases h with h | ⟨g, ha, hB, ho⟩
  · exact Or.inl h
  · exact Or.inr ⟨g, ha, hB, ho.later hb⟩
theorem OwnA.writes {B C : Nat} {w w' : World} {a : Option Addr} {L : List ByteArray} (h : OwnA B w a L) (hw : Writes C w w') (hC : C < B) : OwnA B w' a L := by
  rcases h with h | ⟨g, ha, hB, ho⟩
  · exact Or.inl h
  · exact Or.inr ⟨g, ha, hB, ho.writes hw (by omega)⟩
theorem OwnA.strs {B : Nat} {w : World} {a : Option Addr} {L : List ByteArray} (h : OwnA B w a L) (hz : sumSize L ≤ 9223372036854775807) : Strs w.heap.size w a L := by
  rcases h with h | ⟨g, ha, hB, ho⟩
  · exact Or.inl h
  · rw [ha]; exact ho.strs hz
theorem OwnA.of {B g : Nat} {w : World} {L : List ByteArray} (h : OwnStrs w g L) (hB : B ≤ g) : OwnA B w (some ⟨g, 0, none⟩) L := Or.inr ⟨g, rfl, hB, h⟩
theorem OwnStrs.belowB {B g : Nat} {w w' : World} {L : List ByteArray} (h : OwnStrs w g L) (hb : Below B w w') (hg : g < B) : OwnStrs w' g L :=
  ⟨Nat.lt_of_lt_of_le h.lt hb.size, fun k hk => (hb.cell (p := ⟨g, k, none⟩) hg).trans (h.cell k hk), fun k => (hb.frozen (p := ⟨g, k, none⟩) hg).trans (h.free k)⟩

set_option maxHeartbeats 800000 in
set_option maxRecDepth 100000 in
theorem markStringS_none {a : Option Addr} {cap : Nat} (k : Int) (w : World) :
    Calls Try.prog 43 #[.slice a 0 cap, .int .i64 k] w fun e w' => e = .returned (.int .i64 k) ∧ w = w' := by
  go_enter Try.func43, Try.ntmps43
  go_wp2
  refine wp_loop_rounds 1 ?_
  rw [rounds_succ]
  go_wp2
  go_ret
  exact ⟨rfl, rfl⟩

set_option maxHeartbeats 800000 in
set_option maxRecDepth 100000 in
theorem heldStringS_none {a : Option Addr} {cap : Nat} (k : Int) (w : World) :
    Calls Try.prog 44 #[.slice a 0 cap, .int .i64 k] w fun e w' => e = .returned (.int .i64 k) ∧ w = w' := by
  go_enter Try.func44, Try.ntmps44
  go_wp2
  refine wp_loop_rounds 1 ?_
  rw [rounds_succ]
  go_wp2
  go_ret
  exact ⟨rfl, rfl⟩

theorem markA {B : Nat} {a : Option Addr} {cap : Nat} (L : List ByteArray) (hn : L.length ≤ 1048577) (k : Nat) (hk1 : 1 ≤ k) (hk2 : k ≤ 9223372036854) (w : World) (ho : OwnA B w a L) :
    Calls Try.prog 43 #[.slice a L.length cap, .int .i64 (k : Int)] w fun e w' => e = .returned (.int .i64 ((k : Int) + L.length)) ∧ OwnA B w' a (marks k L.length) ∧ Below (min B w.heap.size) w w' := by
  rcases ho with h | ⟨g, ha, hB, ho⟩
  · subst h
    refine (markStringS_none (a := a) (cap := cap) (k : Int) w).mono ?_
    rintro e w' ⟨rfl, rfl⟩
    exact ⟨by simp, Or.inl rfl, Below.refl _ _⟩
  · subst ha
    refine (markStringS L (by omega) k hk1 hk2 w ho).mono ?_
    rintro e w' ⟨rfl, ho', hw⟩
    exact ⟨rfl, OwnA.of ho' hB, (hw.below ho.lt).mono (by omega)⟩

theorem heldA {B : Nat} {a : Option Addr} {cap : Nat} (n : Nat) (hn : n ≤ 1048577) (k : Nat) (hk1 : 1 ≤ k) (hk2 : k ≤ 9223372036854) (w : World) (ho : OwnA B w a (marks k n)) :
    Calls Try.prog 44 #[.slice a n cap, .int .i64 (k : Int)] w fun e w' => e = .returned (.int .i64 ((k : Int) + n)) ∧ Below w.heap.size w w' := by
  rcases ho with h | ⟨g, ha, hB, ho⟩
  · have h0 : n = 0 := by have := congrArg List.length h; rw [marks_length] at this; exact this
    subst h0
    refine (heldStringS_none (a := a) (cap := cap) (k : Int) w).mono ?_
    rintro e w' ⟨rfl, rfl⟩
    exact ⟨by simp, Below.refl _ _⟩
  · subst ha
    exact heldStringS n (by omega) k hk1 hk2 w ho
end Go.Proofs.Ytlgddglhnnagpaa
