/-
  The cursor over the bytes of a draw (package spec: l1New, l1Byte, l1Below, l1Once, l1Pick, l1PickInt): which value is drawn is left open; that it lies in its range, and that nothing but the cursor's own block is written, is what every law over draws needs.
-/
import Derived.Test.YtgpmmlbinmdfmaaGreatDoorWrites
import Derived.WalkSpells
import Derived.WalkSmall
import Derived.WalkLawsBesides
import Derived.Lib.Hide
import Derived.Deep.QuietTactic
import Derived.BigQuiet
import Derived.RegionTactic
namespace Go.Proofs.YtgpmmlbinmdfmaaGreatDoor
open Go.ChangeShapes Go.WideShapes Go.ChangeAt Go.RowKit

/-- The code's bytes, in blocks below B. -/
def Code (B : Nat) (w : World) (a : Option Addr) (len : Nat) : Prop :=
  len = 0 ∨ ∃ b off : Nat, a = some ⟨b, off, none⟩ ∧ b < B ∧ ∀ k, k < len → ∃ z : Int, 0 ≤ z ∧ z ≤ 255 ∧ w.cell? ⟨b, off + k, none⟩ = some (.int .u8 z)
theorem Code.below {B : Nat} {w w' : World} {a : Option Addr} {len : Nat} (h : Code B w a len) (hb : Below B w w') : Code B w' a len := by
  rcases h with h | ⟨b, off, ha, hB, hc⟩
  · exact Or.inl h
  · exact Or.inr ⟨b, off, ha, hB, fun k hk => (hc k hk).imp fun z ⟨h0, h1, hz⟩ => ⟨h0, h1, (hb.cell (by exact hB)).trans hz⟩⟩

theorem block_lt {w : World} {p : Addr} {v : Value} (h : w.cell? p = some v) : p.block < w.heap.size := by
  rcases Nat.lt_or_ge p.block w.heap.size with h' | h'
  · exact h'
  · unfold World.cell? at h; rw [Array.getElem?_eq_none h'] at h; simp at h

/-- A slice of bytes that came in. -/
theorem code_of_trod {H : Type} {enc : TypeId × Value → H} {P : Program} {W : World} {t e : TypeId} (ht : P.underlying t = some (.slice e)) (he : P.underlying e = some (.int .u8)) (hc : P.cellsOf e = 1)
    {a : Option Addr} {len cap : Nat} {d : DataW H} {p : List MemPlace} (h : DataW.Trod enc P W 0 (fun _ => true) true t (.slice a len cap) d p) : len ≤ maxLen ∧ Code W.heap.size W a len := by
  obtain ⟨fuel, hf⟩ := h
  rcases open_ints ht he hc hf with ⟨hcs, _⟩ | ⟨a', len', cap', zs, hcs, _, hl, hm, hz, _, hcell, hwz⟩
  · simp [Value.cells] at hcs
    obtain ⟨rfl, rfl, rfl⟩ := hcs
    exact ⟨Nat.zero_le _, Or.inl rfl⟩
  · simp [Value.cells] at hcs
    obtain ⟨rfl, rfl, rfl⟩ := hcs
    refine ⟨by omega, ?_⟩
    by_cases h0 : len = 0
    · exact Or.inl h0
    · rw [if_pos rfl] at hz
      obtain ⟨b, off, rfl, hcs⟩ := ints_at hcell (by omega)
      refine Or.inr ⟨b, off, rfl, block_lt (hcs 0 (by omega)), fun k hk => ?_⟩
      have hk' : k < zs.length := by omega
      have hb := bounds_u8 (hwz (zs.getD k 0) (by rw [List.getD_eq_getElem?_getD, List.getElem?_eq_getElem hk']; exact List.getElem_mem hk'))
      exact ⟨zs.getD k 0, hb.1, hb.2, hcs k hk'⟩

/-- The cursor in block C, over a code in blocks below B. -/
structure Cur (B C : Nat) (a : Option Addr) (len cap : Nat) (w : World) : Prop where
  lt : C < w.heap.size
  le : B ≤ C
  small : len ≤ 1048576
  code : Code B w a len
  cb : w.cell? ⟨C, 0, none⟩ = some (.slice a len cap)
  ci : ∃ i : Nat, i ≤ len ∧ w.cell? ⟨C, 1, none⟩ = some (.int .i64 (i : Int))
  ch : ∃ h : Int, w.cell? ⟨C, 2, none⟩ = some (.int .i64 h)
  f1 : w.frozen? ⟨C, 1, none⟩ = false
  f2 : w.frozen? ⟨C, 2, none⟩ = false
theorem Cur.later {B C : Nat} {a : Option Addr} {len cap : Nat} {w w' : World} (h : Cur B C a len cap w) (hb : Below w.heap.size w w') : Cur B C a len cap w' :=
  ⟨Nat.lt_of_lt_of_le h.lt hb.size, h.le, h.small, h.code.below (hb.mono (Nat.le_trans h.le (Nat.le_of_lt h.lt))), (hb.cell (p := ⟨C, 0, none⟩) h.lt).trans h.cb,
    h.ci.imp fun _ ⟨h1, h2⟩ => ⟨h1, (hb.cell (p := ⟨C, 1, none⟩) h.lt).trans h2⟩, h.ch.imp fun _ h2 => (hb.cell (p := ⟨C, 2, none⟩) h.lt).trans h2,
    (hb.frozen (p := ⟨C, 1, none⟩) h.lt).trans h.f1, (hb.frozen (p := ⟨C, 2, none⟩) h.lt).trans h.f2⟩

/-- A byte: what '& 255' leaves. -/
theorem and255 (x : Int) : 0 ≤ bits .and .i64 x 255 ∧ bits .and .i64 x 255 ≤ 255 := by
  have h : (BitVec.ofInt 64 x &&& BitVec.ofInt 64 255).toNat ≤ 255 := by
    rw [BitVec.toNat_and]
    exact Nat.and_le_right
  have e : bits .and .i64 x 255 = IntKind.i64.wrap ((BitVec.ofInt 64 x &&& BitVec.ofInt 64 255).toNat : Int) := rfl
  rw [e]
  generalize (BitVec.ofInt 64 x &&& BitVec.ofInt 64 255).toNat = n at h
  have : IntKind.i64.wrap (n : Int) = n := IntWalk.i64_in _ (by omega)
  rw [this]
  omega

theorem Cur.stored2 {B C : Nat} {a : Option Addr} {len cap : Nat} {w : World} (h : Cur B C a len cap w) (x : Int) : Cur B C a len cap (w.setCell ⟨C, 2, none⟩ (.int .i64 x)) := by
  obtain ⟨lt, le, small, code, cb, ⟨i, hi, ci⟩, ⟨y, ch⟩, f1, f2⟩ := h
  refine ⟨by simpa [World.setCell] using lt, le, small, code.below ((Below.refl B w).setCell (by exact le) _), ?_, ⟨i, hi, ?_⟩, ⟨x, World.cell?_setCell_same _ _ _ ch⟩, ?_, ?_⟩
  · exact (World.cell?_setCell_other _ ⟨C, 2, none⟩ ⟨C, 0, none⟩ _ (by simp)).trans cb
  · exact (World.cell?_setCell_other _ ⟨C, 2, none⟩ ⟨C, 1, none⟩ _ (by simp)).trans ci
  · rw [World.frozen?_setCell]; exact f1
  · rw [World.frozen?_setCell]; exact f2
theorem Cur.stored1 {B C : Nat} {a : Option Addr} {len cap : Nat} {w : World} (h : Cur B C a len cap w) (i : Nat) (hi : i ≤ len) : Cur B C a len cap (w.setCell ⟨C, 1, none⟩ (.int .i64 (i : Int))) := by
  obtain ⟨lt, le, small, code, cb, ⟨j, hj, ci⟩, ⟨y, ch⟩, f1, f2⟩ := h
  refine ⟨by simpa [World.setCell] using lt, le, small, code.below ((Below.refl B w).setCell (by exact le) _), ?_, ⟨i, hi, World.cell?_setCell_same _ _ _ ci⟩, ⟨y, ?_⟩, ?_, ?_⟩
  · exact (World.cell?_setCell_other _ ⟨C, 1, none⟩ ⟨C, 0, none⟩ _ (by simp)).trans cb
  · exact (World.cell?_setCell_other _ ⟨C, 1, none⟩ ⟨C, 2, none⟩ _ (by simp)).trans ch
  · rw [World.frozen?_setCell]; exact f1
  · rw [World.frozen?_setCell]; exact f2
theorem Cur.drewN {B C : Nat} {a : Option Addr} {len cap : Nat} {w : World} (h : Cur B C a len cap w) (n : Nat) : Cur B C a len cap (w.drewN n) := h.later (below_drewN (Below.refl _ _) n)

set_option maxHeartbeats 1000000 in
set_option maxRecDepth 100000 in
theorem draw_byte {B C : Nat} {a : Option Addr} {len cap : Nat} (w : World) (hc : Cur B C a len cap w) :
    Calls Tryz.prog 47 #[.pointer (some ⟨C, 0, none⟩)] w fun e w' => ∃ x : Int, e = .returned (.int .i64 x) ∧ 0 ≤ x ∧ x ≤ 255 ∧ Cur B C a len cap w' ∧ Writes C w w' := by
  have HC := Lib.hid hc
  obtain ⟨lt, le, small, code, cb, ⟨i, hi, ci⟩, ⟨h, ch⟩, f1, f2⟩ := hc
  by_cases hlt : i < len
  · obtain ⟨b, off, z, rfl, hbC, z0, z1, hz⟩ : ∃ (b off : Nat) (z : Int), a = some ⟨b, off, none⟩ ∧ ¬ b = C ∧ 0 ≤ z ∧ z ≤ 255 ∧ w.cell? ⟨b, off + i, none⟩ = some (.int .u8 z) := by
      rcases code with h0 | ⟨b, off, ha, hB, hcs⟩
      · omega
      · obtain ⟨z, h1, h2, h3⟩ := hcs i hlt
        exact ⟨b, off, z, ha, by omega, h1, h2, h3⟩
    have hz2 : ∀ v, (w.setCell ⟨C, 2, none⟩ v).cell? ⟨b, off + i, none⟩ = some (.int .u8 z) := fun v =>
      (World.cell?_setCell_other _ ⟨C, 2, none⟩ ⟨b, off + i, none⟩ _ (fun e => hbC (congrArg Addr.block e).symm)).trans hz
    clear code
    go_enter Tryz.func47, Tryz.ntmps47
    go_wp2
    go_quiet (fail)
    go_wp2
    go_quiet (fail)
    go_wp2
    go_quiet (fail)
    go_wp2
    go_ret
    refine ⟨_, rfl, (and255 _).1, (and255 _).2, ?_, ?_⟩
    · have e1 : ((i : Int) + 1) = ((i + 1 : Nat) : Int) := by omega
      rw [e1]
      exact ((HC.out.stored2 _).drewN _).stored1 (i + 1) (by omega)
    · exact (((Writes.refl C w).setCell 2 _).drewN _).setCell 1 _
  · go_enter Tryz.func47, Tryz.ntmps47
    go_wp2
    go_quiet (fail)
    go_wp2
    go_quiet (fail)
    go_wp2
    go_ret
    exact ⟨_, rfl, (and255 _).1, (and255 _).2, ((HC.out.stored2 _).drewN _).drewN _, (((Writes.refl C w).setCell 2 _).drewN _).drewN _⟩

set_option maxHeartbeats 1000000 in
set_option maxRecDepth 100000 in
theorem below_small {B C : Nat} {a : Option Addr} {len cap : Nat} (w : World) (hc : Cur B C a len cap w) (n : Int) (h0 : 0 < n) (h1 : n ≤ 256) :
    Calls Tryz.prog 25 #[.pointer (some ⟨C, 0, none⟩), .int .i64 n] w fun e w' => ∃ x : Int, e = .returned (.int .i64 x) ∧ 0 ≤ x ∧ x < n ∧ Cur B C a len cap w' ∧ Writes C w w' := by
  have HC := Lib.hid hc
  clear hc
  go_enter Tryz.func25, Tryz.ntmps25
  go_wp2_with (go_at_call 47; refine (draw_byte _ HC.out).mono ?_; rintro e w' ⟨x, rfl, hx0, hx1, hc1, hw1⟩)
  go_ret
  exact ⟨_, rfl, Int.emod_nonneg _ (by omega), Int.emod_lt_of_pos _ h0, hc1, hw1⟩

set_option maxHeartbeats 1000000 in
set_option maxRecDepth 100000 in
theorem below_great {B C : Nat} {a : Option Addr} {len cap : Nat} (w : World) (hc : Cur B C a len cap w) (n : Int) (h0 : 256 < n) :
    Calls Tryz.prog 25 #[.pointer (some ⟨C, 0, none⟩), .int .i64 n] w fun e w' => ∃ x : Int, e = .returned (.int .i64 x) ∧ 0 ≤ x ∧ x < n ∧ Cur B C a len cap w' ∧ Writes C w w' := by
  have HC := Lib.hid hc
  clear hc
  go_enter Tryz.func25, Tryz.ntmps25
  go_wp2_with fail
  refine (draw_byte _ HC.out).mono ?_
  rintro e w1 ⟨x1, rfl, h10, h11, hc1, hw1⟩
  have HC1 := Lib.hid hc1
  have HW1 := Lib.hid hw1
  clear hc1 hw1
  go_wp2_with fail
  refine (draw_byte _ HC1.out).mono ?_
  rintro e w2 ⟨x2, rfl, h20, h21, hc2, hw2⟩
  have HC2 := Lib.hid hc2
  have HW2 := Lib.hid hw2
  clear hc2 hw2
  go_wp2_with fail
  refine (draw_byte _ HC2.out).mono ?_
  rintro e w3 ⟨x3, rfl, h30, h31, hc3, hw3⟩
  have HC3 := Lib.hid hc3
  have HW3 := Lib.hid hw3
  clear hc3 hw3
  go_wp2_with fail
  refine (draw_byte _ HC3.out).mono ?_
  rintro e w4 ⟨x4, rfl, h40, h41, hc4, hw4⟩
  have HC4 := Lib.hid hc4
  have HW4 := Lib.hid hw4
  clear hc4 hw4
  go_wp2
  go_ret
  exact ⟨_, rfl, Int.emod_nonneg _ (by omega), Int.emod_lt_of_pos _ (by omega), HC4.out, ((HW1.out.trans HW2.out).trans HW3.out).trans HW4.out⟩

/-- What l1Below draws lies from 0 to n - 1. -/
theorem draw_below {B C : Nat} {a : Option Addr} {len cap : Nat} (w : World) (hc : Cur B C a len cap w) (n : Int) (h0 : 0 < n) :
    Calls Tryz.prog 25 #[.pointer (some ⟨C, 0, none⟩), .int .i64 n] w fun e w' => ∃ x : Int, e = .returned (.int .i64 x) ∧ 0 ≤ x ∧ x < n ∧ Cur B C a len cap w' ∧ Writes C w w' := by
  by_cases h1 : n ≤ 256
  · exact below_small w hc n h0 h1
  · exact below_great w hc n (by omega)

theorem cur_new {B : Nat} {a : Option Addr} {len cap : Nat} {w : World} (hB : B ≤ w.heap.size) (hl : len ≤ 1048576) (hc : Code B w a len) (x : Int) (T : TypeId) :
    Cur B w.heap.size a len cap (w.alloc (.cells #[.slice a len cap, .int .i64 0, .int .i64 x] T)) :=
  ⟨by simp, hB, hl, hc.below ((Below.refl B w).alloc hB _), by rw [World.cell?_alloc_new]; rfl, ⟨0, Nat.zero_le _, by rw [World.cell?_alloc_new]; rfl⟩, ⟨x, by rw [World.cell?_alloc_new]; rfl⟩,
    World.frozen?_alloc_new _ _ _ _, World.frozen?_alloc_new _ _ _ _⟩

set_option maxHeartbeats 1000000 in
set_option maxRecDepth 100000 in
theorem draw_new {B : Nat} {a : Option Addr} {len cap : Nat} (w : World) (hB : B ≤ w.heap.size) (hl : len ≤ 1048576) (hc : Code B w a len) :
    Calls Tryz.prog 24 #[.slice a len cap] w fun e w' => ∃ C : Nat, e = .returned (.pointer (some ⟨C, 0, none⟩)) ∧ w.heap.size ≤ C ∧ Cur B C a len cap w' ∧ Below w.heap.size w w' := by
  have HC := Lib.hid hc
  go_enter Tryz.func24, Tryz.ntmps24
  go_wp2
  go_loop [3, 4] (fun h i => ∃ (k : Nat) (x : Int), k ≤ len ∧ i = .int .i64 (k : Int) ∧ h = .int .i64 x) (fun _ i => len - (intOf i).toNat)
  case atStart => exact ⟨0, _, Nat.zero_le _, rfl, rfl⟩
  case round =>
    obtain ⟨k, x, hk, rfl, rfl⟩ := hrel
    by_cases hlt : k < len ∧ k < 4000
    · obtain ⟨b, off, z, rfl, hbC, z0, z1, hz⟩ : ∃ (b off : Nat) (z : Int), a = some ⟨b, off, none⟩ ∧ b < B ∧ 0 ≤ z ∧ z ≤ 255 ∧ w.cell? ⟨b, off + k, none⟩ = some (.int .u8 z) := by
        rcases hc with h0 | ⟨b, off, ha, hB, hcs⟩
        · omega
        · obtain ⟨z, h1, h2, h3⟩ := hcs k hlt.1
          exact ⟨b, off, z, ha, hB, h1, h2, h3⟩
      obtain ⟨hl1, hl2⟩ := hlt
      clear hc
      go_wp2
      go_round
      case rel => exact ⟨k + 1, _, by omega, by go_num, rfl⟩
      case measure => simp [intOf]; omega
    · clear hc
      by_cases hl1 : k < len
      · have hl2 : ¬ k < 4000 := fun h => hlt ⟨hl1, h⟩
        clear hlt
        go_wp2
        go_ret
        exact ⟨w.heap.size, rfl, Nat.le_refl _, cur_new hB hl HC.out _ _, (Below.refl _ w).alloc (Nat.le_refl _) _⟩
      · clear hlt
        go_wp2
        go_ret
        exact ⟨w.heap.size, rfl, Nat.le_refl _, cur_new hB hl HC.out _ _, (Below.refl _ w).alloc (Nat.le_refl _) _⟩
end Go.Proofs.YtgpmmlbinmdfmaaGreatDoor
