/-
  A list of numbers of the call's own, as a function of the index.
-/
import Derived.Test.YtjlcbbaicengbaaDoorMkI
import Derived.OwnWalk
namespace Go.Proofs.YtjlcbbaicengbaaDoor
open Go.ChangeShapes Go.WideShapes Go.ChangeAt Go.RowKit Go.Deep

theorem numF_at {w : World} {F : Nat → Prop} {n : Nat} {g : Nat → Int} {a : Option Addr} {c : Nat} (h : Own w F (.sl 1 n (fun j => ictI (g j))) (.slice a n c)) (hn : 0 < n) :
    ∃ b off, a = some ⟨b, off, none⟩ ∧ F b ∧ b < w.heap.size ∧ (∀ j, j < n → w.cell? ⟨b, off + j, none⟩ = some (.int .i64 (g j))) ∧ ∀ o, w.frozen? ⟨b, o, none⟩ = false := by
  rcases own_ints h (fun k _ => ⟨_, rfl⟩) with h0 | ⟨b, off, ha, hF, hb, hc, hz⟩
  · omega
  · refine ⟨b, off, ha, hF, hb, fun j hj => ?_, hz⟩
    obtain ⟨v, hv, hcell⟩ := hc j hj
    obtain rfl : v = .int .i64 (g j) := by
      have : Ct.lit v = .lit (.int .i64 (g j)) := hv.symm
      simpa using this
    exact hcell
theorem numF_set {w : World} {F : Nat → Prop} {n : Nat} {g g' : Nat → Int} {b off c : Nat} (h : Own w F (.sl 1 n (fun j => ictI (g j))) (.slice (some ⟨b, off, none⟩) n c)) (i : Nat) (hi : i < n) (z : Int) (hz : z = g' i) (hg : ∀ j, j < n → j ≠ i → g j = g' j) :
    Own (w.setCell ⟨b, off + i, none⟩ (.int .i64 z)) F (.sl 1 n (fun j => ictI (g' j))) (.slice (some ⟨b, off, none⟩) n c) := by
  obtain ⟨b', off', ha, hF, hb, hc, hzz⟩ := numF_at h (by omega)
  simp only [Option.some.injEq, Addr.mk.injEq, and_true] at ha
  obtain ⟨rfl, rfl⟩ := ha
  refine ints_own hF (by simpa [World.setCell] using hb) (fun j hj => ⟨_, rfl, ?_⟩) (fun o => by rw [World.frozen?_setCell]; exact hzz o)
  by_cases hji : j = i
  · subst hji
    rw [World.cell?_setCell_same _ _ _ (hc j hj), hz]
  · rw [World.cell?_setCell_other _ ⟨b, off + i, none⟩ ⟨b, off + j, none⟩ _ (fun e => by have := congrArg Addr.off e; simp only at this; omega), hc j hj, hg j hj hji]
theorem WritesF.cellN {F : Nat → Prop} {w w' : World} (h : WritesF F w w') {p : Addr} (hp : p.block < w.heap.size) (hn : ¬ F p.block) : w'.cell? p = w.cell? p := World.cell?_of_block (h.block p.block hp hn)
theorem WritesF.frozenN {F : Nat → Prop} {w w' : World} (h : WritesF F w w') {p : Addr} (hp : p.block < w.heap.size) (hn : ¬ F p.block) : w'.frozen? p = w.frozen? p := World.frozen?_of_block (h.block p.block hp hn)
theorem numF_made_ints {n k : Nat} (h : k < n) : (madeCells (Value.cells (.int .i64 0)) (n * 1)).toList.getD k .nilFunc = .int .i64 0 := by
  unfold madeCells
  simp [Value.cells, List.getD, h, Nat.mod_one]
theorem cell_zero {w : World} {b : Nat} (k : Nat) : w.cell? ⟨b, 0 + k, none⟩ = w.cell? ⟨b, k, none⟩ := by rw [Nat.zero_add]
theorem numF_rep {n k : Nat} (h : k < n) : (List.replicate n (0 : Int)).getD k default = 0 := by
  rw [List.getD_eq_getElem?_getD, List.getElem?_replicate, if_pos h]; rfl
theorem numF_made {w : World} {B n : Nat} {e : TypeId} (h : w.ownsRow B e 1 (.slice (some ⟨B, 0, none⟩) n n) n (madeCells (Value.cells (.int .i64 0)) (n * 1)).toList) :
    Own w (fun y => B ≤ y ∧ y < w.heap.size) (.sl 1 n (fun k => ictI ((List.replicate n (0 : Int)).getD k default))) (.slice (some ⟨B, 0, none⟩) n n) := by
  have hblk := ownsRow_block h
  refine ints_own ⟨Nat.le_refl _, hblk.1⟩ hblk.1 (fun k hk => ⟨.int .i64 0, ?_, ?_⟩) hblk.2.2.2
  · show Ct.lit _ = _
    rw [numF_rep hk]
  · rw [Nat.zero_add, hblk.2.2.1 k (by omega), numF_made_ints hk]
theorem WritesF.grownN {F : Nat → Prop} {a w w' : World} {row : Option Nat} (h : WritesF F a w) (hg : w.grownBy w' row) (hF : ∀ g, row = some g → F g) : WritesF F a w' :=
  h.trans ⟨hg.os, hg.tape, hg.output, hg.size, fun b hb hn => hg.block b hb fun e => hn (hF b e.symm)⟩
end Go.Proofs.YtjlcbbaicengbaaDoor
