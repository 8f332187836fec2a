/-
  A call that writes one block of what was there, and lays new ones.
-/
import Derived.Test.YtjlcbbaicengbaaDoorKit
import Derived.WalkSmall
namespace Go.Proofs.YtjlcbbaicengbaaDoor
open Go.ChangeShapes Go.WideShapes Go.ChangeAt Go.RowKit

/-- Only block C is written; new blocks may have come. -/
structure Writes (C : Nat) (w w' : World) : Prop where
  os : w'.os = w.os
  tape : w'.tape = w.tape
  output : w'.output = w.output
  size : w.heap.size ≤ w'.heap.size
  block : ∀ k, k < w.heap.size → k ≠ C → w'.heap[k]? = w.heap[k]?

theorem Writes.refl (C : Nat) (w : World) : Writes C w w := ⟨rfl, rfl, rfl, Nat.le_refl _, fun _ _ _ => rfl⟩
theorem Writes.trans {C : Nat} {a b c : World} (h : Writes C a b) (k : Writes C b c) : Writes C a c :=
  ⟨k.os.trans h.os, k.tape.trans h.tape, k.output.trans h.output, Nat.le_trans h.size k.size, fun i hi hn => (k.block i (Nat.lt_of_lt_of_le hi h.size) hn).trans (h.block i hi hn)⟩
theorem Writes.below {C : Nat} {w w' : World} (h : Writes C w w') (hC : C < w.heap.size) : Below C w w' := ⟨h.os, h.tape, h.output, h.size, fun k hk => h.block k (by omega) (by omega)⟩
theorem Writes.drewN {C : Nat} {a w : World} (h : Writes C a w) (n : Nat) : Writes C a (w.drewN n) := h.trans ⟨rfl, rfl, rfl, Nat.le_refl _, fun _ _ _ => rfl⟩
theorem Writes.drew {C : Nat} {a w : World} (h : Writes C a w) : Writes C a w.drew := h.trans ⟨rfl, rfl, rfl, Nat.le_refl _, fun _ _ _ => rfl⟩
theorem Writes.setCell {C : Nat} {a w : World} (h : Writes C a w) (o : Nat) (u : Value) : Writes C a (w.setCell ⟨C, o, none⟩ u) :=
  h.trans ⟨rfl, rfl, rfl, by simp [World.setCell], fun k _ hn => Below.heap_setCell _ _ _ _ hn⟩
theorem Writes.cell {C : Nat} {w w' : World} (h : Writes C w w') {p : Addr} (hp : p.block < w.heap.size) (hn : p.block ≠ C) : w'.cell? p = w.cell? p := World.cell?_of_block (h.block p.block hp hn)

theorem Writes.alloc {C : Nat} {a w : World} (h : Writes C a w) (o : Obj) : Writes C a (w.alloc o) :=
  h.trans ⟨rfl, rfl, rfl, by simp, fun k hk _ => Below.heap_alloc _ _ _ hk⟩
/-- A call that leaves all old blocks alone. -/
theorem Writes.later {C : Nat} {a w w' : World} (h : Writes C a w) (hb : Below w.heap.size w w') : Writes C a w' :=
  ⟨hb.os.trans h.os, hb.tape.trans h.tape, hb.output.trans h.output, Nat.le_trans h.size hb.size, fun k hk hn => (hb.block k (Nat.lt_of_lt_of_le hk h.size)).trans (h.block k hk hn)⟩
end Go.Proofs.YtjlcbbaicengbaaDoor
