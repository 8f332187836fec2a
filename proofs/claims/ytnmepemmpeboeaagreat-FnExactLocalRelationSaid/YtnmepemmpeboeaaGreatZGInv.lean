/-
  A list that a call grows by append beside data that stay: of the blocks of w1 only the list's own one is written.
-/
import Derived.Test.YtnmepemmpeboeaaGreatZz3
import Derived.Test.YtnmepemmpeboeaaGreatZz8
namespace Go.Proofs.YtnmepemmpeboeaaGreat
open Go.ChangeShapes Go.WideShapes Go.ChangeAt Go.RowKit Go.Deep

def GInv (v0 : Value) (w1 : World) (v : Value) (wr : World) : Prop :=
  WritesF (fun y => v0.ownBlock = some y) w1 wr ∧ ∀ g, v.ownBlock = some g → v0.ownBlock = some g ∨ w1.heap.size ≤ g
theorem GInv.start {v : Value} {w1 wr : World} (hb : Below w1.heap.size w1 wr) : GInv v w1 v wr := ⟨(WritesF.refl _ _).later hb, fun _ h => .inl h⟩
theorem GInv.later {v0 v : Value} {w1 wr w' : World} (h : GInv v0 w1 v wr) (hb : Below wr.heap.size wr w') : GInv v0 w1 v w' := ⟨h.1.later hb, h.2⟩
theorem GInv.grow {v0 v v' : Value} {w1 wr w9 : World} (h : GInv v0 w1 v wr) (hg : wr.grownBy w9 v.ownBlock) (hat : v'.ownBlock = v.ownBlock ∨ v'.ownBlock = some wr.heap.size) : GInv v0 w1 v' w9 := by
  refine ⟨⟨hg.os.trans h.1.os, hg.tape.trans h.1.tape, hg.output.trans h.1.output, Nat.le_trans h.1.size hg.size, fun k hk hn => ?_⟩, fun g hg' => ?_⟩
  · refine (hg.block k (Nat.lt_of_lt_of_le hk h.1.size) fun e => ?_).trans (h.1.block k hk hn)
    rcases h.2 k e.symm with h' | h'
    · exact hn h'
    · omega
  · rcases hat with e | e
    · exact h.2 g (e ▸ hg')
    · rw [e] at hg'
      cases hg'
      exact .inr h.1.size
theorem GInv.below {v0 v : Value} {w1 wr w : World} {B : Nat} (h : GInv v0 w1 v wr) (hB : ∀ g, v0.ownBlock = some g → B ≤ g) (hb : Below B w w1) (hs : B ≤ w1.heap.size) : Below B w wr := hb.trans (h.1.below hB hs)
theorem GInv.sl {lo hi n len : Nat} {f : Nat → Nat → Ct} {a : Option Addr} {v0 v : Value} {w1 wr : World} (h : GInv v0 w1 v wr) (hs : Sl lo hi w1 n len f a) (hd : ∀ g, v0.ownBlock = some g → g < lo ∨ hi ≤ g) (hh : hi ≤ w1.heap.size) : Sl lo hi wr n len f a :=
  hs.frame fun b off h1 h2 => World.cell?_of_block (a := ⟨b, off, none⟩) (h.1.block b (Nat.lt_of_lt_of_le h2 hh) fun e => by have := hd b e; omega)
end Go.Proofs.YtnmepemmpeboeaaGreat
