/-
  AddPair in the model and in the program.
-/
import Derived.Test.YtnjkgdicaagbeaaRelCopy2
import Derived.Test.YtnjkgdicaagbeaaHasP
namespace Go.Proofs.Ytnjkgdicaagbeaa
open Go.ChangeShapes Go.WideShapes Go.ChangeAt Go.RowKit Go.Deep

/-- A row with bit k. -/
def orB (row : Int) (k : Nat) : Int := bits BinOp.or IntKind.i64 row (2 ^ k)
def addPair (r : DRelation) (i k : Int) : DRelation := if relB r && inR i 0 (r.fN - 1) && inR k 0 (r.fN - 1) then ⟨r.fN, r.fRows.set i.toNat (orB (r.fRows.getD i.toNat default) k.toNat)⟩ else r
theorem addPair_no1 {r : DRelation} {i k : Int} (h : relB r = false) : addPair r i k = r := by unfold addPair; rw [h]; rfl
theorem addPair_no2 {r : DRelation} {i k : Int} (h : inR i 0 (r.fN - 1) = false) : addPair r i k = r := by unfold addPair; rw [h, Bool.and_false]; rfl
theorem addPair_no3 {r : DRelation} {i k : Int} (h : inR k 0 (r.fN - 1) = false) : addPair r i k = r := by unfold addPair; rw [h, Bool.and_false]; rfl
theorem addPair_yes {r : DRelation} {i k : Nat} (h : relB r = true) (h1 : inR i 0 (r.fN - 1) = true) (h2 : inR k 0 (r.fN - 1) = true) : addPair r i k = ⟨r.fN, r.fRows.set i (orB (r.fRows.getD i default) k)⟩ := by
  unfold addPair; rw [h, h1, h2, Int.toNat_natCast, Int.toNat_natCast]; rfl
theorem addPair_len (r : DRelation) (i k : Int) : (addPair r i k).fRows.length = r.fRows.length := by
  unfold addPair
  split <;> simp
theorem addPair_sz {r : DRelation} (h : r.sz ≤ 1048576) (i k : Int) : (addPair r i k).sz ≤ 1048576 := by
  have h1 := rel_len h
  have h2 := addPair_len r i k
  unfold DRelation.sz
  rw [lsz_zero]
  omega
/-- A number stored into a list of its own. -/
theorem own_at {w : World} {F : Nat → Prop} {l : List Int} {a : Option Addr} {c : Nat} (h : Own w F (.sl 1 l.length (rowsI l)) (.slice a l.length c)) (i : Nat) (hi : i < l.length) :
    ∃ b off, a = some ⟨b, off, none⟩ ∧ F b ∧ b < w.heap.size ∧ (∀ j, j < l.length → w.cell? ⟨b, off + j, none⟩ = some (.int .i64 (l.getD j default))) ∧ ∀ o, w.frozen? ⟨b, o, none⟩ = false := by
  rcases own_ints h (fun k _ => ⟨_, rfl⟩) with h0 | ⟨b, off, ha, hF, hb, hc, hz⟩
  · omega
  · refine ⟨b, off, ha, hF, hb, fun j hj => ?_, hz⟩
    obtain ⟨v, hv, hcell⟩ := hc j hj
    obtain rfl : v = .int .i64 (l.getD j default) := by
      have : Ct.lit v = .lit (.int .i64 (l.getD j default)) := hv.symm
      simpa using this
    exact hcell
theorem own_set {w : World} {F : Nat → Prop} {l : List Int} {b off c : Nat} (h : Own w F (.sl 1 l.length (rowsI l)) (.slice (some ⟨b, off, none⟩) l.length c)) (i : Nat) (hi : i < l.length) (z : Int) :
    Own (w.setCell ⟨b, off + i, none⟩ (.int .i64 z)) F (.sl 1 (l.set i z).length (rowsI (l.set i z))) (.slice (some ⟨b, off, none⟩) (l.set i z).length c) := by
  obtain ⟨b', off', ha, hF, hb, hc, hz⟩ := own_at h i hi
  simp only [Option.some.injEq, Addr.mk.injEq, and_true] at ha
  obtain ⟨rfl, rfl⟩ := ha
  refine ints_own hF (by simpa [World.setCell] using hb) (fun j hj => ⟨_, rfl, ?_⟩) (fun o => by rw [World.frozen?_setCell]; exact hz o)
  rw [List.length_set] at hj
  by_cases hji : j = i
  · subst hji
    rw [World.cell?_setCell_same _ _ _ (hc j hj), List.getD_eq_getElem?_getD, List.getElem?_set_self hj]
    rfl
  · rw [World.cell?_setCell_other _ ⟨b, off + i, none⟩ ⟨b, off + j, none⟩ _ (fun e => by have := congrArg Addr.off e; simp only at this; omega), hc j hj, List.getD_eq_getElem?_getD, List.getD_eq_getElem?_getD, List.getElem?_set_ne (by omega)]
theorem Kept.drew {F : Nat → Prop} {a w : World} (h : Kept F a w) : Kept F a w.drew := h
theorem Kept.drewN {F : Nat → Prop} {a w : World} {n : Nat} (h : Kept F a w) : Kept F a (w.drewN n) := h
/-- The block of the row is none of the others. -/
theorem own_lt {w : World} {L H : Nat} {l : List Int} {b off c : Nat} (h : Own w (fun y => L ≤ y ∧ y < H) (.sl 1 l.length (rowsI l)) (.slice (some ⟨b, off, none⟩) l.length c)) (i : Nat) (hi : i < l.length) : L ≤ b ∧ b < H := by
  obtain ⟨b', off', ha, hF, _⟩ := own_at h i hi
  simp only [Option.some.injEq, Addr.mk.injEq, and_true] at ha
  obtain ⟨rfl, rfl⟩ := ha
  exact hF
end Go.Proofs.Ytnjkgdicaagbeaa
