/-
  FindEntry of the model and of the program, in the words of the law.
-/
import Derived.Test.YthgpompoionfoaaEntCopy
import Derived.Test.YthgpompoionfoaaTMemo
namespace Go.Proofs.Ythgpompoionfoaa
open Go.ChangeShapes Go.WideShapes Go.ChangeAt Go.RowKit Go.Deep

theorem entE_sz {l : List DEntry} (h : lsz DEntry.sz l ≤ 1048576) (x : DInstance) : (entE l x).sz ≤ 1048576 := by
  unfold entE
  split
  · by_cases hk : (idxI (PEnt x) l).toNat < l.length
    · have := szle_at (f := DEntry.sz) l _ hk
      omega
    · rw [List.getD_eq_getElem?_getD, List.getElem?_eq_none (by omega)]
      exact Nat.le_trans (by decide : _ ≤ 0) (by decide)
  · exact Nat.le_trans (by decide : _ ≤ 0) (by decide)
theorem entM_sz {x : DMemo} (h : x.sz ≤ 1048576) (y : DInstance) : (entE x.fEntries y).sz ≤ 1048576 := entE_sz (by unfold DMemo.sz at h; omega) y
theorem entM_lens {x : DMemo} (h : x.sz ≤ 1048576) (y : DInstance) : (entE x.fEntries y).fIds.length ≤ 1048576 ∧ (entE x.fEntries y).fShape.length ≤ 1048576 ∧ (entE x.fEntries y).fReads.length ≤ 1048576 := entE_lens (by unfold DMemo.sz at h; omega) y
theorem spec_FindEntryL {lo hi : Nat} {a0 a1 : Option Addr} {c0_0 c0_1 : Nat} (x : DMemo) (_ : x.ok) (hsx : x.sz ≤ 1048576) (y : DInstance) (_ : y.ok) (_ : y.sz ≤ 1048576) (w : World) (hhi : hi ≤ w.heap.size) (hs0 : Sl lo hi w 9 x.fEntries.length (fun k => DEntry.ct (x.fEntries.getD k default)) a0) (_ : Sl lo hi w 2 x.fEvaluated.length (fun k => DInstance.ct (x.fEvaluated.getD k default)) a1) :
    Calls Try.prog 6 #[.agg #[.slice a0 x.fEntries.length c0_0, .slice a1 x.fEvaluated.length c0_1], .agg #[.int .i64 y.fNode, .string y.fName]] w fun e w' => ∃ r6 q6 r7 q7 r8 q8, e = .returned (.tuple #[.agg #[.int .i64 (entE x.fEntries y).fAt.fNode, .string (entE x.fEntries y).fAt.fName, .int .i64 (entE x.fEntries y).fValue, .int .i64 (entE x.fEntries y).fOwner, .int .i64 (entE x.fEntries y).fLiteral, .string (entE x.fEntries y).fRule, .slice r6 (entE x.fEntries y).fIds.length q6, .slice r7 (entE x.fEntries y).fShape.length q7, .slice r8 (entE x.fEntries y).fReads.length q8], .bool (entB x.fEntries y)]) ∧ OwnR w' (fun z => w.heap.size ≤ z ∧ z < w'.heap.size) 9 (entE x.fEntries y).ct (fun j => [.int .i64 (entE x.fEntries y).fAt.fNode, .string (entE x.fEntries y).fAt.fName, .int .i64 (entE x.fEntries y).fValue, .int .i64 (entE x.fEntries y).fOwner, .int .i64 (entE x.fEntries y).fLiteral, .string (entE x.fEntries y).fRule, .slice r6 (entE x.fEntries y).fIds.length q6, .slice r7 (entE x.fEntries y).fShape.length q7, .slice r8 (entE x.fEntries y).fReads.length q8].getD j .nilFunc) ∧ Below w.heap.size w w' :=
  (spec_FindEntryO x.fEntries (by unfold DMemo.sz at hsx; omega) y w hhi hs0).mono fun _ _ ⟨⟨r6, r7, r8, q6, q7, q8, h1, h2⟩, h3⟩ => ⟨r6, q6, r7, q7, r8, q8, h1, h2, h3⟩

theorem impl_FindEntryL {lo hi : Nat} {a0 a1 : Option Addr} {c0_0 c0_1 : Nat} (x : DMemo) (_ : x.ok) (hsx : x.sz ≤ 1048576) (y : DInstance) (_ : y.ok) (_ : y.sz ≤ 1048576) (w : World) (hhi : hi ≤ w.heap.size) (hs0 : Sl lo hi w 9 x.fEntries.length (fun k => DEntry.ct (x.fEntries.getD k default)) a0) (_ : Sl lo hi w 2 x.fEvaluated.length (fun k => DInstance.ct (x.fEvaluated.getD k default)) a1) :
    Calls Try.prog 9 #[.agg #[.slice a0 x.fEntries.length c0_0, .slice a1 x.fEvaluated.length c0_1], .agg #[.int .i64 y.fNode, .string y.fName]] w fun e w' => ∃ r6 q6 r7 q7 r8 q8, e = .returned (.tuple #[.agg #[.int .i64 (entE x.fEntries y).fAt.fNode, .string (entE x.fEntries y).fAt.fName, .int .i64 (entE x.fEntries y).fValue, .int .i64 (entE x.fEntries y).fOwner, .int .i64 (entE x.fEntries y).fLiteral, .string (entE x.fEntries y).fRule, .slice r6 (entE x.fEntries y).fIds.length q6, .slice r7 (entE x.fEntries y).fShape.length q7, .slice r8 (entE x.fEntries y).fReads.length q8], .bool (entB x.fEntries y)]) ∧ OwnR w' (fun z => w.heap.size ≤ z ∧ z < w'.heap.size) 9 (entE x.fEntries y).ct (fun j => [.int .i64 (entE x.fEntries y).fAt.fNode, .string (entE x.fEntries y).fAt.fName, .int .i64 (entE x.fEntries y).fValue, .int .i64 (entE x.fEntries y).fOwner, .int .i64 (entE x.fEntries y).fLiteral, .string (entE x.fEntries y).fRule, .slice r6 (entE x.fEntries y).fIds.length q6, .slice r7 (entE x.fEntries y).fShape.length q7, .slice r8 (entE x.fEntries y).fReads.length q8].getD j .nilFunc) ∧ Below w.heap.size w w' :=
  (impl_FindEntryO x.fEntries (by unfold DMemo.sz at hsx; omega) y w hhi hs0).mono fun _ _ ⟨⟨r6, r7, r8, q6, q7, q8, h1, h2⟩, h3⟩ => ⟨r6, q6, r7, q7, r8, q8, h1, h2, h3⟩
end Go.Proofs.Ythgpompoionfoaa
