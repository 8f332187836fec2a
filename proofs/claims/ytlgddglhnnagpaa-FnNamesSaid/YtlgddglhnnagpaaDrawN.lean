/-
  Chapter 2 in the model: what its laws draw: a name or nearly one; a list of them.
-/
import Derived.Test.YtlgddglhnnagpaaPick
import Derived.Test.YtlgddglhnnagpaaBig
import Derived.Test.YtlgddglhnnagpaaWith
import Derived.Test.YtlgddglhnnagpaaSrt
import Derived.Sort.Walk0
namespace Go.Proofs.Ytlgddglhnnagpaa
open Go.ChangeShapes Go.WideShapes Go.ChangeAt Go.RowKit

theorem Writes.grown {C : Nat} {w w' : World} (h : Writes C w w') : w.grownBy w' (some C) :=
  ⟨h.os, h.tape, h.output, h.size, fun k hk hn => h.block k hk fun e => hn (by rw [e])⟩
theorem Cur.grown {B C D : Nat} {a : Option Addr} {len cap : Nat} {w w' : World} (h : Cur B C a len cap w) {row : Option Nat} (hg : w.grownBy w' row) (hr : ∀ g, row = some g → D ≤ g) (hC : C < D) : Cur B C a len cap w' := by
  have hb : ∀ k, k ≤ C → w'.heap[k]? = w.heap[k]? := fun k hk => hg.block k (Nat.lt_of_le_of_lt hk h.lt) fun e => by
    have := hr k e.symm; omega
  have hcell : ∀ o, w'.cell? ⟨C, o, none⟩ = w.cell? ⟨C, o, none⟩ := fun o => World.cell?_of_block (hb C (Nat.le_refl _))
  have hfr : ∀ o, w'.frozen? ⟨C, o, none⟩ = w.frozen? ⟨C, o, none⟩ := fun o => World.frozen?_of_block (hb C (Nat.le_refl _))
  have hB : Below B w w' := ⟨hg.os, hg.tape, hg.output, hg.size, fun k hk => hb k (by have := h.le; omega)⟩
  exact ⟨Nat.lt_of_lt_of_le h.lt hg.size, h.le, h.small, h.code.below hB, (hcell 0).trans h.cb, h.ci.imp fun _ ⟨h1, h2⟩ => ⟨h1, (hcell 1).trans h2⟩, h.ch.imp fun _ h2 => (hcell 2).trans h2, (hfr 1).trans h.f1, (hfr 2).trans h.f2⟩

def names : List ByteArray := [⟨#[97]⟩, ⟨#[98]⟩, ⟨#[99]⟩, ⟨#[100]⟩, ⟨#[120]⟩, ⟨#[121]⟩, ⟨#[116]⟩, ⟨#[117]⟩]
theorem names_short : ∀ s ∈ names, s.size ≤ 9 := by decide
def oddNames : List ByteArray := [⟨#[]⟩, ⟨#[49, 97]⟩, ⟨#[97, 49]⟩, ⟨#[97, 98, 99, 100, 101, 102, 103, 104]⟩, ⟨#[97, 98, 99, 100, 101, 102, 103, 104, 105]⟩, ⟨#[105, 102]⟩, ⟨#[115, 101, 108, 102]⟩, ⟨#[109, 97, 120]⟩, ⟨#[115, 117, 109, 115]⟩, ⟨#[65]⟩, ⟨#[97, 95, 98]⟩, ⟨#[111, 102]⟩]
theorem oddNames_short : ∀ s ∈ oddNames, s.size ≤ 9 := by decide

set_option maxRecDepth 100000 in
theorem spec_l2Name {B C : Nat} {a : Option Addr} {len cap : Nat} (w : World) (hc : Cur B C a len cap w) :
    Calls Try.prog 75 #[.pointer (some ⟨C, 0, none⟩)] w fun e w' => ∃ s : ByteArray, e = .returned (.string s) ∧ s.size ≤ 9 ∧ Cur B C a len cap w' ∧ Writes C w w' := by
  have HC := Lib.hid hc
  clear hc
  go_enter Try.func75, Try.ntmps75
  go_wp2_with fail
  refine (pick_str_new w HC.out names (by decide) (by decide) 9).mono ?_
  rintro e w2 ⟨j, hj, rfl, hc2, hw2⟩
  have hb := names_short _ (getD_mem (d := ByteArray.empty) names j hj)
  generalize names.getD j ByteArray.empty = y at hb
  go_wp2
  go_ret
  exact ⟨_, rfl, hb, hc2, hw2⟩

set_option maxHeartbeats 400000 in
set_option maxRecDepth 100000 in
theorem spec_l2Any {B C : Nat} {a : Option Addr} {len cap : Nat} (w : World) (hc : Cur B C a len cap w) :
    Calls Try.prog 53 #[.pointer (some ⟨C, 0, none⟩)] w fun e w' => ∃ s : ByteArray, e = .returned (.string s) ∧ s.size ≤ 9 ∧ Cur B C a len cap w' ∧ Writes C w w' := by
  have HC := Lib.hid hc
  clear hc
  go_enter Try.func53, Try.ntmps53
  go_wp2_with fail
  refine (draw_once _ HC.out 2 (by decide)).mono ?_
  rintro e w1 ⟨x, rfl, hc1, hw1⟩
  have HC1 := Lib.hid hc1
  have HW1 := Lib.hid hw1
  clear hc1 hw1
  cases x
  · go_wp2_with fail
    refine (pick_str_new w1 HC1.out oddNames (by decide) (by decide) 9).mono ?_
    rintro e w2 ⟨j, hj, rfl, hc2, hw2⟩
    have hb := oddNames_short _ (getD_mem (d := ByteArray.empty) oddNames j hj)
    generalize oddNames.getD j ByteArray.empty = y at hb
    go_wp2
    go_ret
    exact ⟨_, rfl, hb, hc2, HW1.out.trans hw2⟩
  · go_wp2_with fail
    refine (spec_l2Name _ HC1.out).mono ?_
    rintro e w2 ⟨y, rfl, hb, hc2, hw2⟩
    go_wp2
    go_ret
    exact ⟨_, rfl, hb, hc2, HW1.out.trans hw2⟩

set_option maxHeartbeats 1600000 in
set_option maxRecDepth 100000 in
theorem spec_l2List {B C : Nat} {a : Option Addr} {len cap : Nat} (w : World) (hc : Cur B C a len cap w) :
    Calls Try.prog 47 #[.pointer (some ⟨C, 0, none⟩)] w fun e w' => ∃ (g cap' : Nat) (ss : List ByteArray), e = .returned (.slice (some ⟨g, 0, none⟩) ss.length cap') ∧ w.heap.size ≤ g ∧ OwnStrs w' g ss ∧ ss.length ≤ 5 ∧ (∀ s ∈ ss, s.size ≤ 9) ∧ Cur B C a len cap w' ∧ Writes C w w' := by
  have hCl := hc.lt
  have HC0 := Lib.hid (hc.later ((Below.refl _ w).alloc (Nat.le_refl _) (.cells #[] 9)))
  clear hc
  obtain ⟨i0, hi, hz0, hz1, hz2⟩ := info_parts info_string
  have HO0 := Lib.hid (show (w.alloc (.cells #[] 9)).ownsRow w.heap.size 9 1 (.slice (some ⟨w.heap.size, 0, none⟩) 0 0) ([] : List ByteArray).length (([] : List ByteArray).map Value.string) from World.ownsRow_made w #[] 0 (Nat.le_refl _) (Nat.zero_le _) rfl)
  go_enter Try.func47, Try.ntmps47
  go_wp2_with fail
  refine (draw_below _ HC0.out 6 (by decide)).mono ?_
  rintro e w1 ⟨n, rfl, hn0, hn1, hc1, hw1⟩
  have HO1 := Lib.hid (HO0.out.kept hw1.grown (Or.inr (by intro e; injection e with e; have e2 : w.heap.size = C := e; omega)))
  have HC1 := Lib.hid hc1
  have HW1 := Lib.hid (((Writes.refl C w).alloc _).trans hw1)
  clear hc1 hw1 HC0 HO0
  obtain ⟨N, rfl⟩ : ∃ N : Nat, n = N := ⟨n.toNat, by omega⟩
  go_wp2
  go_loopw [3, 5] (fun v i wr => ∃ ss : List ByteArray, ss.length ≤ N ∧ i = .int .i64 (ss.length : Int) ∧ wr.ownsRow w.heap.size 9 1 v ss.length (ss.map Value.string) ∧ v ≠ .slice none 0 0 ∧ (∀ s ∈ ss, s.size ≤ 9) ∧ Cur B C a len cap wr ∧ Writes C w wr) (fun _ i _ => N - (RowKit.intOf i).toNat)
  case atStart => exact ⟨[], Nat.zero_le _, rfl, HO1.out, by simp, by simp, HC1.out, HW1.out⟩
  case round =>
    clear HO1 HC1 HW1
    obtain ⟨ss, hk, rfl, hown, hne, hsz, hcur, hwr⟩ := hrel
    have HO := Lib.hid hown
    have HNE := Lib.hid hne
    have HSZ := Lib.hid hsz
    have HCU := Lib.hid hcur
    have HWR := Lib.hid hwr
    clear hown hne hsz hcur hwr
    generalize hL : ss.length = L at hk
    have HL := Lib.hid hL
    clear hL
    by_cases hlt : L < N
    · go_wp2_with fail
      refine (spec_l2Any _ HCU.out).mono ?_
      rintro e w2 ⟨x, rfl, hx, hc2, hw2⟩
      have HO2 := Lib.hid (HO.out.kept hw2.grown (Or.inr (fun e => absurd (HO.out.lt _ e).1 (by omega))))
      have HC2 := Lib.hid hc2
      have HW2 := Lib.hid (HWR.out.trans hw2)
      clear hc2 hw2
      go_wp2_with (at_builtin; refine wpList_append_own _ rfl (.tmp 14) (.tmp 17) 24 rfl w.heap.size 9 i0 (.string ⟨#[]⟩) 1 16 Try.underlying24 hi hz0 hz1 hz2 rfl (by decide) _ _ _ rfl (HO2.out.alloc _) ⟨w2.heap.size, 0, none⟩ 1 1 [.string x] rfl rfl (cell_one_new _ _ _) (by intro u hu; simp at hu; subst hu; rfl) (by unfold maxLen; have := HL.out; omega) (by have := HL.out; omega) (by simp; have := HW2.out.size; omega) ?_; intro v' w3 hown' hgrow hnil)
      have R1 := own_one hown' rfl
      have R2 : v' ≠ .slice none 0 0 := fun h => absurd (hnil.1 h).2 (by decide)
      have R3 := (HC2.out.later ((Below.refl _ w2).alloc (Nat.le_refl _) _)).grown hgrow (D := w.heap.size) (fun g hg => (HO2.out.lt g hg).1) hCl
      have hW3 := HW2.out.alloc (.cells #[.string x] 9)
      have R4 : Writes C w w3 := ⟨hgrow.os.trans hW3.os, hgrow.tape.trans hW3.tape, hgrow.output.trans hW3.output, Nat.le_trans hW3.size hgrow.size, fun k hk hn =>
        (hgrow.block k (Nat.lt_of_lt_of_le hk hW3.size) (fun e => absurd (HO2.out.lt k e.symm).1 (by omega))).trans (hW3.block k hk hn)⟩
      have R5 : (ss ++ [x]).length = L + 1 := by rw [List.length_append, HL.out]; rfl
      have R1' := Lib.hid R1
      have R2' := Lib.hid R2
      have R5' := Lib.hid R5
      clear hown' hgrow hnil R1 R2 R5 hW3
      go_wp2
      go_roundw
      case rel => exact ⟨ss ++ [x], by rw [R5'.out]; omega, by rw [R5'.out]; go_num, R1'.out, R2'.out, fun s hs => by
        rcases List.mem_append.1 hs with h | h
        · exact HSZ.out s h
        · rw [List.mem_singleton] at h; rw [h]; exact hx, R3, R4⟩
      case measure => simp [RowKit.intOf]; omega
    · obtain rfl : L = N := by omega
      go_wp2
      go_ret
      have ho := HO.out
      rcases own_split ho with ⟨h, _⟩ | ⟨g, cap', hv, hg, ho2⟩
      · exact absurd h HNE.out
      · exact ⟨g, cap', ss, congrArg Ending.returned hv, hg, ho2, by have := HL.out; omega, HSZ.out, HCU.out, HWR.out⟩
end Go.Proofs.Ytlgddglhnnagpaa
