/-
  FormatTokens, in the model and in the program.
-/
import Derived.Test.YtkloeadlhpijdaaDoorTToken
import Derived.Test.YtkloeadlhpijdaaDoorJoinW
import Derived.Test.YtkloeadlhpijdaaDoorFmt
import Derived.Test.YtkloeadlhpijdaaDoorItoa
import Derived.Lib.ItoaLen
namespace Go.Proofs.YtkloeadlhpijdaaDoor
open Go.ChangeShapes Go.WideShapes Go.ChangeAt Go.RowKit Go.Deep
open Go.Lib hiding intOf

theorem ret_st {a b : ByteArray} (h : a = b) : Ending.returned (.string a) = .returned (.string b) := by rw [h]
/-- A token's text as FormatTokens has it. -/
def tokK (k n : Int) (s : ByteArray) : ByteArray := if k = 1 then s else if k = 3 then s else if k = 2 then ⟨(itoa n).toArray⟩ else ⟨#[]⟩
theorem tokK_1 (n : Int) (s : ByteArray) : tokK 1 n s = s := by unfold tokK; rw [if_pos rfl]
theorem tokK_3 (n : Int) (s : ByteArray) : tokK 3 n s = s := by unfold tokK; rw [if_neg (by decide), if_pos rfl]
theorem tokK_2 (n : Int) (s : ByteArray) : tokK 2 n s = ⟨(itoa n).toArray⟩ := by unfold tokK; rw [if_neg (by decide), if_neg (by decide), if_pos rfl]
theorem tokK_no {k : Int} (h1 : ¬ k = 1) (h3 : ¬ k = 3) (h2 : ¬ k = 2) (n : Int) (s : ByteArray) : tokK k n s = ⟨#[]⟩ := by unfold tokK; rw [if_neg h1, if_neg h3, if_neg h2]
theorem tokK_size (k n : Int) (s : ByteArray) (h0 : -9223372036854775808 ≤ n) (h1 : n ≤ 9223372036854775807) : (tokK k n s).size ≤ s.size + 32 := by
  have h := itoa_length_le n h0 h1
  have e : (⟨(itoa n).toArray⟩ : ByteArray).size = (itoa n).length := by show (itoa n).toArray.size = _; rw [List.size_toArray]
  have e2 : (⟨#[]⟩ : ByteArray).size = 0 := rfl
  unfold tokK
  split
  · omega
  · split
    · omega
    · split
      · rw [e]; omega
      · rw [e2]; omega
def tokT (x : DToken) : ByteArray := tokK x.fKind x.fN x.fText
def toksT (l : List DToken) : List ByteArray := l.map tokT
theorem toks_step {l : List DToken} {j : Nat} (hj : j < l.length) : toksT (l.take (j + 1)) = toksT (l.take j) ++ [tokT (l.getD j default)] := by
  rw [take_snoc hj]
  unfold toksT
  rw [List.map_append]
  rfl
theorem toks_len {l : List DToken} {j : Nat} (hj : j ≤ l.length) : (toksT (l.take j)).length = j := by unfold toksT; rw [List.length_map, List.length_take]; omega
theorem toks_sum : ∀ {l : List DToken}, (∀ x ∈ l, DToken.ok x) → sumSize (toksT l) ≤ 33 * lsz DToken.sz l
  | [], _ => Nat.zero_le _
  | x :: l, h => by
    have hx := h x (List.mem_cons_self ..)
    have ih := toks_sum (l := l) (fun y hy => h y (List.mem_cons_of_mem _ hy))
    have h2 := tokK_size x.fKind x.fN x.fText hx.2.1.1 hx.2.1.2
    have h3 : (tokT x).size ≤ x.sz + 32 := h2
    unfold toksT sumSize lsz at *
    simp only [List.map_cons, List.sum_cons, List.length_cons]
    omega
theorem size_le_sum : ∀ (L : List ByteArray) (k : Nat), (L.getD k ByteArray.empty).size ≤ sumSize L
  | [], _ => by rw [List.getD_nil]; exact Nat.zero_le _
  | x :: L, 0 => by unfold sumSize; rw [List.getD_cons_zero, List.map_cons, List.sum_cons]; omega
  | x :: L, k + 1 => by
    have ih := size_le_sum L k
    unfold sumSize at *
    rw [List.getD_cons_succ, List.map_cons, List.sum_cons]
    omega
theorem own_belowS {w w' : World} {base : Nat} {e : TypeId} {size : Nat} {v : Value} {n : Nat} {xs : List Value} (h : w.ownsRow base e size v n xs) (hb : Below w.heap.size w w') : w'.ownsRow base e size v n xs :=
  h.kept (row := none) ⟨hb.os, hb.tape, hb.output, hb.size, fun k hk _ => hb.block k hk⟩ (Classical.byCases Or.inl fun hn => Or.inr hn)
/-- What FormatTokens returns. -/
def fmtToks (l : List DToken) : ByteArray := ⟨(Lib.join ((toksT l).map (·.data.toList)) [32]).toArray⟩

set_option maxHeartbeats 3200000 in
set_option maxRecDepth 100000 in
theorem impl_textOf (k n p : Int) (t : ByteArray) (h0 : -9223372036854775808 ≤ n) (h1 : n ≤ 9223372036854775807) (w : World) (hp : Pow w) :
    Calls Tryd.prog 19 #[.agg #[.int .i64 k, .int .i64 n, .int .i64 p, .string t]] w fun e w' => e = .returned (.string (tokK k n t)) ∧ Below w.heap.size w w' := by
  have HP := Lib.hid hp
  have HB := Lib.hid ((Below.refl w.heap.size w).alloc (Nat.le_refl _) (.cells #[.int .i64 k, .int .i64 n, .int .i64 p, .string t] 44))
  have HF := Lib.hid (fun (W : World) (h : Pow W) => impl_FormatInt n h0 h1 W h)
  rcases (by omega : k = 1 ∨ k = 3 ∨ k = 2 ∨ (¬ k = 1 ∧ ¬ k = 3 ∧ ¬ k = 2)) with rfl | rfl | rfl | ⟨k1, k3, k2⟩
  · have fin := Lib.hid (tokK_1 n t)
    go_enter Tryd.func19, Tryd.ntmps19
    go_wp2
    go_ret
    exact ⟨ret_st fin.out.symm, HB.out⟩
  · have fin := Lib.hid (tokK_3 n t)
    go_enter Tryd.func19, Tryd.ntmps19
    go_wp2
    go_ret
    exact ⟨ret_st fin.out.symm, HB.out⟩
  · have fin := Lib.hid (tokK_2 n t)
    generalize (⟨(itoa n).toArray⟩ : ByteArray) = u at *
    go_enter Tryd.func19, Tryd.ntmps19
    go_wp2_with fail
    refine (HF.out _ (HP.out.below HB.out)).mono ?_
    rintro e w1 ⟨rfl, hb⟩
    go_wp2
    go_ret
    exact ⟨ret_st fin.out.symm, HB.out.trans (hb.mono HB.out.size)⟩
  · have fin := Lib.hid (tokK_no k1 k3 k2 n t)
    go_enter Tryd.func19, Tryd.ntmps19
    go_wp2
    go_ret
    exact ⟨ret_st fin.out.symm, HB.out⟩

set_option maxHeartbeats 3200000 in
set_option maxRecDepth 100000 in
theorem spec_FormatTokens {lo hi : Nat} {a : Option Addr} {c0_0 : Nat} (l : List DToken) (hok : okL DToken.ok l) (hsz : lsz DToken.sz l ≤ 1048576) (w : World) (hhi : hi ≤ w.heap.size) (hs : Sl lo hi w 4 l.length (fun k => DToken.ct (l.getD k default)) a) :
    Calls Tryd.prog 6 #[.slice a l.length c0_0] w fun e w' => e = .returned (.string (fmtToks l)) ∧ Below w.heap.size w w' := by
  have hn : l.length ≤ 1048576 := by unfold lsz at hsz; omega
  have HB := Lib.hid (Below.refl w.heap.size w)
  have HS := Lib.hid hs
  have HHI := Lib.hid hhi
  have HOK := Lib.hid hok
  have HSM := Lib.hid (Nat.le_trans (toks_sum hok.2) (show 33 * lsz DToken.sz l ≤ 67108864 by omega))
  obtain ⟨i0, hi', hz0, hz1, hz2⟩ := info_parts info_string
  clear hs hsz hhi hok
  have HO0 := Lib.hid (show (w.alloc (.cells #[] 9)).ownsRow w.heap.size 9 1 (.slice (some ⟨w.heap.size, 0, none⟩) 0 0) ([] : List ByteArray).length (([] : List ByteArray).flatMap vS) from grown_made)
  go_enter Tryd.func6, Tryd.ntmps6
  go_wp2
  go_loopw [3, 4] (fun v i wr => ∃ j : Nat, j ≤ l.length ∧ i = .int .i64 (j : Int) ∧ wr.ownsRow w.heap.size 9 1 v (toksT (l.take j)).length ((toksT (l.take j)).flatMap vS) ∧ Below w.heap.size w wr) (fun _ i _ => l.length - (intOf i).toNat)
  case atStart => exact ⟨0, Nat.zero_le _, rfl, HO0.out, HB.out.alloc (Nat.le_refl _) _⟩
  case round =>
    obtain ⟨j, hj, rfl, hown, hbl⟩ := hrel
    have HO := Lib.hid hown
    have HBL := Lib.hid hbl
    have hsz1 : w.heap.size ≤ wr.heap.size := hbl.size
    clear hown hbl
    by_cases hlt : j < l.length
    · have HST := Lib.hid (toks_step hlt)
      have hln : (toksT (l.take j)).length ≤ 1048576 := by rw [toks_len hj]; omega
      obtain ⟨_, ⟨hx0, hx1⟩, _, _⟩ := HOK.out.at hlt
      obtain ⟨b, off, rfl, _, hbh, hc⟩ := (HS.out.later HBL.out HHI.out).at j hlt
      obtain ⟨hc0, hc1, hc2, hc3⟩ := DToken.open hc
      have hbw : b < w.heap.size := Nat.lt_of_lt_of_le hbh HHI.out
      have HTK := Lib.hid (show tokT (l.getD j default) = tokK (l.getD j default).fKind (l.getD j default).fN (l.getD j default).fText from rfl)
      clear hc
      generalize tokT (l.getD j default) = tk at *
      generalize toksT (l.take j) = L at *
      generalize (l.getD j default).fKind = k at *
      generalize (l.getD j default).fN = n at *
      generalize (l.getD j default).fAt = p at *
      generalize (l.getD j default).fText = x at *
      rcases (by omega : k = 1 ∨ k = 3 ∨ k = 2 ∨ (¬ k = 1 ∧ ¬ k = 3 ∧ ¬ k = 2)) with rfl | rfl | rfl | ⟨k1, k3, k2⟩
      · rw [HTK.out, tokK_1] at HST
        go_wp2_with (at_builtin; refine wpList_append_own _ rfl (.tmp 23) (.tmp 29) 43 rfl (w.heap.size) 9 i0 (.string ⟨#[]⟩) 1 16 Tryd.underlying43 hi' hz0 hz1 hz2 rfl (by decide) _ _ _ rfl (HO.out.alloc _) ⟨wr.heap.size, 0, none⟩ 1 1 [.string x] rfl rfl (cell_one_new _ _ _) (by intro u hu; simp at hu; subst hu; rfl) (by unfold maxLen; omega) (by omega) (by simp <;> omega) ?_; intro v' w2 hown' hgrow hnil)
        have R1 := Lib.hid (grown_one (l := L) (x := x) (vals := vS) hown' rfl)
        rw [← HST.out] at R1
        have R3 := Lib.hid (show Below w.heap.size w w2 from (HBL.out.alloc hsz1 _).grown hgrow (by simp <;> omega) (fun g hg => (HO.out.lt g hg).1))
        clear hown' hgrow hnil
        go_wp2
        go_roundw
        case rel => exact ⟨j + 1, by omega, by go_num, R1.out, R3.out⟩
        case measure => simp [intOf]; omega
      · rw [HTK.out, tokK_3] at HST
        go_wp2_with (at_builtin; refine wpList_append_own _ rfl (.tmp 23) (.tmp 29) 43 rfl (w.heap.size) 9 i0 (.string ⟨#[]⟩) 1 16 Tryd.underlying43 hi' hz0 hz1 hz2 rfl (by decide) _ _ _ rfl (HO.out.alloc _) ⟨wr.heap.size, 0, none⟩ 1 1 [.string x] rfl rfl (cell_one_new _ _ _) (by intro u hu; simp at hu; subst hu; rfl) (by unfold maxLen; omega) (by omega) (by simp <;> omega) ?_; intro v' w2 hown' hgrow hnil)
        have R1 := Lib.hid (grown_one (l := L) (x := x) (vals := vS) hown' rfl)
        rw [← HST.out] at R1
        have R3 := Lib.hid (show Below w.heap.size w w2 from (HBL.out.alloc hsz1 _).grown hgrow (by simp <;> omega) (fun g hg => (HO.out.lt g hg).1))
        clear hown' hgrow hnil
        go_wp2
        go_roundw
        case rel => exact ⟨j + 1, by omega, by go_num, R1.out, R3.out⟩
        case measure => simp [intOf]; omega
      · rw [HTK.out, tokK_2] at HST
        have HF := Lib.hid (fun W : World => spec_FormatInt n hx0 hx1 W)
        generalize (⟨(itoa n).toArray⟩ : ByteArray) = u at *
        go_wp2_with fail
        refine (HF.out _).mono ?_
        rintro e w1 ⟨rfl, hb⟩
        have HB1 := Lib.hid (show Below w.heap.size w w1 from HBL.out.trans (hb.mono hsz1))
        have HO1 := Lib.hid (own_belowS HO.out hb)
        have hsz2 : w.heap.size ≤ w1.heap.size := HB1.out.size
        clear hb
        go_wp2_with (at_builtin; refine wpList_append_own _ rfl (.tmp 33) (.tmp 40) 43 rfl (w.heap.size) 9 i0 (.string ⟨#[]⟩) 1 16 Tryd.underlying43 hi' hz0 hz1 hz2 rfl (by decide) _ _ _ rfl (HO1.out.alloc _) ⟨w1.heap.size, 0, none⟩ 1 1 [.string u] rfl rfl (cell_one_new _ _ _) (by intro u hu; simp at hu; subst hu; rfl) (by unfold maxLen; omega) (by omega) (by simp <;> omega) ?_; intro v' w2 hown' hgrow hnil)
        have R1 := Lib.hid (grown_one (l := L) (x := u) (vals := vS) hown' rfl)
        rw [← HST.out] at R1
        have R3 := Lib.hid (show Below w.heap.size w w2 from (HB1.out.alloc hsz2 _).grown hgrow (by simp <;> omega) (fun g hg => (HO1.out.lt g hg).1))
        clear hown' hgrow hnil
        go_wp2
        go_roundw
        case rel => exact ⟨j + 1, by omega, by go_num, R1.out, R3.out⟩
        case measure => simp [intOf]; omega
      · rw [HTK.out, tokK_no k1 k3 k2] at HST
        go_wp2_with (at_builtin; refine wpList_append_own _ rfl (.tmp 17) (.tmp 18) 43 rfl (w.heap.size) 9 i0 (.string ⟨#[]⟩) 1 16 Tryd.underlying43 hi' hz0 hz1 hz2 rfl (by decide) _ _ _ rfl (HO.out.alloc _) ⟨wr.heap.size, 0, none⟩ 1 1 [.string ⟨#[]⟩] rfl rfl (cell_one_new _ _ _) (by intro u hu; simp at hu; subst hu; rfl) (by unfold maxLen; omega) (by omega) (by simp <;> omega) ?_; intro v' w2 hown' hgrow hnil)
        have R1 := Lib.hid (grown_one (l := L) (x := (⟨#[]⟩ : ByteArray)) (vals := vS) hown' rfl)
        rw [← HST.out] at R1
        have R3 := Lib.hid (show Below w.heap.size w w2 from (HBL.out.alloc hsz1 _).grown hgrow (by simp <;> omega) (fun g hg => (HO.out.lt g hg).1))
        clear hown' hgrow hnil
        go_wp2
        go_roundw
        case rel => exact ⟨j + 1, by omega, by go_num, R1.out, R3.out⟩
        case measure => simp [intOf]; omega
    · obtain rfl : j = l.length := by omega
      have ho := HO.out
      rw [List.take_length] at ho
      have HZ : ∀ k, ((toksT l).getD k ByteArray.empty).size ≤ 9223372036854775807 := fun k => Nat.le_trans (size_le_sum _ k) (Nat.le_trans HSM.out (by decide))
      have HJ := Lib.hid (spec_Join_own ho HZ ⟨#[32]⟩ (by decide) (by unfold toksT; rw [List.length_map]; exact hn) HSM.out)
      clear ho HZ
      go_wp2_with fail
      refine HJ.out.mono ?_
      rintro e w2 ⟨rfl, hb2⟩
      go_wp2
      go_ret
      exact ⟨rfl, HBL.out.trans (hb2.mono hsz1)⟩

set_option maxHeartbeats 3200000 in
set_option maxRecDepth 100000 in
theorem impl_FormatTokens {lo hi : Nat} {a : Option Addr} {c0_0 : Nat} (l : List DToken) (hok : okL DToken.ok l) (hsz : lsz DToken.sz l ≤ 1048576) (w : World) (hhi : hi ≤ w.heap.size) (hs : Sl lo hi w 4 l.length (fun k => DToken.ct (l.getD k default)) a) (hp : Pow w) :
    Calls Tryd.prog 8 #[.slice a l.length c0_0] w fun e w' => e = .returned (.string (fmtToks l)) ∧ Below w.heap.size w w' := by
  have hn : l.length ≤ 1048576 := by unfold lsz at hsz; omega
  have HP := Lib.hid hp
  have HB := Lib.hid (Below.refl w.heap.size w)
  have HS := Lib.hid hs
  have HHI := Lib.hid hhi
  have HOK := Lib.hid hok
  have HSM := Lib.hid (Nat.le_trans (toks_sum hok.2) (show 33 * lsz DToken.sz l ≤ 67108864 by omega))
  obtain ⟨i0, hi', hz0, hz1, hz2⟩ := info_parts info_string
  clear hp hs hsz hhi hok
  go_enter Tryd.func8, Tryd.ntmps8
  go_wp2
  go_loopw [3, 8] (fun v i wr => ∃ j : Nat, j ≤ l.length ∧ i = .int .i64 (j : Int) ∧ wr.ownsRow w.heap.size 9 1 v (toksT (l.take j)).length ((toksT (l.take j)).flatMap vS) ∧ Below w.heap.size w wr) (fun _ i _ => l.length - (intOf i).toNat)
  case atStart => exact ⟨0, Nat.zero_le _, rfl, grown_nil, HB.out⟩
  case round =>
    obtain ⟨j, hj, rfl, hown, hbl⟩ := hrel
    have HO := Lib.hid hown
    have HBL := Lib.hid hbl
    have hsz1 : w.heap.size ≤ wr.heap.size := hbl.size
    clear hown hbl
    by_cases hlt : j < l.length
    · have HST := Lib.hid (toks_step hlt)
      have hln : (toksT (l.take j)).length ≤ 1048576 := by rw [toks_len hj]; omega
      obtain ⟨_, ⟨hx0, hx1⟩, _, _⟩ := HOK.out.at hlt
      obtain ⟨b, off, rfl, _, hbh, hc⟩ := (HS.out.later HBL.out HHI.out).at j hlt
      obtain ⟨hc0, hc1, hc2, hc3⟩ := DToken.open hc
      have hbw : b < w.heap.size := Nat.lt_of_lt_of_le hbh HHI.out
      have HTK := Lib.hid (show tokT (l.getD j default) = tokK (l.getD j default).fKind (l.getD j default).fN (l.getD j default).fText from rfl)
      clear hc
      generalize tokT (l.getD j default) = tk at *
      generalize toksT (l.take j) = L at *
      generalize (l.getD j default).fKind = k at *
      generalize (l.getD j default).fN = n at *
      generalize (l.getD j default).fAt = p at *
      generalize (l.getD j default).fText = x at *
      have HT := Lib.hid (fun (W : World) (h : Pow W) => impl_textOf k n p x hx0 hx1 W h)
      rw [← HTK.out] at HT
      have HBA := Lib.hid (show Below w.heap.size w (wr.alloc (.cells #[.int .i64 k, .int .i64 n, .int .i64 p, .string x] 44)) from HBL.out.alloc hsz1 (.cells #[.int .i64 k, .int .i64 n, .int .i64 p, .string x] 44))
      go_wp2_with fail
      refine (HT.out _ (HP.out.below HBA.out)).mono ?_
      rintro e w1 ⟨rfl, hb⟩
      have HB1 := Lib.hid (show Below w.heap.size w w1 from HBA.out.trans (hb.mono HBA.out.size))
      have HO1 := Lib.hid (own_belowS (HO.out.alloc (.cells #[.int .i64 k, .int .i64 n, .int .i64 p, .string x] 44)) hb)
      have hsz2 : w.heap.size ≤ w1.heap.size := HB1.out.size
      clear hb
      go_wp2_with (at_builtin; refine wpList_append_own _ rfl (.tmp 12) (.tmp 15) 43 rfl (w.heap.size) 9 i0 (.string ⟨#[]⟩) 1 16 Tryd.underlying43 hi' hz0 hz1 hz2 rfl (by decide) _ _ _ rfl (HO1.out.alloc _) ⟨w1.heap.size, 0, none⟩ 1 1 [.string tk] rfl rfl (cell_one_new _ _ _) (by intro u hu; simp at hu; subst hu; rfl) (by unfold maxLen; omega) (by omega) (by simp <;> omega) ?_; intro v' w2 hown' hgrow hnil)
      have R1 := Lib.hid (grown_one (l := L) (x := tk) (vals := vS) hown' rfl)
      rw [← HST.out] at R1
      have R3 := Lib.hid (show Below w.heap.size w w2 from (HB1.out.alloc hsz2 _).grown hgrow (by simp <;> omega) (fun g hg => (HO1.out.lt g hg).1))
      clear hown' hgrow hnil
      go_wp2
      go_roundw
      case rel => exact ⟨j + 1, by omega, by go_num, R1.out, R3.out⟩
      case measure => simp [intOf]; omega
    · obtain rfl : j = l.length := by omega
      have ho := HO.out
      rw [List.take_length] at ho
      have HZ : ∀ k, ((toksT l).getD k ByteArray.empty).size ≤ 9223372036854775807 := fun k => Nat.le_trans (size_le_sum _ k) (Nat.le_trans HSM.out (by decide))
      have HJ := Lib.hid (impl_Join_own ho HZ ⟨#[32]⟩ (by decide) (by unfold toksT; rw [List.length_map]; exact hn) HSM.out)
      clear ho HZ
      go_wp2_with fail
      refine HJ.out.mono ?_
      rintro e w2 ⟨rfl, hb2⟩
      go_wp2
      go_ret
      exact ⟨rfl, HBL.out.trans (hb2.mono hsz1)⟩
end Go.Proofs.YtkloeadlhpijdaaDoor
