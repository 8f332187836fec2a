/-
  IsValidSymbol, in the model and in the program.
-/
import Derived.Test.YteeehpldkhceoaaTSymbol
import Derived.Test.YteeehpldkhceoaaGrow
import Derived.Test.YteeehpldkhceoaaAttrC
import Derived.Test.YteeehpldkhceoaaSort
import Derived.Test.YteeehpldkhceoaaDist
namespace Go.Proofs.Yteeehpldkhceoaa
open Go.ChangeShapes Go.WideShapes Go.ChangeAt Go.RowKit Go.Deep

def vS (s : ByteArray) : List Value := [.string s]
theorem vS_len (s : ByteArray) : (vS s).length = 1 := rfl
def attrV (a : DAttribute) : Bool := attrB a.fName a.fType a.fMode a.fCircular
def namesA (l : List DAttribute) : List ByteArray := l.map DAttribute.fName
/-- Whether a name and a list of attributes make a valid symbol. -/
def symV (nm : ByteArray) (l : List DAttribute) : Bool := validName nm && (decide (l.length ≤ 4) && (l.all attrV && nodB (namesA l)))
theorem symV_attr {nm : ByteArray} {l : List DAttribute} {j : Nat} (hj : j < l.length) (h : attrV (l.getD j default) = false) : symV nm l = false := by
  have h1 : l.all attrV = false := by
    rw [List.all_eq_false]
    refine ⟨l.getD j default, ?_, by rw [h]; simp⟩
    rw [List.getD_eq_getElem?_getD, List.getElem?_eq_getElem hj]
    exact List.getElem_mem hj
  unfold symV
  rw [h1, Bool.false_and, Bool.and_false, Bool.and_false]
theorem symV_name {nm : ByteArray} {l : List DAttribute} (h : validName nm = false) : symV nm l = false := by unfold symV; rw [h]; rfl
theorem symV_len {nm : ByteArray} {l : List DAttribute} (h : ¬ l.length ≤ 4) : symV nm l = false := by unfold symV; rw [decide_eq_false h, Bool.false_and, Bool.and_false]
theorem symV_all {nm : ByteArray} {l : List DAttribute} (h1 : validName nm = true) (h2 : l.length ≤ 4) (h3 : ∀ k, k < l.length → attrV (l.getD k default) = true) : symV nm l = nodB (namesA l) := by
  have h4 : l.all attrV = true := by
    rw [List.all_eq_true]
    intro x hx
    obtain ⟨k, hk, rfl⟩ := List.getElem_of_mem hx
    have := h3 k hk
    rw [List.getD_eq_getElem?_getD, List.getElem?_eq_getElem hk] at this
    exact this
  unfold symV
  rw [h1, decide_eq_true h2, h4]
  rfl
theorem names_step {l : List DAttribute} {j : Nat} (hj : j < l.length) : namesA (l.take (j + 1)) = namesA (l.take j) ++ [(l.getD j default).fName] := by
  rw [take_snoc hj]
  unfold namesA
  rw [List.map_append]
  rfl
theorem names_len {l : List DAttribute} {j : Nat} (hj : j ≤ l.length) : (namesA (l.take j)).length = j := by unfold namesA; rw [List.length_map, List.length_take]; omega
theorem sz_at {α : Type} [Inhabited α] (f : α → Nat) : ∀ (l : List α) (k : Nat), k < l.length → f (l.getD k default) ≤ lsz f l
  | [], _, h => absurd h (Nat.not_lt_zero _)
  | x :: l, 0, _ => by
    unfold lsz
    rw [List.getD_cons_zero, List.map_cons, List.sum_cons]
    omega
  | x :: l, k + 1, h => by
    have ih := sz_at f l k (by simpa using h)
    unfold lsz at *
    rw [List.getD_cons_succ, List.map_cons, List.sum_cons, List.length_cons]
    omega
theorem names_size {l : List DAttribute} (h : lsz DAttribute.sz l ≤ 1048576) : ∀ k, ((namesA l).getD k ByteArray.empty).size ≤ 9223372036854775807 := by
  intro k
  rcases Nat.lt_or_ge k l.length with hk | hk
  · have h1 := sz_at DAttribute.sz l k hk
    have h2 : (namesA l).getD k ByteArray.empty = (l.getD k default).fName := by
      unfold namesA
      rw [List.getD_eq_getElem?_getD, List.getElem?_map, List.getElem?_eq_getElem hk, List.getD_eq_getElem?_getD, List.getElem?_eq_getElem hk]
      rfl
    rw [h2]
    unfold DAttribute.sz at *
    omega
  · rw [List.getD_eq_getElem?_getD, List.getElem?_eq_none (by unfold namesA; rw [List.length_map]; exact hk)]
    exact Nat.zero_le _
theorem own_belowS {w w' : World} {base : Nat} {e : TypeId} {size : Nat} {v : Value} {n : Nat} {xs : List Value} (h : w.ownsRow base e size v n xs) (hb : Below w.heap.size w w') : w'.ownsRow base e size v n xs :=
  h.kept (row := none) ⟨hb.os, hb.tape, hb.output, hb.size, fun k hk _ => hb.block k hk⟩ (Classical.byCases Or.inl fun hn => Or.inr hn)
theorem strs_grown {w : World} {B : Nat} {v : Value} {L : List ByteArray} (h : w.ownsRow B 9 1 v L.length (L.flatMap vS)) (hz : ∀ k, (L.getD k ByteArray.empty).size ≤ 9223372036854775807) :
    (v = .slice none 0 0 ∧ L = []) ∨ ∃ g cap, v = .slice (some ⟨g, 0, none⟩) L.length cap ∧ L.length ≤ cap ∧ Strs w.heap.size w (some ⟨g, 0, none⟩) L := by
  rcases h.2 with ⟨hv, hn⟩ | ⟨g, cap, cur, hv, hg, hblk, h1, h2, h3, h4⟩
  · exact Or.inl ⟨hv, by first | exact List.length_eq_zero_iff.1 hn | simpa using hn⟩
  · subst hv
    refine Or.inr ⟨g, cap, rfl, h1, Or.inr ⟨g, 0, rfl, (h.lt g rfl).2, fun k hk => ⟨hz k, ?_⟩⟩⟩
    have h5 := flat_get vS_len L k 0 hk (by decide)
    rw [Nat.mul_one, Nat.add_zero] at h5
    rw [Nat.zero_add, h.cellAt k (by omega), h5]
    rfl

theorem grown_form {w : World} {B n : Nat} {v : Value} {L : List ByteArray} (h : w.ownsRow B 9 1 v L.length (L.flatMap vS)) (hz : ∀ k, (L.getD k ByteArray.empty).size ≤ 9223372036854775807) (hn : L.length = n) : ∃ a c, v = .slice a n c := by
  subst hn
  rcases strs_grown h hz with ⟨h1, h2⟩ | ⟨g, cap, h1, _, _⟩
  · exact ⟨none, 0, by rw [h1, h2]; rfl⟩
  · exact ⟨_, cap, h1⟩

set_option maxHeartbeats 3200000 in
set_option maxRecDepth 100000 in
theorem impl_SortNames_nil (w : World) :
    Calls Try.prog 38 #[.slice none 0 0] w fun e w' => e = .returned (.slice none 0 0) ∧ Below w.heap.size w w' := by
  have HC := Lib.hid (Try.slices_Clone_string_nil 0 0 w)
  have HS := Lib.hid (fun W : World => Try.slices_Sort_string_none none 0 W)
  have HP := Lib.hid (fun W : World => Try.slices_Compact_string_empty none 0 W)
  have HB := Lib.hid (Below.refl w.heap.size w)
  go_enter Try.func38, Try.ntmps38
  go_wp2_with fail
  refine HC.out.mono ?_
  rintro e w1 ⟨rfl, rfl⟩
  go_wp2_with fail
  refine (HS.out _).mono ?_
  rintro e w2 ⟨rfl, rfl⟩
  go_wp2_with fail
  refine (HP.out _).mono ?_
  rintro e w3 ⟨rfl, rfl⟩
  go_wp2
  go_ret
  exact ⟨rfl, HB.out⟩

set_option maxHeartbeats 3200000 in
set_option maxRecDepth 100000 in
theorem impl_AllDistinct_nil (w : World) :
    Calls Try.prog 25 #[.slice none 0 0] w fun e w' => e = .returned (.bool (nodB [])) ∧ Below w.heap.size w w' := by
  have HS := Lib.hid (impl_SortNames_nil w)
  have fin := Lib.hid (nodB_yes (ss := []) List.nodup_nil)
  go_enter Try.func25, Try.ntmps25
  go_wp2_with fail
  refine HS.out.mono ?_
  rintro e w1 ⟨rfl, hb⟩
  go_wp2
  go_ret
  exact ⟨ret_bool fin.out.symm, hb⟩

theorem impl_AllDistinct_own {w : World} {B : Nat} {v : Value} {L : List ByteArray} (h : w.ownsRow B 9 1 v L.length (L.flatMap vS)) (hn : L.length ≤ 1048576) (hz : ∀ k, (L.getD k ByteArray.empty).size ≤ 9223372036854775807) :
    Calls Try.prog 25 #[v] w fun e w' => e = .returned (.bool (nodB L)) ∧ Below w.heap.size w w' := by
  rcases strs_grown h hz with ⟨rfl, rfl⟩ | ⟨g, cap, rfl, _, hs⟩
  · exact impl_AllDistinct_nil w
  · exact impl_AllDistinct L hn w hs

theorem spec_AllDistinct_own {w : World} {B : Nat} {v : Value} {L : List ByteArray} (h : w.ownsRow B 9 1 v L.length (L.flatMap vS)) (hn : L.length ≤ 1048576) (hz : ∀ k, (L.getD k ByteArray.empty).size ≤ 9223372036854775807) :
    Calls Try.prog 21 #[v] w fun e w' => e = .returned (.bool (nodB L)) ∧ Below w.heap.size w w' := by
  rcases strs_grown h hz with ⟨rfl, rfl⟩ | ⟨g, cap, rfl, hc, hs⟩
  · exact spec_AllDistinct (B := 0) (cap := 0) (a := none) [] (by decide) (Nat.le_refl _) w (show Strs 0 w none [] from Or.inl rfl)
  · exact spec_AllDistinct L hn hc w hs

set_option maxHeartbeats 3200000 in
set_option maxRecDepth 100000 in
theorem spec_IsValidSymbol {lo hi : Nat} {a1 : Option Addr} {c0_0 : Nat} (s : DSymbol) (_ : s.ok) (hsz : s.sz ≤ 1048576) (w : World) (hhi : hi ≤ w.heap.size) (hs : Sl lo hi w 4 s.fAttributes.length (fun k => DAttribute.ct (s.fAttributes.getD k default)) a1) :
    Calls Try.prog 10 #[.agg #[.string s.fName, .slice a1 s.fAttributes.length c0_0]] w fun e w' => e = .returned (.bool (symV s.fName s.fAttributes)) ∧ Below w.heap.size w w' := by
  have hl : lsz DAttribute.sz s.fAttributes ≤ 1048576 := by unfold DSymbol.sz at hsz; omega
  have hns : s.fName.size ≤ 1048576 := by unfold DSymbol.sz at hsz; omega
  have hn : s.fAttributes.length ≤ 1048576 := by unfold lsz at hl; omega
  generalize s.fAttributes = l at *
  generalize s.fName = nm at *
  have HB := Lib.hid ((Below.refl w.heap.size w).alloc (Nat.le_refl _) (.cells #[.string nm, .slice a1 l.length c0_0] 29))
  have HE := Lib.hid (show Below (w.heap.size + 1) (w.alloc (.cells #[.string nm, .slice a1 l.length c0_0] 29)) (w.alloc (.cells #[.string nm, .slice a1 l.length c0_0] 29)) from Below.refl _ _)
  have HSZ := Lib.hid (show (w.alloc (.cells #[.string nm, .slice a1 l.length c0_0] 29)).heap.size = w.heap.size + 1 by simp)
  have HX := Lib.hid (show (w.alloc (.cells #[.string nm, .slice a1 l.length c0_0] 29)).cell? ⟨w.heap.size, 1, none⟩ = some (.slice a1 l.length c0_0) by go_simp)
  have HX0 := Lib.hid (show (w.alloc (.cells #[.string nm, .slice a1 l.length c0_0] 29)).cell? ⟨w.heap.size, 0, none⟩ = some (.string nm) by go_simp)
  have HS := Lib.hid (hs.later HB.out hhi)
  have HHI := Lib.hid hhi
  have HNM := Lib.hid (fun W : World => spec_IsValidName nm hns W)
  have HAT := Lib.hid (fun (a : DAttribute) (h : a.fName.size ≤ 1048576) (W : World) => spec_IsValidAttribute a.fName a.fType a.fMode a.fCircular h W)
  have HNZ := Lib.hid (names_size hl)
  have HLZ := Lib.hid hl
  obtain ⟨i0, hi', hz0, hz1, hz2⟩ := info_parts info_string
  clear hs hsz hhi hl hns
  have HO0 := Lib.hid (show ((w.alloc (.cells #[.string nm, .slice a1 l.length c0_0] 29)).alloc (.cells #[] 9)).ownsRow (w.heap.size + 1) 9 1 (.slice (some ⟨w.heap.size + 1, 0, none⟩) 0 0) 0 [] from by have h := grown_made (w := w.alloc (.cells #[.string nm, .slice a1 l.length c0_0] 29)) (e := 9) (n := 1) (vals := vS); rw [HSZ.out] at h; exact h)
  go_enter Try.func10, Try.ntmps10
  go_wp2
  go_loopw [3, 4] (fun v i wr => ∃ j : Nat, j ≤ l.length ∧ i = .int .i64 (j : Int) ∧ (∀ k, k < j → attrV (l.getD k default) = true) ∧ wr.ownsRow (w.heap.size + 1) 9 1 v (namesA (l.take j)).length ((namesA (l.take j)).flatMap vS) ∧ Below (w.heap.size + 1) (w.alloc (.cells #[.string nm, .slice a1 l.length c0_0] 29)) wr) (fun _ i _ => l.length - (intOf i).toNat)
  case atStart => exact ⟨0, Nat.zero_le _, rfl, fun k hk => absurd hk (Nat.not_lt_zero _), HO0.out, HE.out.alloc (by simp) _⟩
  case round =>
    obtain ⟨j, hj, rfl, hall, hown, hbl⟩ := hrel
    have HALL := Lib.hid hall
    have HO := Lib.hid hown
    have HBL := Lib.hid hbl
    have hsz1 : w.heap.size + 1 ≤ wr.heap.size := by have := hbl.size; rw [HSZ.out] at this; exact this
    have hx1 : wr.cell? ⟨w.heap.size, 1, none⟩ = some (.slice a1 l.length c0_0) := (hbl.cell (p := ⟨w.heap.size, 1, none⟩) (Nat.lt_succ_self _)).trans HX.out
    have hx0 : wr.cell? ⟨w.heap.size, 0, none⟩ = some (.string nm) := (hbl.cell (p := ⟨w.heap.size, 0, none⟩) (Nat.lt_succ_self _)).trans HX0.out
    clear hown hbl hall
    by_cases hlt : j < l.length
    · have HST := Lib.hid (names_step hlt)
      have hln : (namesA (l.take j)).length ≤ 1048576 := by rw [names_len hj]; omega
      have HAV := Lib.hid (fun h : attrV (l.getD j default) = false => symV_attr (nm := nm) hlt h)
      have hfz : (l.getD j default).fName.size ≤ 1048576 := Nat.le_trans (show DAttribute.sz (l.getD j default) ≤ _ from sz_at DAttribute.sz l j hlt) HLZ.out
      have HA1 := Lib.hid (HAT.out (l.getD j default) hfz)
      obtain ⟨b, off, rfl, _, hbh, hc⟩ := (HS.out.later HBL.out (Nat.le_trans HHI.out (Nat.le_succ _))).at j hlt
      obtain ⟨hc0, hc1, hc2, hc3⟩ := DAttribute.open hc
      have hbw : b < w.heap.size := Nat.lt_of_lt_of_le hbh HHI.out
      clear hc hfz
      rw [show attrB (l.getD j default).fName (l.getD j default).fType (l.getD j default).fMode (l.getD j default).fCircular = attrV (l.getD j default) from rfl] at HA1
      have HAJ : Hid (attrV (l.getD j default) = true → ∀ k, k < j + 1 → attrV (l.getD k default) = true) := by
        show _ → _
        intro h k hk
        rcases Nat.lt_or_ge k j with h1 | h1
        · exact HALL.out k h1
        · rw [show k = j by omega]; exact h
      generalize namesA (l.take j) = L at *
      generalize attrV (l.getD j default) = av at *
      generalize (l.getD j default).fName = x at *
      generalize (l.getD j default).fType = y1 at *
      generalize (l.getD j default).fMode = y2 at *
      generalize (l.getD j default).fCircular = y3 at *
      go_wp2_with fail
      refine (HA1.out _).mono ?_
      rintro e w1 ⟨rfl, hb⟩
      have hst := Lib.hid (show Below (w.heap.size + 1) (w.alloc (.cells #[.string nm, .slice (some ⟨b, off, none⟩) l.length c0_0] 29)) w1 from HBL.out.trans (hb.mono hsz1))
      have HO1 := Lib.hid (own_belowS HO.out hb)
      have hsz2 : w.heap.size + 1 ≤ w1.heap.size := Nat.le_trans hsz1 hb.size
      have hy1 := (hb.cell (p := ⟨w.heap.size, 1, none⟩) (show w.heap.size < wr.heap.size by omega)).trans hx1
      have hd0 := (hb.cell (p := ⟨b, off + j * 4, none⟩) (show b < wr.heap.size by omega)).trans hc0
      clear hb HA1 HAT
      cases av
      · have fin := Lib.hid (HAV.out rfl)
        go_wp2
        go_ret
        exact ⟨ret_bool fin.out.symm, HB.out.trans (hst.out.mono (Nat.le_succ _))⟩
      · have HAK := Lib.hid (HAJ.out rfl)
        go_wp2_with (at_builtin; refine wpList_append_own _ rfl (.tmp 20) (.tmp 27) 37 rfl (w.heap.size + 1) 9 i0 (.string ⟨#[]⟩) 1 16 Try.underlying37 hi' hz0 hz1 hz2 rfl (by decide) _ _ _ rfl (HO1.out.alloc _) ⟨w1.heap.size, 0, none⟩ 1 1 [.string x] rfl rfl (cell_one_new _ _ _) (by intro u hu; simp at hu; subst hu; rfl) (by unfold maxLen; omega) (by omega) (by simp <;> omega) ?_; intro v' w2 hown' hgrow hnil)
        have R1 := Lib.hid (grown_one (l := L) (x := x) (vals := vS) hown' rfl)
        rw [← HST.out] at R1
        have R3 := Lib.hid (show Below (w.heap.size + 1) (w.alloc (.cells #[.string nm, .slice (some ⟨b, off, none⟩) l.length c0_0] 29)) w2 from (hst.out.alloc hsz2 _).grown hgrow (by simp <;> omega) (fun g hg => (HO1.out.lt g hg).1))
        clear hown' hgrow hnil
        go_wp2
        go_roundw
        case rel => exact ⟨j + 1, by omega, by go_num, HAK.out, R1.out, R3.out⟩
        case measure => simp [intOf]; omega
    · obtain rfl : j = l.length := by omega
      have HNZ2 := HNZ.out
      have ho := HO.out
      rw [List.take_length] at ho
      have HO2 := Lib.hid ho
      have HLN := Lib.hid (show (namesA l).length ≤ 1048576 by unfold namesA; rw [List.length_map]; exact hn)
      have HLL := Lib.hid (show (namesA l).length = l.length by unfold namesA; rw [List.length_map])
      clear ho
      obtain ⟨a, c, rfl⟩ := grown_form HO2.out HNZ2 HLL.out
      by_cases hv : validName nm = true
      · rw [hv] at HNM
        by_cases h4 : l.length ≤ 4
        · have fin := Lib.hid (symV_all hv h4 HALL.out)
          have hcmp : decide ((l.length : Int) ≤ 4) = true := decide_eq_true (by omega)
          have hc4 : (l.length : Int) ≤ 4 := by omega
          go_wp2_with fail
          refine (HNM.out _).mono ?_
          rintro e w1 ⟨rfl, hb⟩
          have HB1 := Lib.hid (show Below w.heap.size w w1 from HB.out.trans (((HBL.out.trans (hb.mono hsz1)).mono (Nat.le_succ _))))
          have HO3 := Lib.hid (own_belowS HO2.out hb)
          clear hb
          go_wp2_with fail
          refine (spec_AllDistinct_own HO3.out HLN.out HNZ2).mono ?_
          rintro e w2 ⟨rfl, hb2⟩
          generalize nodB (namesA l) = nb at *
          go_wp2
          go_ret
          exact ⟨ret_bool fin.out.symm, HB1.out.trans (hb2.mono HB1.out.size)⟩
        · have fin := Lib.hid (symV_len (nm := nm) h4)
          have hcmp : decide ((l.length : Int) ≤ 4) = false := decide_eq_false (by omega)
          have hc4 : 4 < (l.length : Int) := by omega
          go_wp2_with fail
          refine (HNM.out _).mono ?_
          rintro e w1 ⟨rfl, hb⟩
          have HB1 := Lib.hid (show Below w.heap.size w w1 from HB.out.trans (((HBL.out.trans (hb.mono hsz1)).mono (Nat.le_succ _))))
          clear hb
          go_wp2
          go_ret
          exact ⟨ret_bool fin.out.symm, HB1.out⟩
      · have hv' := Bool.eq_false_iff.2 hv
        have fin := Lib.hid (symV_name (l := l) hv')
        rw [hv'] at HNM
        go_wp2_with fail
        refine (HNM.out _).mono ?_
        rintro e w1 ⟨rfl, hb⟩
        have HB1 := Lib.hid (show Below w.heap.size w w1 from HB.out.trans (((HBL.out.trans (hb.mono hsz1)).mono (Nat.le_succ _))))
        clear hb
        go_wp2
        go_ret
        exact ⟨ret_bool fin.out.symm, HB1.out⟩

set_option maxHeartbeats 3200000 in
set_option maxRecDepth 100000 in
theorem impl_IsValidSymbol {lo hi : Nat} {a1 : Option Addr} {c0_0 : Nat} (s : DSymbol) (_ : s.ok) (hsz : s.sz ≤ 1048576) (w : World) (hhi : hi ≤ w.heap.size) (hs : Sl lo hi w 4 s.fAttributes.length (fun k => DAttribute.ct (s.fAttributes.getD k default)) a1) :
    Calls Try.prog 14 #[.agg #[.string s.fName, .slice a1 s.fAttributes.length c0_0]] w fun e w' => e = .returned (.bool (symV s.fName s.fAttributes)) ∧ Below w.heap.size w w' := by
  have hl : lsz DAttribute.sz s.fAttributes ≤ 1048576 := by unfold DSymbol.sz at hsz; omega
  have hns : s.fName.size ≤ 1048576 := by unfold DSymbol.sz at hsz; omega
  have hn : s.fAttributes.length ≤ 1048576 := by unfold lsz at hl; omega
  generalize s.fAttributes = l at *
  generalize s.fName = nm at *
  have HB := Lib.hid ((Below.refl w.heap.size w).alloc (Nat.le_refl _) (.cells #[.string nm, .slice a1 l.length c0_0] 29))
  have HE := Lib.hid (show Below (w.heap.size + 1) (w.alloc (.cells #[.string nm, .slice a1 l.length c0_0] 29)) (w.alloc (.cells #[.string nm, .slice a1 l.length c0_0] 29)) from Below.refl _ _)
  have HSZ := Lib.hid (show (w.alloc (.cells #[.string nm, .slice a1 l.length c0_0] 29)).heap.size = w.heap.size + 1 by simp)
  have HX := Lib.hid (show (w.alloc (.cells #[.string nm, .slice a1 l.length c0_0] 29)).cell? ⟨w.heap.size, 1, none⟩ = some (.slice a1 l.length c0_0) by go_simp)
  have HX0 := Lib.hid (show (w.alloc (.cells #[.string nm, .slice a1 l.length c0_0] 29)).cell? ⟨w.heap.size, 0, none⟩ = some (.string nm) by go_simp)
  have HS := Lib.hid (hs.later HB.out hhi)
  have HHI := Lib.hid hhi
  have HNM := Lib.hid (fun W : World => impl_IsValidName nm hns W)
  have HAT := Lib.hid (fun (a : DAttribute) (h : a.fName.size ≤ 1048576) (W : World) => impl_IsValidAttribute a.fName a.fType a.fMode a.fCircular h W)
  have HNZ := Lib.hid (names_size hl)
  have HLZ := Lib.hid hl
  obtain ⟨i0, hi', hz0, hz1, hz2⟩ := info_parts info_string
  clear hs hsz hhi hl hns
  by_cases hv : validName nm = true
  rotate_left
  · have hv' := Bool.eq_false_iff.2 hv
    have fin := Lib.hid (symV_name (l := l) hv')
    rw [hv'] at HNM
    go_enter Try.func14, Try.ntmps14
    go_wp2_with fail
    refine (HNM.out _).mono ?_
    rintro e w1 ⟨rfl, hb⟩
    have HB1 := Lib.hid (show Below w.heap.size w w1 from HB.out.trans (hb.mono HB.out.size))
    clear hb
    go_wp2
    go_ret
    exact ⟨ret_bool fin.out.symm, HB1.out⟩
  rw [hv] at HNM
  by_cases h4 : l.length ≤ 4
  rotate_left
  · have fin := Lib.hid (symV_len (nm := nm) h4)
    have hcmp : decide ((l.length : Int) > 4) = true := decide_eq_true (by omega)
    have hc4 : 4 < (l.length : Int) := by omega
    go_enter Try.func14, Try.ntmps14
    go_wp2_with fail
    refine (HNM.out _).mono ?_
    rintro e w1 ⟨rfl, hb⟩
    have HB1 := Lib.hid (show Below w.heap.size w w1 from HB.out.trans (hb.mono HB.out.size))
    have hq1 := (hb.cell (p := ⟨w.heap.size, 1, none⟩) (by simp)).trans HX.out
    clear hb
    go_wp2
    go_ret
    exact ⟨ret_bool fin.out.symm, HB1.out⟩
  have hc4 : (l.length : Int) ≤ 4 := by omega
  go_enter Try.func14, Try.ntmps14
  go_wp2_with fail
  refine (HNM.out _).mono ?_
  rintro e w0 ⟨rfl, hb⟩
  have HB0 := Lib.hid (show Below (w.heap.size + 1) (w.alloc (.cells #[.string nm, .slice a1 l.length c0_0] 29)) w0 from hb.mono (by simp))
  have hq1 := (hb.cell (p := ⟨w.heap.size, 1, none⟩) (by simp)).trans HX.out
  clear hb
  go_wp2
  go_loopw [3, 19] (fun v i wr => ∃ j : Nat, j ≤ l.length ∧ i = .int .i64 (j : Int) ∧ (∀ k, k < j → attrV (l.getD k default) = true) ∧ wr.ownsRow (w.heap.size + 1) 9 1 v (namesA (l.take j)).length ((namesA (l.take j)).flatMap vS) ∧ Below (w.heap.size + 1) (w.alloc (.cells #[.string nm, .slice a1 l.length c0_0] 29)) wr) (fun _ i _ => l.length - (intOf i).toNat)
  case atStart => exact ⟨0, Nat.zero_le _, rfl, fun k hk => absurd hk (Nat.not_lt_zero _), grown_nil, HB0.out⟩
  case round =>
    obtain ⟨j, hj, rfl, hall, hown, hbl⟩ := hrel
    have HALL := Lib.hid hall
    have HO := Lib.hid hown
    have HBL := Lib.hid hbl
    have hsz1 : w.heap.size + 1 ≤ wr.heap.size := by have := hbl.size; rw [HSZ.out] at this; exact this
    have hx1 : wr.cell? ⟨w.heap.size, 1, none⟩ = some (.slice a1 l.length c0_0) := (hbl.cell (p := ⟨w.heap.size, 1, none⟩) (Nat.lt_succ_self _)).trans HX.out
    have hx0 : wr.cell? ⟨w.heap.size, 0, none⟩ = some (.string nm) := (hbl.cell (p := ⟨w.heap.size, 0, none⟩) (Nat.lt_succ_self _)).trans HX0.out
    clear hown hbl hall
    by_cases hlt : j < l.length
    · have HST := Lib.hid (names_step hlt)
      have hln : (namesA (l.take j)).length ≤ 1048576 := by rw [names_len hj]; omega
      have HAV := Lib.hid (fun h : attrV (l.getD j default) = false => symV_attr (nm := nm) hlt h)
      have hfz : (l.getD j default).fName.size ≤ 1048576 := Nat.le_trans (show DAttribute.sz (l.getD j default) ≤ _ from sz_at DAttribute.sz l j hlt) HLZ.out
      have HA1 := Lib.hid (HAT.out (l.getD j default) hfz)
      obtain ⟨b, off, rfl, _, hbh, hc⟩ := (HS.out.later HBL.out (Nat.le_trans HHI.out (Nat.le_succ _))).at j hlt
      obtain ⟨hc0, hc1, hc2, hc3⟩ := DAttribute.open hc
      have hbw : b < w.heap.size := Nat.lt_of_lt_of_le hbh HHI.out
      clear hc hfz
      rw [show attrB (l.getD j default).fName (l.getD j default).fType (l.getD j default).fMode (l.getD j default).fCircular = attrV (l.getD j default) from rfl] at HA1
      have HAJ : Hid (attrV (l.getD j default) = true → ∀ k, k < j + 1 → attrV (l.getD k default) = true) := by
        show _ → _
        intro h k hk
        rcases Nat.lt_or_ge k j with h1 | h1
        · exact HALL.out k h1
        · rw [show k = j by omega]; exact h
      generalize namesA (l.take j) = L at *
      generalize attrV (l.getD j default) = av at *
      generalize (l.getD j default).fName = x at *
      generalize (l.getD j default).fType = y1 at *
      generalize (l.getD j default).fMode = y2 at *
      generalize (l.getD j default).fCircular = y3 at *
      go_wp2_with fail
      refine (HA1.out _).mono ?_
      rintro e w1 ⟨rfl, hb⟩
      have hst := Lib.hid (show Below (w.heap.size + 1) (w.alloc (.cells #[.string nm, .slice (some ⟨b, off, none⟩) l.length c0_0] 29)) w1 from (HBL.out.alloc hsz1 (.cells #[.string x, .int .i64 y1, .int .i64 y2, .bool y3] 36)).trans (hb.mono (by simp; omega)))
      have HO1 := Lib.hid (own_belowS (HO.out.alloc (.cells #[.string x, .int .i64 y1, .int .i64 y2, .bool y3] 36)) hb)
      have hsz2 : w.heap.size + 1 ≤ w1.heap.size := Nat.le_trans (by simp; omega) hb.size
      have hd0 : w1.cell? ⟨wr.heap.size, 0, none⟩ = some (.string x) := (hb.cell (p := ⟨wr.heap.size, 0, none⟩) (by simp)).trans (by go_simp)
      clear hb HA1 HAT
      cases av
      · have fin := Lib.hid (HAV.out rfl)
        go_wp2
        go_ret
        exact ⟨ret_bool fin.out.symm, HB.out.trans (hst.out.mono (Nat.le_succ _))⟩
      · have HAK := Lib.hid (HAJ.out rfl)
        go_wp2_with (at_builtin; refine wpList_append_own _ rfl (.tmp 26) (.tmp 29) 37 rfl (w.heap.size + 1) 9 i0 (.string ⟨#[]⟩) 1 16 Try.underlying37 hi' hz0 hz1 hz2 rfl (by decide) _ _ _ rfl (HO1.out.alloc _) ⟨w1.heap.size, 0, none⟩ 1 1 [.string x] rfl rfl (cell_one_new _ _ _) (by intro u hu; simp at hu; subst hu; rfl) (by unfold maxLen; omega) (by omega) (by simp <;> omega) ?_; intro v' w2 hown' hgrow hnil)
        have R1 := Lib.hid (grown_one (l := L) (x := x) (vals := vS) hown' rfl)
        rw [← HST.out] at R1
        have R3 := Lib.hid (show Below (w.heap.size + 1) (w.alloc (.cells #[.string nm, .slice (some ⟨b, off, none⟩) l.length c0_0] 29)) w2 from (hst.out.alloc hsz2 _).grown hgrow (by simp <;> omega) (fun g hg => (HO1.out.lt g hg).1))
        clear hown' hgrow hnil
        go_wp2
        go_roundw
        case rel => exact ⟨j + 1, by omega, by go_num, HAK.out, R1.out, R3.out⟩
        case measure => simp [intOf]; omega
    · obtain rfl : j = l.length := by omega
      have HNZ2 := HNZ.out
      have ho := HO.out
      rw [List.take_length] at ho
      have HO2 := Lib.hid ho
      have HLN := Lib.hid (show (namesA l).length ≤ 1048576 by unfold namesA; rw [List.length_map]; exact hn)
      have HLL := Lib.hid (show (namesA l).length = l.length by unfold namesA; rw [List.length_map])
      clear ho
      have fin := Lib.hid (symV_all hv h4 HALL.out)
      go_wp2_with fail
      refine (impl_AllDistinct_own HO2.out HLN.out HNZ2).mono ?_
      rintro e w2 ⟨rfl, hb2⟩
      generalize nodB (namesA l) = nb at *
      go_wp2
      go_ret
      exact ⟨ret_bool fin.out.symm, HB.out.trans ((HBL.out.mono (Nat.le_succ _)).trans (hb2.mono (by omega)))⟩
end Go.Proofs.Yteeehpldkhceoaa
