/-
  Join of the model and of the program over a list of strings that a call grew, with a wide bound on its length.
-/
import Derived.Test.YtkloeadlhpijdaaDoorJoin
import Derived.Test.YtkloeadlhpijdaaDoorGrow
import Derived.Test.YtkloeadlhpijdaaDoorStrsOwn
import Derived.Test.YtkloeadlhpijdaaDoorShelfJoin
namespace Go.Proofs.YtkloeadlhpijdaaDoor
open Go.ChangeShapes Go.WideShapes Go.ChangeAt Go.RowKit
open Go.Lib hiding intOf

def vS (s : ByteArray) : List Value := [.string s]
theorem vS_len (s : ByteArray) : (vS s).length = 1 := rfl
theorem strs_grown {w : World} {B : Nat} {v : Value} {L : List ByteArray} (h : w.ownsRow B 9 1 v L.length (L.flatMap vS)) (hz : ∀ k, (L.getD k ByteArray.empty).size ≤ 9223372036854775807) :
    (v = .slice none 0 0 ∧ L = []) ∨ ∃ g cap, v = .slice (some ⟨g, 0, none⟩) L.length cap ∧ L.length ≤ cap ∧ g < w.heap.size ∧ (∀ k, k < L.length → w.cell? ⟨g, k, none⟩ = some (.string (L.getD k ByteArray.empty))) ∧ Strs w.heap.size w (some ⟨g, 0, none⟩) L := by
  rcases h.2 with ⟨hv, hn⟩ | ⟨g, cap, cur, hv, hg, hblk, h1, h2, h3, h4⟩
  · exact Or.inl ⟨hv, by first | exact List.length_eq_zero_iff.1 hn | simpa using hn⟩
  · subst hv
    have hc : ∀ k, k < L.length → w.cell? ⟨g, k, none⟩ = some (.string (L.getD k ByteArray.empty)) := fun k hk => by
      have h5 := flat_get vS_len L k 0 hk (by decide)
      rw [Nat.mul_one, Nat.add_zero] at h5
      rw [h.cellAt k (by omega), h5]
      rfl
    exact Or.inr ⟨g, cap, rfl, h1, (h.lt g rfl).2, hc, Or.inr ⟨g, 0, rfl, (h.lt g rfl).2, fun k hk => ⟨hz k, by rw [Nat.zero_add]; exact hc k hk⟩⟩⟩

set_option maxHeartbeats 1600000 in
set_option maxRecDepth 100000 in
theorem spec_JoinW {B : Nat} {a : Option Addr} {cap : Nat} (ss : List ByteArray) (b : ByteArray) (hb : b.size ≤ 1048576) (hn : ss.length ≤ 1048576) (hsum : sumSize ss ≤ 67108864) (w : World) (hB : B ≤ w.heap.size) (hs : Strs B w a ss) :
    Calls Tryd.prog 17 #[.slice a ss.length cap, .string b] w fun e w' => e = .returned (.string ⟨(join (ss.map (·.data.toList)) b.data.toList).toArray⟩) ∧ Below w.heap.size w w' := by
  have HS := Lib.hid hs
  have HN := Lib.hid (jo_length ss b hb)
  have HA := Lib.hid (jo_all ss b)
  have HT := Lib.hid (sumSize_take_le ss)
  clear hs
  obtain ⟨i0, hi, hz0, hz1, hz2⟩ := info_parts info_byte
  have hown0 : (w.alloc (.cells #[] 5)).ownsRow w.heap.size 5 1 (.slice (some ⟨w.heap.size, 0, none⟩) 0 0) (jo ss b 0).length (bytesOf (jo ss b 0)) :=
    World.ownsRow_made w #[] 0 (Nat.le_refl _) (Nat.zero_le _) rfl
  have HO0 := Lib.hid hown0
  clear hown0
  go_enter Tryd.func17, Tryd.ntmps17
  go_wp2
  go_loopw [5, 6] (fun v i wr => ∃ k : Nat, k ≤ ss.length ∧ i = .int .i64 (k : Int) ∧ wr.ownsRow w.heap.size 5 1 v (jo ss b k).length (bytesOf (jo ss b k)) ∧ v ≠ .slice none 0 0 ∧ Below w.heap.size w wr) (fun _ i _ => ss.length - (intOf i).toNat)
  case atStart => exact ⟨0, Nat.zero_le _, rfl, HO0.out, by simp, (Below.refl _ w).alloc (Nat.le_refl _) _⟩
  case round =>
    obtain ⟨k, hk, rfl, hown, hne, hbl⟩ := hrel
    have HO := Lib.hid hown
    have HNE := Lib.hid hne
    clear hown hne
    by_cases hlt : k < ss.length
    · obtain ⟨blk, off, rfl, hbB, hsz, hc1⟩ := (HS.out.below (hbl.mono hB)).at k hlt
      have hlen := HN.out (k + 1) (by omega)
      have hlen2 := Nat.le_trans hlen (Nat.add_le_add_right (Nat.le_trans (HT.out (k + 1)) hsum) _)
      clear hlen
      by_cases hk0 : k = 0
      · subst hk0
        have e1 := Lib.hid (jo_one ss b hlt)
        generalize hv : ss.getD 0 ByteArray.empty = s at hsz hc1 e1
        have HV := Lib.hid hv
        clear hv
        rw [Nat.add_zero] at hc1
        have hz : Hid ((jo ss b (0 + 1)).length = (jo ss b 0).length + s.size) := by show (jo ss b 1).length = _; rw [e1.out, jo_zero, data_length]; exact (Nat.zero_add _).symm
        have hsb : (jo ss b 0).length + s.size ≤ 1100000000000 := by rw [← hz.out]; omega
        clear hlen2
        go_wp2_with (at_builtin; refine wpList_append_own_string _ rfl (.tmp 19) (.tmp 23) 57 9 rfl w.heap.size 5 i0 Tryd.underlying57 Tryd.underlying9 hi hz0 hz1 hz2 _ _ _ rfl HO.out s rfl (by unfold maxLen; omega) (by omega) hbl.size ?_; intro v' w1 hown' hgrow hnil)
        have R : w1.ownsRow w.heap.size 5 1 v' (jo ss b 1).length (bytesOf (jo ss b 1)) := by
          rw [bytesOf_append] at hown'
          have e2 : jo ss b 1 = jo ss b 0 ++ s.data.toList := by rw [e1.out, jo_zero]; rfl
          rw [e2, List.length_append, data_length]
          exact hown'
        have hb2 : Below w.heap.size w w1 := hbl.grown hgrow hbl.size (fun g hg => (HO.out.lt g hg).1)
        have hne2 : v' ≠ .slice none 0 0 := fun h => HNE.out (hnil.1 h).1
        have R1 := Lib.hid R
        have R2 := Lib.hid hne2
        clear hown' hgrow hnil R hne2
        go_wp2
        go_roundw
        case rel => exact ⟨1, by omega, rfl, R1.out, R2.out, hb2⟩
        case measure => simp [intOf]; omega
      · obtain ⟨m, rfl⟩ : ∃ m, k = m + 1 := ⟨k - 1, by omega⟩
        have e1 := Lib.hid (jo_succ ss b m hlt)
        generalize hv : ss.getD (m + 1) ByteArray.empty = s at hsz hc1 e1
        have HV := Lib.hid hv
        clear hv
        have hz : Hid ((jo ss b (m + 1 + 1)).length = (jo ss b (m + 1)).length + b.size + s.size) := by show (jo ss b (m + 2)).length = _; rw [e1.out, List.length_append, List.length_append, data_length, data_length]
        have hsb : (jo ss b (m + 1)).length + b.size + s.size ≤ 1200000000000 := by rw [← hz.out]; omega
        clear hlen2 hk0
        have hbel := fun v' w1 (hgrow : wr.grownBy w1 (Value.ownBlock v')) (hv : ∀ g, Value.ownBlock v' = some g → w.heap.size ≤ g) => hbl.grown hgrow hbl.size hv
        have HBEL := Lib.hid hbel
        clear hbel
        go_wp2_with (first | (at_builtin; refine wpList_append_own_string _ rfl (.tmp 16) (.tmp 17) 57 9 rfl w.heap.size 5 i0 Tryd.underlying57 Tryd.underlying9 hi hz0 hz1 hz2 _ _ _ rfl HO.out b rfl (by unfold maxLen; omega) (by omega) hbl.size ?_; intro v' w1 hown' hgrow hnil; have hb2 := HBEL.out _ _ hgrow (fun g hg => (HO.out.lt g hg).1); have hc2 := hgrow.cell hc1 (not_own HO.out (Nat.lt_of_lt_of_le hbB hB))) | (at_builtin; refine wpList_append_own_string _ rfl (.tmp 19) (.tmp 23) 57 9 rfl w.heap.size 5 i0 Tryd.underlying57 Tryd.underlying9 hi hz0 hz1 hz2 _ _ _ rfl hown' s rfl (by unfold maxLen; omega) (by omega) hb2.size ?_; intro v'' w2 hown'' hgrow2 hnil2))
        have R3 : w2.ownsRow w.heap.size 5 1 v'' (jo ss b (m + 2)).length (bytesOf (jo ss b (m + 2))) := by
          rw [bytesOf_append, bytesOf_append] at hown''
          rw [show (jo ss b (m + 2)).length = (jo ss b (m + 1)).length + b.size + s.size from hz.out, e1.out]
          exact hown''
        have hb3 : Below w.heap.size w w2 := hb2.grown hgrow2 hb2.size (fun g hg => (hown'.lt g hg).1)
        have hne3 : v'' ≠ .slice none 0 0 := fun h => HNE.out (hnil.1 (hnil2.1 h).1).1
        have R4 := Lib.hid R3
        have R5 := Lib.hid hne3
        clear hown' hown'' hgrow hgrow2 hnil hnil2 R3 hne3 hc2
        go_wp2
        go_roundw
        case rel => exact ⟨m + 2, by omega, by go_num, R4.out, R5.out, hb3⟩
        case measure => simp [intOf]; omega
    · obtain rfl : k = ss.length := by omega
      have hconv := conv_owned HO.out HNE.out
      go_wp2
      go_ret
      exact ⟨congrArg (fun l : List UInt8 => Ending.returned (Value.string ⟨l.toArray⟩)) HA.out, hbl⟩

theorem spec_Join_own {w : World} {B : Nat} {v : Value} {L : List ByteArray} (h : w.ownsRow B 9 1 v L.length (L.flatMap vS)) (hz : ∀ k, (L.getD k ByteArray.empty).size ≤ 9223372036854775807) (b : ByteArray) (hb : b.size ≤ 1048576) (hn : L.length ≤ 1048576) (hsum : sumSize L ≤ 67108864) :
    Calls Tryd.prog 17 #[v, .string b] w fun e w' => e = .returned (.string ⟨(join (L.map (·.data.toList)) b.data.toList).toArray⟩) ∧ Below w.heap.size w w' := by
  rcases strs_grown h hz with ⟨rfl, rfl⟩ | ⟨g, cap, rfl, _, _, _, hs⟩
  · exact spec_JoinW (B := 0) (a := none) (cap := 0) [] b hb (Nat.zero_le _) (Nat.zero_le _) w (Nat.zero_le _) (Or.inl rfl)
  · exact spec_JoinW L b hb hn hsum w (Nat.le_refl _) hs

theorem impl_Join_own {w : World} {B : Nat} {v : Value} {L : List ByteArray} (h : w.ownsRow B 9 1 v L.length (L.flatMap vS)) (hz : ∀ k, (L.getD k ByteArray.empty).size ≤ 9223372036854775807) (b : ByteArray) (hb : b.size ≤ 1048576) (hn : L.length ≤ 1048576) (hsum : sumSize L ≤ 67108864) :
    Calls Tryd.prog 20 #[v, .string b] w fun e w' => e = .returned (.string ⟨(join (L.map (·.data.toList)) b.data.toList).toArray⟩) ∧ Below w.heap.size w w' := by
  have hJ : Calls Tryd.prog 27 #[v, .string b] w fun e w' => e = .returned (.string ⟨(join (L.map (·.data.toList)) b.data.toList).toArray⟩) ∧ Below w.heap.size w w' := by
    rcases strs_grown h hz with ⟨rfl, rfl⟩ | ⟨g, cap, rfl, hcap, hlt, hc, hs⟩
    · exact (Tryd.strings_Join_none none 0 b w).mono fun e w' ⟨he, hw⟩ => ⟨he, by rw [hw]; exact Below.refl _ _⟩
    · refine Tryd.strings_Join g 0 cap L b w (fun j x hx => ?_) hlt (by omega) hcap ?_
      · obtain ⟨hj, he⟩ := List.getElem?_eq_some_iff.1 hx
        rw [Nat.zero_add, hc j hj, List.getD_eq_getElem?_getD, hx]
        rfl
      · have h1 := jo_length L b hb L.length (Nat.le_refl _)
        rw [jo_all, List.take_length] at h1
        omega
  have HJ := Lib.hid hJ
  clear hJ h
  go_enter Tryd.func20, Tryd.ntmps20
  go_wp2_with (go_at_call 27; refine HJ.out.mono ?_; rintro e w1 ⟨rfl, hb1⟩)
  go_ret
  exact ⟨rfl, hb1⟩
end Go.Proofs.YtkloeadlhpijdaaDoor
