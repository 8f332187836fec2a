/-
  Join of the model (package spec), which appends byte by byte, and of the program (package impl), which calls strings.Join: both yield the elements with the separator between them.
-/
import Derived.Test.YtkloeadlhpijdaaDoorJo
import Derived.Lib.AppendStr
namespace Go.Proofs.YtkloeadlhpijdaaDoor
open Go.ChangeShapes Go.WideShapes Go.ChangeAt Go.RowKit
open Go.Lib

def bytesOf (l : List UInt8) : List Value := l.map fun b => Value.int .u8 b.toNat
theorem bytesOf_append (l : List UInt8) (s : ByteArray) : bytesOf l ++ strCells s = bytesOf (l ++ s.data.toList) := by unfold bytesOf strCells; rw [List.map_append]

theorem info_byte : (Tryd.prog.info? 5).map (fun i => (i.zero, i.size, i.bytes)) = some (some (.int .u8 0), 1, 1) := by kernel_rfl

/-- 'string(out)', out an owned row of bytes. -/
theorem conv_owned {w : World} {base : Nat} {v : Value} {l : List UInt8} (h : w.ownsRow base 5 1 v l.length (bytesOf l)) (hn : v ≠ .slice none 0 0) :
    (convert 57 9 v).run Tryd.prog w = .ok (.string ⟨l.toArray⟩) w := by
  rcases h.2 with ⟨h', _⟩ | ⟨g, cap, cur, rfl, _⟩
  · exact absurd h' hn
  · refine run_convert_bytes_back w 57 9 5 ⟨g, 0, none⟩ cap l Tryd.underlying57 Tryd.underlying5 Tryd.underlying9 fun j hj => ?_
    have e : (⟨g, 0, none⟩ : Addr).add j = ⟨g, j, none⟩ := by rw [WideShapes.add_plain, Nat.zero_add]
    rw [e, h.cellAt j (by omega)]
    unfold bytesOf
    rw [List.getElem?_map, List.getElem?_eq_getElem hj]
    rfl

theorem not_own {w : World} {base : Nat} {e : TypeId} {v : Value} {n : Nat} {xs : List Value} (h : w.ownsRow base e 1 v n xs) {b : Nat} (hb : b < base) : some b ≠ v.ownBlock := fun e =>
  Nat.lt_irrefl _ (Nat.lt_of_lt_of_le hb (h.lt b e.symm).1)

set_option maxHeartbeats 1600000 in
set_option maxRecDepth 100000 in
theorem spec_Join {B : Nat} {a : Option Addr} {cap : Nat} (ss : List ByteArray) (b : ByteArray) (hb : b.size ≤ 1048576) (hn : ss.length ≤ 1048576) (hsum : sumSize ss ≤ 1048576) (w : World) (hB : B ≤ w.heap.size) (hs : Strs B w a ss) :
    Calls Tryd.prog 17 #[.slice a ss.length cap, .string b] w fun e w' => e = .returned (.string ⟨(join (ss.map (·.data.toList)) b.data.toList).toArray⟩) ∧ Below w.heap.size w w' := by
  have HS := Lib.hid hs
  have HN := Lib.hid (jo_length ss b hb)
  have HA := Lib.hid (jo_all ss b)
  have HT := Lib.hid (sumSize_take_le ss)
  clear hs
  obtain ⟨i0, hi, hz0, hz1, hz2⟩ := info_parts info_byte
  have hown0 : (w.alloc (.cells #[] 5)).ownsRow w.heap.size 5 1 (.slice (some ⟨w.heap.size, 0, none⟩) 0 0) (jo ss b 0).length (bytesOf (jo ss b 0)) :=
    World.ownsRow_made w #[] 0 (Nat.le_refl _) (Nat.zero_le _) rfl
  have HO0 := Lib.hid hown0
  clear hown0
  go_enter Tryd.func17, Tryd.ntmps17
  go_wp2
  go_loopw [5, 6] (fun v i wr => ∃ k : Nat, k ≤ ss.length ∧ i = .int .i64 (k : Int) ∧ wr.ownsRow w.heap.size 5 1 v (jo ss b k).length (bytesOf (jo ss b k)) ∧ v ≠ .slice none 0 0 ∧ Below w.heap.size w wr) (fun _ i _ => ss.length - (intOf i).toNat)
  case atStart => exact ⟨0, Nat.zero_le _, rfl, HO0.out, by simp, (Below.refl _ w).alloc (Nat.le_refl _) _⟩
  case round =>
    obtain ⟨k, hk, rfl, hown, hne, hbl⟩ := hrel
    have HO := Lib.hid hown
    have HNE := Lib.hid hne
    clear hown hne
    by_cases hlt : k < ss.length
    · obtain ⟨blk, off, rfl, hbB, hsz, hc1⟩ := (HS.out.below (hbl.mono hB)).at k hlt
      have hlen := HN.out (k + 1) (by omega)
      have hlen2 := Nat.le_trans hlen (Nat.add_le_add_right (Nat.le_trans (HT.out (k + 1)) hsum) _)
      clear hlen
      by_cases hk0 : k = 0
      · subst hk0
        have e1 := Lib.hid (jo_one ss b hlt)
        generalize hv : ss.getD 0 ByteArray.empty = s at hsz hc1 e1
        have HV := Lib.hid hv
        clear hv
        rw [Nat.add_zero] at hc1
        have hz : Hid ((jo ss b (0 + 1)).length = (jo ss b 0).length + s.size) := by show (jo ss b 1).length = _; rw [e1.out, jo_zero, data_length]; exact (Nat.zero_add _).symm
        have hsb : (jo ss b 0).length + s.size ≤ 1100000000000 := by rw [← hz.out]; omega
        clear hlen2
        go_wp2_with (at_builtin; refine wpList_append_own_string _ rfl (.tmp 19) (.tmp 23) 57 9 rfl w.heap.size 5 i0 Tryd.underlying57 Tryd.underlying9 hi hz0 hz1 hz2 _ _ _ rfl HO.out s rfl (by unfold maxLen; omega) (by omega) hbl.size ?_; intro v' w1 hown' hgrow hnil)
        have R : w1.ownsRow w.heap.size 5 1 v' (jo ss b 1).length (bytesOf (jo ss b 1)) := by
          rw [bytesOf_append] at hown'
          have e2 : jo ss b 1 = jo ss b 0 ++ s.data.toList := by rw [e1.out, jo_zero]; rfl
          rw [e2, List.length_append, data_length]
          exact hown'
        have hb2 : Below w.heap.size w w1 := hbl.grown hgrow hbl.size (fun g hg => (HO.out.lt g hg).1)
        have hne2 : v' ≠ .slice none 0 0 := fun h => HNE.out (hnil.1 h).1
        have R1 := Lib.hid R
        have R2 := Lib.hid hne2
        clear hown' hgrow hnil R hne2
        go_wp2
        go_roundw
        case rel => exact ⟨1, by omega, rfl, R1.out, R2.out, hb2⟩
        case measure => simp [intOf]; omega
      · obtain ⟨m, rfl⟩ : ∃ m, k = m + 1 := ⟨k - 1, by omega⟩
        have e1 := Lib.hid (jo_succ ss b m hlt)
        generalize hv : ss.getD (m + 1) ByteArray.empty = s at hsz hc1 e1
        have HV := Lib.hid hv
        clear hv
        have hz : Hid ((jo ss b (m + 1 + 1)).length = (jo ss b (m + 1)).length + b.size + s.size) := by show (jo ss b (m + 2)).length = _; rw [e1.out, List.length_append, List.length_append, data_length, data_length]
        have hsb : (jo ss b (m + 1)).length + b.size + s.size ≤ 1200000000000 := by rw [← hz.out]; omega
        clear hlen2 hk0
        have hbel := fun v' w1 (hgrow : wr.grownBy w1 (Value.ownBlock v')) (hv : ∀ g, Value.ownBlock v' = some g → w.heap.size ≤ g) => hbl.grown hgrow hbl.size hv
        have HBEL := Lib.hid hbel
        clear hbel
        go_wp2_with (first | (at_builtin; refine wpList_append_own_string _ rfl (.tmp 16) (.tmp 17) 57 9 rfl w.heap.size 5 i0 Tryd.underlying57 Tryd.underlying9 hi hz0 hz1 hz2 _ _ _ rfl HO.out b rfl (by unfold maxLen; omega) (by omega) hbl.size ?_; intro v' w1 hown' hgrow hnil; have hb2 := HBEL.out _ _ hgrow (fun g hg => (HO.out.lt g hg).1); have hc2 := hgrow.cell hc1 (not_own HO.out (Nat.lt_of_lt_of_le hbB hB))) | (at_builtin; refine wpList_append_own_string _ rfl (.tmp 19) (.tmp 23) 57 9 rfl w.heap.size 5 i0 Tryd.underlying57 Tryd.underlying9 hi hz0 hz1 hz2 _ _ _ rfl hown' s rfl (by unfold maxLen; omega) (by omega) hb2.size ?_; intro v'' w2 hown'' hgrow2 hnil2))
        have R3 : w2.ownsRow w.heap.size 5 1 v'' (jo ss b (m + 2)).length (bytesOf (jo ss b (m + 2))) := by
          rw [bytesOf_append, bytesOf_append] at hown''
          rw [show (jo ss b (m + 2)).length = (jo ss b (m + 1)).length + b.size + s.size from hz.out, e1.out]
          exact hown''
        have hb3 : Below w.heap.size w w2 := hb2.grown hgrow2 hb2.size (fun g hg => (hown'.lt g hg).1)
        have hne3 : v'' ≠ .slice none 0 0 := fun h => HNE.out (hnil.1 (hnil2.1 h).1).1
        have R4 := Lib.hid R3
        have R5 := Lib.hid hne3
        clear hown' hown'' hgrow hgrow2 hnil hnil2 R3 hne3 hc2
        go_wp2
        go_roundw
        case rel => exact ⟨m + 2, by omega, by go_num, R4.out, R5.out, hb3⟩
        case measure => simp [intOf]; omega
    · obtain rfl : k = ss.length := by omega
      have hconv := conv_owned HO.out HNE.out
      go_wp2
      go_ret
      exact ⟨congrArg (fun l : List UInt8 => Ending.returned (Value.string ⟨l.toArray⟩)) HA.out, hbl⟩
end Go.Proofs.YtkloeadlhpijdaaDoor
