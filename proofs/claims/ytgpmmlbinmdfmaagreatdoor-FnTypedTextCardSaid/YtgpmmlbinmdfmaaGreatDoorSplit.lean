/-
  SplitByte of the program (package impl), which calls strings.Split, and of the model (package spec), which cuts in a loop: both yield the pieces between the occurrences of the byte.
-/
import Derived.Test.YtgpmmlbinmdfmaaGreatDoorSp
import Derived.Test.YtgpmmlbinmdfmaaGreatDoorStrsOwn
import Derived.Test.YtgpmmlbinmdfmaaGreatDoorShelfSplit
import Derived.Laws.IdiomStrings
namespace Go.Proofs.YtgpmmlbinmdfmaaGreatDoor
open Go.ChangeShapes Go.WideShapes Go.ChangeAt Go.RowKit
open Go.Lib Sp

/-- internal/bytealg.MaxLen holds some int. -/
def MaxL (w : World) : Prop := ∃ m : Int, w.cell? ⟨3, 0, none⟩ = some (.int .i64 m)
theorem MaxL.below {w w' : World} (h : MaxL w) (hb : Below w.heap.size w w') : MaxL w' := h.imp fun _ hm => (hb.cell (p := ⟨3, 0, none⟩) (str_block_lt hm)).trans hm

theorem MaxL.lt {w : World} (h : MaxL w) : 3 < w.heap.size := by obtain ⟨_, hm⟩ := h; exact str_block_lt hm
theorem MaxL.belowB {w w' : World} {B : Nat} (h : MaxL w) (hb : Below B w w') (hB : 3 < B) : MaxL w' := h.imp fun _ hm => (hb.cell (p := ⟨3, 0, none⟩) hB).trans hm
/-- The pieces are no longer than the string. -/
theorem sumSize_parts (c : UInt8) (s : ByteArray) : sumSize (parts c s) ≤ s.size := by
  have h := congrArg (fun l : List (List UInt8) => (l.map List.length).sum) (parts_data c s)
  have e : ((parts c s).map (·.data.toList)).map List.length = (parts c s).map ByteArray.size := by
    rw [List.map_map]
    exact List.map_congr_left fun x _ => by simp
  have h2 := sp_sum c s.data.toList
  simp only [e] at h
  unfold sumSize
  rw [h]
  have h3 : s.data.toList.length = s.size := by simp
  omega

theorem byte_string {P : Program} {src dst e : TypeId} (hs : P.underlying src = some (.slice e)) (he : P.underlying e = some (.int .u8)) (hd : P.underlying dst = some .string) (w : World) (c : UInt8) :
    (convert src dst (.slice (some ⟨w.heap.size, 0, none⟩) 1 1)).run P (w.alloc (.cells #[.int .u8 (c.toNat : Int)] e)) = .ok (.string ⟨#[c]⟩) (w.alloc (.cells #[.int .u8 (c.toNat : Int)] e)) := by
  refine run_convert_bytes_back _ src dst e ⟨w.heap.size, 0, none⟩ 1 [c] hs he hd ?_
  intro j hj
  match j, hj with
  | 0, _ =>
    show (w.alloc _).cell? ((⟨w.heap.size, 0, none⟩ : Addr).add 0) = _
    rw [WideShapes.add_plain, World.cell?_alloc_new]
    rfl

theorem own_new (w : World) (ss : List ByteArray) (T : TypeId) : OwnStrs (w.alloc (.cells (ss.map Value.string).toArray T)) w.heap.size ss :=
  ⟨by simp, fun k hk => by rw [World.cell?_alloc_new]; simp [List.getD, hk], fun k => World.frozen?_alloc_new _ _ _ _⟩

set_option maxHeartbeats 800000 in
set_option maxRecDepth 100000 in
theorem impl_SplitByte (s : ByteArray) (c : UInt8) (hs : s.size ≤ 1048576) (w : World) (hm : MaxL w) :
    Calls Tryz.prog 57 #[.string s, .int .u8 (c.toNat : Int)] w fun e w' => ∃ g, e = .returned (.slice (some ⟨g, 0, none⟩) (parts c s).length (parts c s).length) ∧ w.heap.size ≤ g ∧ OwnStrs w' g (parts c s) ∧ Below w.heap.size w w' := by
  have hconv := byte_string (P := Tryz.prog) Tryz.underlying22 Tryz.underlying5 Tryz.underlying9 w c
  have hb1 : Below w.heap.size w (w.alloc (.cells #[.int .u8 (c.toNat : Int)] 5)) := (Below.refl _ w).alloc (Nat.le_refl _) _
  obtain ⟨m, hm1⟩ := hm.below hb1
  have hS := Tryz.strings_Split s ⟨#[c]⟩ m _ (by omega) hm1 (Nat.le_refl _)
  have HB1 := Lib.hid hb1
  have HS := Lib.hid hS
  clear hb1 hS hm1 hm
  go_enter Tryz.func57, Tryz.ntmps57
  go_wp2_with fail
  refine HS.out.mono ?_
  rintro e w2 ⟨rfl, rfl⟩
  have hl := Lib.hid (parts_length c s)
  go_wp2
  go_ret
  have e2 : (w.alloc (.cells #[.int .u8 (c.toNat : Int)] 5)).heap.size = w.heap.size + 1 := by simp
  have ho := own_new (w.alloc (.cells #[.int .u8 (c.toNat : Int)] 5)) (parts c s) 9
  rw [e2] at ho
  refine ⟨w.heap.size + 1, ?_, by omega, ho, HB1.out.trans ((Below.refl _ _).alloc (by simp) _)⟩
  rw [hl.out]
  rfl

/-- The loop's state: cutting still, or all cut. -/
def St (c : UInt8) (s : ByteArray) (done : List ByteArray) (a k : Nat) : Prop := Cutting c s done a k ∨ (k = s.size + 1 ∧ done = parts c s)

/-- The row at the end: its block, and the strings in it. -/
theorem own_shape {w : World} {B : Nat} {v : Value} {e : TypeId} {done : List ByteArray} (h : w.ownsRow B e 1 v done.length (done.map Value.string)) (hn : v ≠ .slice none 0 0) :
    ∃ g cap, v = .slice (some ⟨g, 0, none⟩) done.length cap ∧ B ≤ g ∧ OwnStrs w g done := by
  rcases h.2 with ⟨h', _⟩ | ⟨g, cap, cur, rfl, hB, hg, _⟩
  · exact absurd h' hn
  · refine ⟨g, cap, rfl, hB, (Array.getElem?_eq_some_iff.1 hg).1, fun k hk => ?_, fun k => h.frozenAt k⟩
    rw [h.cellAt k (by omega), List.getElem?_map, List.getD_eq_getElem?_getD, List.getElem?_eq_getElem hk]
    rfl

/-- What an append of one piece does to the row. -/
theorem own_piece {w' : World} {B : Nat} {v' : Value} {e : TypeId} {done : List ByteArray} {x : ByteArray} {l : List Value} (h : w'.ownsRow B e 1 v' (done.length + 1) (done.map Value.string ++ l)) (hl : l = [Value.string x]) :
    w'.ownsRow B e 1 v' (done ++ [x]).length ((done ++ [x]).map Value.string) := by
  rw [List.length_append, List.map_append]
  rw [hl] at h
  exact h

set_option maxHeartbeats 1600000 in
set_option maxRecDepth 100000 in
theorem spec_SplitByte (s : ByteArray) (c : UInt8) (hs : s.size ≤ 1048576) (w : World) :
    Calls Tryz.prog 32 #[.string s, .int .u8 (c.toNat : Int)] w fun e w' => ∃ g cap, e = .returned (.slice (some ⟨g, 0, none⟩) (parts c s).length cap) ∧ w.heap.size ≤ g ∧ OwnStrs w' g (parts c s) ∧ Below w.heap.size w w' := by
  obtain ⟨i0, hi, hz0, hz1, hz2⟩ := info_parts info_string
  have hown0 : (w.alloc (.cells #[] 9)).ownsRow w.heap.size 9 1 (.slice (some ⟨w.heap.size, 0, none⟩) 0 0) ([] : List ByteArray).length (([] : List ByteArray).map Value.string) :=
    World.ownsRow_made w #[] 0 (Nat.le_refl _) (Nat.zero_le _) rfl
  have HO0 := Lib.hid hown0
  clear hown0
  go_enter Tryz.func32, Tryz.ntmps32
  go_wp2
  go_loopw [5, 6, 7] (fun v f i wr => ∃ (done : List ByteArray) (a k : Nat), f = .int .i64 (a : Int) ∧ i = .int .i64 (k : Int) ∧ St c s done a k ∧ wr.ownsRow w.heap.size 9 1 v done.length (done.map Value.string) ∧ v ≠ .slice none 0 0 ∧ Below w.heap.size w wr) (fun _ _ i _ => s.size + 1 - (RowKit.intOf i).toNat)
  case atStart => exact ⟨[], 0, 0, rfl, rfl, Or.inl (Cutting.start c s), HO0.out, by simp, (Below.refl _ w).alloc (Nat.le_refl _) _⟩
  case round =>
    obtain ⟨done, a, k, rfl, rfl, hcut, hown, hne, hbl⟩ := hrel
    have HO := Lib.hid hown
    have HNE := Lib.hid hne
    clear hown hne
    have app : ∀ (x : ByteArray) (W2 : World) (v' : Value) (w1 : World), W2 = wr.alloc (.cells #[.string x] 9) → w1.ownsRow w.heap.size 9 1 v' (done.length + 1) (done.map Value.string ++ [Value.string x]) → W2.grownBy w1 (Value.ownBlock u5) → (v' = .slice none 0 0 ↔ u5 = .slice none 0 0 ∧ 1 = 0) →
        w1.ownsRow w.heap.size 9 1 v' (done ++ [x]).length ((done ++ [x]).map Value.string) ∧ v' ≠ .slice none 0 0 ∧ Below w.heap.size w w1 := by
      rintro x W2 v' w1 rfl h1 h2 h3
      exact ⟨own_piece h1 rfl, fun h => absurd (h3.1 h).2 (by decide), (hbl.alloc hbl.size _).grown h2 (by simp; have := hbl.size; omega) (fun g hg => (HO.out.lt g hg).1)⟩
    have APP := Lib.hid app
    clear app
    rcases hcut with hcut | ⟨rfl, hdone⟩
    · have hle := hcut.le
      have hlei := hcut.lei
      have hfew := hcut.few
      have CUT := Lib.hid hcut
      clear hcut
      by_cases hend : k = s.size
      · subst hend
        have t1 : ((s.size : Int) == (s.size : Int)) = true := beq_self_eq_true _
        go_wp2_with (at_builtin; refine wpList_append_own _ rfl (.tmp 26) (.tmp 31) 35 rfl w.heap.size 9 i0 (.string ⟨#[]⟩) 1 16 Tryz.underlying35 hi hz0 hz1 hz2 rfl (by decide) _ _ _ rfl (HO.out.alloc _) ⟨wr.heap.size, 0, none⟩ 1 1 [.string (s.extract a s.size)] rfl rfl (cell_one_new _ _ _) (by intro u hu; simp at hu; subst hu; rfl) (by unfold maxLen; omega) (by omega) (by simp; have := hbl.size; omega) ?_; intro v' w1 hown' hgrow hnil)
        obtain ⟨r1, r2, r3⟩ := APP.out _ _ _ _ rfl hown' hgrow hnil
        have R1 := Lib.hid r1
        have R2 := Lib.hid r2
        clear hown' hgrow hnil r1 r2
        go_wp2
        go_roundw
        case rel => exact ⟨done ++ [s.extract a s.size], s.size + 1, s.size + 1, by go_num, by go_num, Or.inr ⟨rfl, CUT.out.last⟩, R1.out, R2.out, r3⟩
        case measure => simp [RowKit.intOf]
      · have hlt : k < s.size := by omega
        have t1 : ((k : Int) == (s.size : Int)) = false := beq_eq_false_iff_ne.2 (by omega)
        clear hend
        by_cases he : s[k] = c
        · have t2 : ((s[k].toNat : Int) == (c.toNat : Int)) = true := by rw [he]; exact beq_self_eq_true _
          have HE := Lib.hid he
          clear he
          go_wp2_with (at_builtin; refine wpList_append_own _ rfl (.tmp 26) (.tmp 31) 35 rfl w.heap.size 9 i0 (.string ⟨#[]⟩) 1 16 Tryz.underlying35 hi hz0 hz1 hz2 rfl (by decide) _ _ _ rfl (HO.out.alloc _) ⟨wr.heap.size, 0, none⟩ 1 1 [.string (s.extract a k)] rfl rfl (cell_one_new _ _ _) (by intro u hu; simp at hu; subst hu; rfl) (by unfold maxLen; omega) (by omega) (by simp; have := hbl.size; omega) ?_; intro v' w1 hown' hgrow hnil)
          obtain ⟨r1, r2, r3⟩ := APP.out _ _ _ _ rfl hown' hgrow hnil
          have R1 := Lib.hid r1
          have R2 := Lib.hid r2
          clear hown' hgrow hnil r1 r2
          go_wp2
          go_roundw
          case rel => exact ⟨done ++ [s.extract a k], k + 1, k + 1, by go_num, by go_num, Or.inl (CUT.out.cut hlt HE.out), R1.out, R2.out, r3⟩
          case measure => simp [RowKit.intOf]; omega
        · have t2 : ((s[k].toNat : Int) == (c.toNat : Int)) = false := beq_eq_false_iff_ne.2 fun h => he (UInt8.toNat_inj.1 (by omega))
          have HE := Lib.hid he
          clear he
          go_wp2
          go_roundw
          case rel => exact ⟨done, a, k + 1, rfl, by go_num, Or.inl (CUT.out.skip hlt HE.out), HO.out, HNE.out, hbl⟩
          case measure => simp [RowKit.intOf]; omega
    · have HD := Lib.hid hdone
      clear hdone
      go_wp2
      go_ret
      have hs2 := own_shape HO.out HNE.out
      rw [HD.out] at hs2
      obtain ⟨g, cap, hv, hg, ho⟩ := hs2
      exact ⟨g, cap, congrArg Ending.returned hv, hg, ho, hbl⟩
end Go.Proofs.YtgpmmlbinmdfmaaGreatDoor
