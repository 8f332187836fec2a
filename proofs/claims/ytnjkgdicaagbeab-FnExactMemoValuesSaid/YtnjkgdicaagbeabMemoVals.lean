/-
  MemoValues of the model and of the program.
-/
import Derived.Test.YtnjkgdicaagbeabChanged
namespace Go.Proofs.Ytnjkgdicaagbeab
open Go.ChangeShapes Go.WideShapes Go.ChangeAt Go.RowKit Go.Deep

/-- The values of the instances in the list, if each has one. -/
def memB (l : List DEntry) (m : List DInstance) : Bool := m.all (entB l)
def memV (l : List DEntry) (m : List DInstance) : List Int := if memB l m = true then m.map (entV l) else []
theorem memV_yes {l : List DEntry} {m : List DInstance} (h : memB l m = true) : memV l m = m.map (entV l) := if_pos h
theorem memV_no {l : List DEntry} {m : List DInstance} (h : memB l m = false) : memV l m = [] := if_neg (by rw [h]; decide)
theorem memB_no {l : List DEntry} {m : List DInstance} {j : Nat} (hj : j < m.length) (h : entB l (m.getD j default) = false) : memB l m = false := by
  unfold memB
  rw [List.all_eq_false]
  refine ⟨m.getD j default, ?_, by rw [h]; decide⟩
  rw [List.getD_eq_getElem?_getD, List.getElem?_eq_getElem hj]
  exact List.getElem_mem hj
theorem memB_step {l : List DEntry} {m : List DInstance} {j : Nat} (hj : j < m.length) (h1 : memB l (m.take j) = true) (h2 : entB l (m.getD j default) = true) : memB l (m.take (j + 1)) = true := by
  rw [take_snoc hj]; unfold memB at *; rw [List.all_append, h1, Bool.true_and]; simp only [List.all_cons, List.all_nil, Bool.and_true]; exact h2
theorem memM_step {l : List DEntry} {m : List DInstance} {j : Nat} (hj : j < m.length) : (m.take (j + 1)).map (entV l) = (m.take j).map (entV l) ++ [entV l (m.getD j default)] := by
  rw [take_snoc hj, List.map_append]; rfl
theorem memV_len (l : List DEntry) (m : List DInstance) : (memV l m).length ≤ m.length := by unfold memV; split <;> simp
theorem memVals_len {m : List DInstance} (h : lsz DInstance.sz m ≤ 1048576) (l : List DEntry) : (memV l m).length ≤ 1048576 := by
  have h1 := memV_len l m
  unfold lsz at h
  omega
theorem memVals_sz {m : List DInstance} (h : lsz DInstance.sz m ≤ 1048576) (l : List DEntry) : lsz (fun _ => 0) (memV l m) ≤ 1048576 := by rw [lsz_zero]; exact memVals_len h l
/-- What a call hands out: the list, whether there is one, in blocks of its own. -/
def MemOut (w : World) (K : List Int) (b : Bool) (e : Ending) (w' : World) : Prop := ∃ a c, e = .returned (.tuple #[.slice a K.length c, .bool b]) ∧ Own w' (fun z => w.heap.size ≤ z ∧ z < w'.heap.size) (.sl 1 K.length (fun k => ictI (K.getD k default))) (.slice a K.length c) ∧ Below w.heap.size w w'

set_option maxHeartbeats 6400000 in
set_option maxRecDepth 100000 in
theorem spec_MemoValues {lo hi : Nat} {a0 a1 b0 : Option Addr} {c0_0 c0_1 c1_0 : Nat} (x : DMemo) (_ : x.ok) (hsx : x.sz ≤ 1048576) (m : List DInstance) (_ : okL DInstance.ok m) (hsm : lsz DInstance.sz m ≤ 1048576) (w : World) (hhi : hi ≤ w.heap.size) (hs0 : Sl lo hi w 9 x.fEntries.length (fun k => DEntry.ct (x.fEntries.getD k default)) a0) (_ : Sl lo hi w 2 x.fEvaluated.length (fun k => DInstance.ct (x.fEvaluated.getD k default)) a1) (hs1 : Sl lo hi w 2 m.length (fun k => DInstance.ct (m.getD k default)) b0) :
    Calls Try.prog 18 #[.agg #[.slice a0 x.fEntries.length c0_0, .slice a1 x.fEvaluated.length c0_1], .slice b0 m.length c1_0] w (MemOut w (memV x.fEntries m) (memB x.fEntries m)) := by
  have hzl : lsz DEntry.sz x.fEntries ≤ 1048576 := by unfold DMemo.sz at hsx; omega
  have hn : m.length ≤ 1048576 := by unfold lsz at hsm; omega
  have hnl : x.fEntries.length ≤ 1048576 := by unfold lsz at hzl; omega
  generalize x.fEntries = l at *
  generalize x.fEvaluated.length = n1 at *
  have HB := Lib.hid ((Below.refl w.heap.size w).alloc (Nat.le_refl _) (.cells #[.slice a0 l.length c0_0, .slice a1 n1 c0_1] 40))
  have HE := Lib.hid (show Below (w.heap.size + 1) (w.alloc (.cells #[.slice a0 l.length c0_0, .slice a1 n1 c0_1] 40)) (w.alloc (.cells #[.slice a0 l.length c0_0, .slice a1 n1 c0_1] 40)) from Below.refl _ _)
  have HSZ := Lib.hid (show (w.alloc (.cells #[.slice a0 l.length c0_0, .slice a1 n1 c0_1] 40)).heap.size = w.heap.size + 1 by simp)
  have HP0 := Lib.hid (show (w.alloc (.cells #[.slice a0 l.length c0_0, .slice a1 n1 c0_1] 40)).cell? ⟨w.heap.size, 0, none⟩ = some (.slice a0 l.length c0_0) by go_simp)
  have HP1 := Lib.hid (show (w.alloc (.cells #[.slice a0 l.length c0_0, .slice a1 n1 c0_1] 40)).cell? ⟨w.heap.size, 1, none⟩ = some (.slice a1 n1 c0_1) by go_simp)
  have HS0 := Lib.hid (hs0.later HB.out hhi)
  have HS1 := Lib.hid (hs1.later HB.out hhi)
  have HHI := Lib.hid hhi
  have HZL := Lib.hid hzl
  have HFN := Lib.hid (fun (q : Nat) (hq : q < m.length) => memB_no (l := l) hq)
  have HVN := Lib.hid (@memV_no l m)
  have HVY := Lib.hid (@memV_yes l m)
  have HGO := Lib.hid (fun (w' : World) (v : Value) (L : List Int) (h : w'.ownsRow (w.heap.size + 1) 3 1 v (L).length ((L).flatMap vInt)) => (show ∃ a c, v = .slice a L.length c ∧ Own w' (fun z => w.heap.size ≤ z ∧ z < w'.heap.size) (.sl 1 L.length (fun k => ictI (L.getD k default))) (.slice a L.length c) from by
    obtain ⟨a, c, h1, h2⟩ := grown_own (ct := ictI) (by decide) vInt_len vInt_ct h
    exact ⟨a, c, h1, h2.sub fun z hz => ⟨by omega, hz.2⟩⟩))
  obtain ⟨i0, hi', hz0, hz1, hz2⟩ := info_parts info_Int
  clear hs0 hs1 hsx hsm hhi hzl
  go_enter Try.func18, Try.ntmps18
  go_wp2
  go_loopw [6, 7] (fun v i wr => ∃ j : Nat, j ≤ m.length ∧ i = .int .i64 (j : Int) ∧ memB l (m.take j) = true ∧ wr.ownsRow (w.heap.size + 1) 3 1 v ((m.take j).map (entV l)).length (((m.take j).map (entV l)).flatMap vInt) ∧ Below (w.heap.size + 1) (w.alloc (.cells #[.slice a0 l.length c0_0, .slice a1 n1 c0_1] 40)) wr) (fun _ i _ => m.length - (intOf i).toNat)
  case atStart => exact ⟨0, Nat.zero_le _, rfl, rfl, (by have h := (grown_made (w := (w.alloc (.cells #[.slice a0 l.length c0_0, .slice a1 n1 c0_1] 40))) (e := 3) (n := 1) (vals := vInt)); rw [HSZ.out] at h; exact h), HE.out.alloc (by simp) _⟩
  case round =>
    obtain ⟨j, hj, rfl, hall, hown, hbl⟩ := hrel
    have HO := Lib.hid hown
    have HA := Lib.hid hall
    have HBL := Lib.hid hbl
    have hsz1 : w.heap.size + 1 ≤ wr.heap.size := by have := hbl.size; rw [HSZ.out] at this; exact this
    have hk0 : w.heap.size < wr.heap.size := by omega
    have p0 : wr.cell? ⟨w.heap.size, 0, none⟩ = some (.slice a0 l.length c0_0) := (hbl.cell (p := ⟨w.heap.size, 0, none⟩) (show w.heap.size < w.heap.size + 1 by omega)).trans HP0.out
    have p1 : wr.cell? ⟨w.heap.size, 1, none⟩ = some (.slice a1 n1 c0_1) := (hbl.cell (p := ⟨w.heap.size, 1, none⟩) (show w.heap.size < w.heap.size + 1 by omega)).trans HP1.out
    have hlen : ((m.take j).map (entV l)).length ≤ 1048576 := by rw [List.length_map, List.length_take]; omega
    have HB1 := Lib.hid (HB.out.trans (hbl.mono (by omega)))
    clear hown hbl hall
    by_cases hlt : j < m.length
    · have HST := Lib.hid (memM_step (l := l) hlt)
      have HSB := Lib.hid (memB_step (l := l) hlt HA.out)
      obtain ⟨b, off, rfl, _, hbh, hc⟩ := (HS1.out.later HBL.out (Nat.le_trans HHI.out (by omega))).at j hlt
      obtain ⟨hc0, hc1⟩ := DInstance.open hc
      have hbw : b < wr.heap.size := by have := HHI.out; omega
      have hjI : (0 : Int) ≤ (j : Int) ∧ (j : Int) < (m.length : Int) := by omega
      have HL0 := Lib.hid (HS0.out.later HBL.out (Nat.le_trans HHI.out (by omega)))
      have HFB := Lib.hid (HFN.out j hlt)
      clear hc
      generalize (m.take j).map (entV l) = K at *
      generalize hy : m.getD j default = y1 at *
      clear hy
      obtain ⟨y0, ys⟩ := y1
      dsimp only at *
      go_wp2_with fail
      refine wp_region_free [([], none), ([], none), ([], none), ([1, 2], none), ([3], none), ([0, 4], none), ([5], none), ([6], none), ([6], none), ([], none), ([9, 7], some 9), ([8], none)] [0, 1, 2, 3, 4, 5, 6, 7, 8, 10, 11] (fun jq9 V L H wx => match jq9 with | 0 => V 0 = .agg #[.slice a0 l.length c0_0, .slice a1 n1 c0_1] | 1 => V 1 = .slice (some ⟨b, off, none⟩) m.length c1_0 | 2 => V 2 = .int .i64 (j : Int) | 3 => V 3 = .pointer (some ⟨b, off + j * 2, none⟩) | 4 => V 4 = .agg #[.int .i64 y0, .string ys] | 5 => ∃ i0_ s1_ i3_ i4_ s5_ e6 e7 e8 n6 n7 n8 d6 d7 d8, V 5 = .tuple #[.agg #[.int .i64 i0_, .string s1_, .int .i64 (entV l ⟨y0, ys⟩), .int .i64 i3_, .int .i64 i4_, .string s5_, .slice e6 n6 d6, .slice e7 n7 d7, .slice e8 n8 d8], .bool (entB l ⟨y0, ys⟩)] | 6 => V 6 = V 5 ∧ ∃ i0__6 s1__6 i3__6 i4__6 s5__6 e6_6 e7_6 e8_6 n6_6 n7_6 n8_6 d6_6 d7_6 d8_6, V 6 = .tuple #[.agg #[.int .i64 i0__6, .string s1__6, .int .i64 (entV l ⟨y0, ys⟩), .int .i64 i3__6, .int .i64 i4__6, .string s5__6, .slice e6_6 n6_6 d6_6, .slice e7_6 n7_6 d7_6, .slice e8_6 n8_6 d8_6], .bool (entB l ⟨y0, ys⟩)] | 7 => (∀ x0 x1, V 6 = .tuple #[x0, x1] → V 7 = x0) ∧ ∃ i0__7 s1__7 i3__7 i4__7 s5__7 e6_7 e7_7 e8_7 n6_7 n7_7 n8_7 d6_7 d7_7 d8_7, V 7 = .agg #[.int .i64 i0__7, .string s1__7, .int .i64 (entV l ⟨y0, ys⟩), .int .i64 i3__7, .int .i64 i4__7, .string s5__7, .slice e6_7 n6_7 d6_7, .slice e7_7 n7_7 d7_7, .slice e8_7 n8_7 d8_7] | 8 => (∀ x0 x1, V 6 = .tuple #[x0, x1] → V 8 = x1) | 9 => V 9 = .pointer (some ⟨L, 0, none⟩) ∧ L < H ∧ wx.cell? ⟨L, 0, none⟩ = some (.int .i64 0) ∧ wx.frozen? ⟨L, 0, none⟩ = false ∧ wx.cell? ⟨L, 1, none⟩ = some (.string ⟨#[]⟩) ∧ wx.frozen? ⟨L, 1, none⟩ = false ∧ wx.cell? ⟨L, 2, none⟩ = some (.int .i64 0) ∧ wx.frozen? ⟨L, 2, none⟩ = false ∧ wx.cell? ⟨L, 3, none⟩ = some (.int .i64 0) ∧ wx.frozen? ⟨L, 3, none⟩ = false ∧ wx.cell? ⟨L, 4, none⟩ = some (.int .i64 0) ∧ wx.frozen? ⟨L, 4, none⟩ = false ∧ wx.cell? ⟨L, 5, none⟩ = some (.string ⟨#[]⟩) ∧ wx.frozen? ⟨L, 5, none⟩ = false ∧ wx.cell? ⟨L, 6, none⟩ = some (.slice none 0 0) ∧ wx.frozen? ⟨L, 6, none⟩ = false ∧ wx.cell? ⟨L, 7, none⟩ = some (.slice none 0 0) ∧ wx.frozen? ⟨L, 7, none⟩ = false ∧ wx.cell? ⟨L, 8, none⟩ = some (.slice none 0 0) ∧ wx.frozen? ⟨L, 8, none⟩ = false | 10 => ∀ x0 x1 x2 x3 x4 x5 x6 x7 x8, V 7 = .agg #[x0, x1, x2, x3, x4, x5, x6, x7, x8] → L < H ∧ wx.cell? ⟨L, 0, none⟩ = some x0 ∧ wx.frozen? ⟨L, 0, none⟩ = false ∧ wx.cell? ⟨L, 1, none⟩ = some x1 ∧ wx.frozen? ⟨L, 1, none⟩ = false ∧ wx.cell? ⟨L, 2, none⟩ = some x2 ∧ wx.frozen? ⟨L, 2, none⟩ = false ∧ wx.cell? ⟨L, 3, none⟩ = some x3 ∧ wx.frozen? ⟨L, 3, none⟩ = false ∧ wx.cell? ⟨L, 4, none⟩ = some x4 ∧ wx.frozen? ⟨L, 4, none⟩ = false ∧ wx.cell? ⟨L, 5, none⟩ = some x5 ∧ wx.frozen? ⟨L, 5, none⟩ = false ∧ wx.cell? ⟨L, 6, none⟩ = some x6 ∧ wx.frozen? ⟨L, 6, none⟩ = false ∧ wx.cell? ⟨L, 7, none⟩ = some x7 ∧ wx.frozen? ⟨L, 7, none⟩ = false ∧ wx.cell? ⟨L, 8, none⟩ = some x8 ∧ wx.frozen? ⟨L, 8, none⟩ = false | 11 => V 11 = V 8 | _ => True) (by kernel_rfl) (by kernel_rfl) ?loc ?lasts ?walk
      case loc =>
        intro k V V' L H wx h0 h1 hG
        match k with
        | 0 =>
          try dsimp only at hG ⊢
          rw [← h0]
          exact hG
        | 1 =>
          try dsimp only at hG ⊢
          rw [← h0]
          exact hG
        | 2 =>
          try dsimp only at hG ⊢
          rw [← h0]
          exact hG
        | 3 =>
          try dsimp only at hG ⊢
          rw [← h0]
          exact hG
        | 4 =>
          try dsimp only at hG ⊢
          rw [← h0]
          exact hG
        | 5 =>
          try dsimp only at hG ⊢
          rw [← h0]
          exact hG
        | 6 =>
          have e5 := h1 5 (by decide)
          try dsimp only at hG ⊢
          rw [← h0, ← e5]
          exact hG
        | 7 =>
          have e6 := h1 6 (by decide)
          try dsimp only at hG ⊢
          rw [← h0, ← e6]
          exact hG
        | 8 =>
          have e6 := h1 6 (by decide)
          try dsimp only at hG ⊢
          rw [← h0, ← e6]
          exact hG
        | 9 =>
          try dsimp only at hG ⊢
          rw [← h0]
          exact hG
        | 10 =>
          have e7 := h1 7 (by decide)
          try dsimp only at hG ⊢
          rw [← e7]
          exact hG
        | 11 =>
          have e8 := h1 8 (by decide)
          try dsimp only at hG ⊢
          rw [← h0, ← e8]
          exact hG
        | n + 12 => trivial
      case lasts =>
        intro i hi V L H wx wy hB hH hk
        match i, hi with
        | 0, _ => exact fun h => h
        | 1, _ => exact fun h => h
        | 2, _ => exact fun h => h
        | 3, _ => exact fun h => h
        | 4, _ => exact fun h => h
        | 5, _ => exact fun h => h
        | 6, _ => exact fun h => h
        | 7, _ => exact fun h => h
        | 8, _ => exact fun h => h
        | 9, _ => exact fun ⟨hv, hl, hc0, hf0, hc1, hf1, hc2, hf2, hc3, hf3, hc4, hf4, hc5, hf5, hc6, hf6, hc7, hf7, hc8, hf8⟩ => ⟨hv, hl, (hk.cell (p := ⟨L, 0, none⟩) (.inr ⟨Nat.le_refl _, hl⟩) (Nat.lt_of_lt_of_le hl hH)).trans hc0, (hk.frozen (p := ⟨L, 0, none⟩) (.inr ⟨Nat.le_refl _, hl⟩) (Nat.lt_of_lt_of_le hl hH)).trans hf0, (hk.cell (p := ⟨L, 1, none⟩) (.inr ⟨Nat.le_refl _, hl⟩) (Nat.lt_of_lt_of_le hl hH)).trans hc1, (hk.frozen (p := ⟨L, 1, none⟩) (.inr ⟨Nat.le_refl _, hl⟩) (Nat.lt_of_lt_of_le hl hH)).trans hf1, (hk.cell (p := ⟨L, 2, none⟩) (.inr ⟨Nat.le_refl _, hl⟩) (Nat.lt_of_lt_of_le hl hH)).trans hc2, (hk.frozen (p := ⟨L, 2, none⟩) (.inr ⟨Nat.le_refl _, hl⟩) (Nat.lt_of_lt_of_le hl hH)).trans hf2, (hk.cell (p := ⟨L, 3, none⟩) (.inr ⟨Nat.le_refl _, hl⟩) (Nat.lt_of_lt_of_le hl hH)).trans hc3, (hk.frozen (p := ⟨L, 3, none⟩) (.inr ⟨Nat.le_refl _, hl⟩) (Nat.lt_of_lt_of_le hl hH)).trans hf3, (hk.cell (p := ⟨L, 4, none⟩) (.inr ⟨Nat.le_refl _, hl⟩) (Nat.lt_of_lt_of_le hl hH)).trans hc4, (hk.frozen (p := ⟨L, 4, none⟩) (.inr ⟨Nat.le_refl _, hl⟩) (Nat.lt_of_lt_of_le hl hH)).trans hf4, (hk.cell (p := ⟨L, 5, none⟩) (.inr ⟨Nat.le_refl _, hl⟩) (Nat.lt_of_lt_of_le hl hH)).trans hc5, (hk.frozen (p := ⟨L, 5, none⟩) (.inr ⟨Nat.le_refl _, hl⟩) (Nat.lt_of_lt_of_le hl hH)).trans hf5, (hk.cell (p := ⟨L, 6, none⟩) (.inr ⟨Nat.le_refl _, hl⟩) (Nat.lt_of_lt_of_le hl hH)).trans hc6, (hk.frozen (p := ⟨L, 6, none⟩) (.inr ⟨Nat.le_refl _, hl⟩) (Nat.lt_of_lt_of_le hl hH)).trans hf6, (hk.cell (p := ⟨L, 7, none⟩) (.inr ⟨Nat.le_refl _, hl⟩) (Nat.lt_of_lt_of_le hl hH)).trans hc7, (hk.frozen (p := ⟨L, 7, none⟩) (.inr ⟨Nat.le_refl _, hl⟩) (Nat.lt_of_lt_of_le hl hH)).trans hf7, (hk.cell (p := ⟨L, 8, none⟩) (.inr ⟨Nat.le_refl _, hl⟩) (Nat.lt_of_lt_of_le hl hH)).trans hc8, (hk.frozen (p := ⟨L, 8, none⟩) (.inr ⟨Nat.le_refl _, hl⟩) (Nat.lt_of_lt_of_le hl hH)).trans hf8⟩
        | 10, _ =>
          intro h x0 x1 x2 x3 x4 x5 x6 x7 x8 hv
          obtain ⟨hl, hc0, hf0, hc1, hf1, hc2, hf2, hc3, hf3, hc4, hf4, hc5, hf5, hc6, hf6, hc7, hf7, hc8, hf8⟩ := h x0 x1 x2 x3 x4 x5 x6 x7 x8 hv
          exact ⟨hl, (hk.cell (p := ⟨L, 0, none⟩) (.inr ⟨Nat.le_refl _, hl⟩) (Nat.lt_of_lt_of_le hl hH)).trans hc0, (hk.frozen (p := ⟨L, 0, none⟩) (.inr ⟨Nat.le_refl _, hl⟩) (Nat.lt_of_lt_of_le hl hH)).trans hf0, (hk.cell (p := ⟨L, 1, none⟩) (.inr ⟨Nat.le_refl _, hl⟩) (Nat.lt_of_lt_of_le hl hH)).trans hc1, (hk.frozen (p := ⟨L, 1, none⟩) (.inr ⟨Nat.le_refl _, hl⟩) (Nat.lt_of_lt_of_le hl hH)).trans hf1, (hk.cell (p := ⟨L, 2, none⟩) (.inr ⟨Nat.le_refl _, hl⟩) (Nat.lt_of_lt_of_le hl hH)).trans hc2, (hk.frozen (p := ⟨L, 2, none⟩) (.inr ⟨Nat.le_refl _, hl⟩) (Nat.lt_of_lt_of_le hl hH)).trans hf2, (hk.cell (p := ⟨L, 3, none⟩) (.inr ⟨Nat.le_refl _, hl⟩) (Nat.lt_of_lt_of_le hl hH)).trans hc3, (hk.frozen (p := ⟨L, 3, none⟩) (.inr ⟨Nat.le_refl _, hl⟩) (Nat.lt_of_lt_of_le hl hH)).trans hf3, (hk.cell (p := ⟨L, 4, none⟩) (.inr ⟨Nat.le_refl _, hl⟩) (Nat.lt_of_lt_of_le hl hH)).trans hc4, (hk.frozen (p := ⟨L, 4, none⟩) (.inr ⟨Nat.le_refl _, hl⟩) (Nat.lt_of_lt_of_le hl hH)).trans hf4, (hk.cell (p := ⟨L, 5, none⟩) (.inr ⟨Nat.le_refl _, hl⟩) (Nat.lt_of_lt_of_le hl hH)).trans hc5, (hk.frozen (p := ⟨L, 5, none⟩) (.inr ⟨Nat.le_refl _, hl⟩) (Nat.lt_of_lt_of_le hl hH)).trans hf5, (hk.cell (p := ⟨L, 6, none⟩) (.inr ⟨Nat.le_refl _, hl⟩) (Nat.lt_of_lt_of_le hl hH)).trans hc6, (hk.frozen (p := ⟨L, 6, none⟩) (.inr ⟨Nat.le_refl _, hl⟩) (Nat.lt_of_lt_of_le hl hH)).trans hf6, (hk.cell (p := ⟨L, 7, none⟩) (.inr ⟨Nat.le_refl _, hl⟩) (Nat.lt_of_lt_of_le hl hH)).trans hc7, (hk.frozen (p := ⟨L, 7, none⟩) (.inr ⟨Nat.le_refl _, hl⟩) (Nat.lt_of_lt_of_le hl hH)).trans hf7, (hk.cell (p := ⟨L, 8, none⟩) (.inr ⟨Nat.le_refl _, hl⟩) (Nat.lt_of_lt_of_le hl hH)).trans hc8, (hk.frozen (p := ⟨L, 8, none⟩) (.inr ⟨Nat.le_refl _, hl⟩) (Nat.lt_of_lt_of_le hl hH)).trans hf8⟩
        | 11, _ => exact fun h => h
        | n + 12, hn => exact absurd hn (by simp)
      case walk =>
        simp only [free, Nat.reduceAdd, Act.put, List.setIfInBounds_toArray, List.set_cons_succ, List.set_cons_zero]
        refine ⟨?_, ?_, ?_, ?_, ?_, ?_, ?_, ?_, ?_, ?_, ?_, ?_, ?_⟩
        · intro V L H w1 hb1 hd
          clear hd
          have q0 : w1.cell? ⟨w.heap.size, 0, none⟩ = some (.slice a0 l.length c0_0) := (hb1.cell (p := ⟨w.heap.size, 0, none⟩) (by assumption)).trans p0
          have q1 : w1.cell? ⟨w.heap.size, 1, none⟩ = some (.slice a1 n1 c0_1) := (hb1.cell (p := ⟨w.heap.size, 1, none⟩) (by assumption)).trans p1
          go_wp2_with fail
          exact freePost _ rfl ⟨Below.refl _ _, upd_self⟩
        · intro V L H w1 hb1 hd
          clear hd
          go_wp2_with fail
          exact freePost _ rfl ⟨Below.refl _ _, upd_self⟩
        · intro V L H w1 hb1 hd
          clear hd
          go_wp2_with fail
          exact freePost _ rfl ⟨Below.refl _ _, upd_self⟩
        · intro V L H w1 hb1 hd
          obtain ⟨⟨hL1, hM1, hH1, hv1⟩, ⟨hL2, hM2, hH2, hv2⟩, -⟩ := hd
          rw [hv1, hv2]
          have HV1 := Lib.hid hv1
          have HV2 := Lib.hid hv2
          clear hv1 hv2
          go_wp2_with fail
          exact freePost _ rfl ⟨Below.refl _ _, upd_self⟩
        · intro V L H w1 hb1 hd
          obtain ⟨⟨hL3, hM3, hH3, hv3⟩, -⟩ := hd
          rw [hv3]
          have HV3 := Lib.hid hv3
          clear hv3
          have q3 : w1.cell? ⟨b, off + j * 2, none⟩ = some (.int .i64 y0) := (hb1.cell (p := ⟨b, off + j * 2, none⟩) (by assumption)).trans hc0
          have q4 : w1.cell? ⟨b, off + j * 2 + 1, none⟩ = some (.string ys) := (hb1.cell (p := ⟨b, off + j * 2 + 1, none⟩) (by assumption)).trans hc1
          go_wp2_with fail
          exact freePost _ rfl ⟨Below.refl _ _, upd_self⟩
        · intro V L H w1 hb1 hd
          obtain ⟨⟨hL0, hM0, hH0, hv0⟩, ⟨hL4, hM4, hH4, hv4⟩, -⟩ := hd
          rw [hv0, hv4]
          have HV0 := Lib.hid hv0
          have HV4 := Lib.hid hv4
          clear hv0 hv4
          go_wp2_with fail
          refine (spec_FindEntry (c0 := c0_0) (c1 := c0_1) (a1 := a1) (n1 := n1) l HZL.out ⟨y0, ys⟩ _ (Nat.le_trans (Nat.le_trans HHI.out (by omega)) hb1.size) (HL0.out.later hb1 (Nat.le_trans HHI.out (by omega)))).mono ?_
          rintro e w2 ⟨⟨i0_, s1_, i3_, i4_, s5_, e6, e7, e8, n6, n7, n8, d6, d7, d8, rfl⟩, hb2⟩
          go_wp2_with fail
          exact freePost _ rfl ⟨hb2, Exists.intro i0_ (Exists.intro s1_ (Exists.intro i3_ (Exists.intro i4_ (Exists.intro s5_ (Exists.intro e6 (Exists.intro e7 (Exists.intro e8 (Exists.intro n6 (Exists.intro n7 (Exists.intro n8 (Exists.intro d6 (Exists.intro d7 (Exists.intro d8 (upd_self))))))))))))))⟩
        · intro V L H w1 hb1 hd
          obtain ⟨⟨hL5, hM5, hH5, i0_, s1_, i3_, i4_, s5_, e6, e7, e8, n6, n7, n8, d6, d7, d8, hv5⟩, -⟩ := hd
          rw [hv5]
          have HV5 := Lib.hid hv5
          clear hv5
          go_wp2_with fail
          exact freePost _ rfl ⟨Below.refl _ _, And.intro (upd_self.trans (HV5.out.symm.trans (upd_ne (by decide)).symm)) ⟨_, _, _, _, _, _, _, _, _, _, _, _, _, _, upd_self⟩⟩
        · intro V L H w1 hb1 hd
          obtain ⟨⟨hL6, hM6, hH6, hv6, i0__6, s1__6, i3__6, i4__6, s5__6, e6_6, e7_6, e8_6, n6_6, n7_6, n8_6, d6_6, d7_6, d8_6, hz6⟩, -⟩ := hd
          clear hv6
          rw [hz6]
          have HV6 := Lib.hid hz6
          clear hz6
          go_wp2_with fail
          exact freePost _ rfl ⟨Below.refl _ _, And.intro (fun x0 x1 h => by cases (HV6.out.symm.trans ((upd_ne (by decide)).symm.trans h)); exact upd_self) ⟨_, _, _, _, _, _, _, _, _, _, _, _, _, _, upd_self⟩⟩
        · intro V L H w1 hb1 hd
          obtain ⟨⟨hL6, hM6, hH6, hv6, i0__6, s1__6, i3__6, i4__6, s5__6, e6_6, e7_6, e8_6, n6_6, n7_6, n8_6, d6_6, d7_6, d8_6, hz6⟩, -⟩ := hd
          clear hv6
          rw [hz6]
          have HV6 := Lib.hid hz6
          clear hz6
          go_wp2_with fail
          exact freePost _ rfl ⟨Below.refl _ _, fun x0 x1 h => by cases (HV6.out.symm.trans ((upd_ne (by decide)).symm.trans h)); exact upd_self⟩
        · intro V L H w1 hb1 hd
          clear hd
          go_wp2_with fail
          refine freePost _ rfl ⟨Below.alloc (Below.refl _ _) (Nat.le_refl _) _, upd_self, ?_, ?_, ?_, ?_, ?_, ?_, ?_, ?_, ?_, ?_, ?_, ?_, ?_, ?_, ?_, ?_, ?_, ?_, ?_⟩
          · simp
          all_goals go_simp
        · intro V L H w1 hb1 hd
          obtain ⟨⟨hL9, hM9, hH9, hv9, hlt9, hc9_0, hf9_0, hc9_1, hf9_1, hc9_2, hf9_2, hc9_3, hf9_3, hc9_4, hf9_4, hc9_5, hf9_5, hc9_6, hf9_6, hc9_7, hf9_7, hc9_8, hf9_8⟩, ⟨hL7, hM7, hH7, hv7, i0__7, s1__7, i3__7, i4__7, s5__7, e6_7, e7_7, e8_7, n6_7, n7_7, n8_7, d6_7, d7_7, d8_7, hz7⟩, -⟩ := hd
          clear hv7
          rw [hv9, hz7]
          have HV9 := Lib.hid hv9
          have HV7 := Lib.hid hz7
          clear hv9 hz7
          go_wp2_with fail
          refine freePost undef rfl ⟨(Touches.put (L := L 9) (H := H 9) (Touches.put (L := L 9) (H := H 9) (Touches.put (L := L 9) (H := H 9) (Touches.put (L := L 9) (H := H 9) (Touches.put (L := L 9) (H := H 9) (Touches.put (L := L 9) (H := H 9) (Touches.put (L := L 9) (H := H 9) (Touches.put (L := L 9) (H := H 9) (Touches.put (L := L 9) (H := H 9) Touches.refl (p := ⟨L 9, 0, none⟩) ⟨Nat.le_refl _, hlt9⟩ _) (p := ⟨L 9, 1, none⟩) ⟨Nat.le_refl _, hlt9⟩ _) (p := ⟨L 9, 2, none⟩) ⟨Nat.le_refl _, hlt9⟩ _) (p := ⟨L 9, 3, none⟩) ⟨Nat.le_refl _, hlt9⟩ _) (p := ⟨L 9, 4, none⟩) ⟨Nat.le_refl _, hlt9⟩ _) (p := ⟨L 9, 5, none⟩) ⟨Nat.le_refl _, hlt9⟩ _) (p := ⟨L 9, 6, none⟩) ⟨Nat.le_refl _, hlt9⟩ _) (p := ⟨L 9, 7, none⟩) ⟨Nat.le_refl _, hlt9⟩ _) (p := ⟨L 9, 8, none⟩) ⟨Nat.le_refl _, hlt9⟩ _), fun x0 x1 x2 x3 x4 x5 x6 x7 x8 h => ?_⟩
          cases (HV7.out.symm.trans ((upd_ne (by decide)).symm.trans h))
          refine ⟨hlt9, ?_, ?_, ?_, ?_, ?_, ?_, ?_, ?_, ?_, ?_, ?_, ?_, ?_, ?_, ?_, ?_, ?_, ?_⟩
          all_goals go_simp
        · intro V L H w1 hb1 hd
          obtain ⟨⟨hL8, hM8, hH8, hv8⟩, -⟩ := hd
          clear hv8
          go_wp2_with fail
          exact freePost _ rfl ⟨Below.refl _ _, upd_self.trans (upd_ne (by decide)).symm⟩
        · intro V L H w1 hb1 hd hap hdead
          obtain ⟨⟨hL0, hM0, hH0, hv0⟩, ⟨hL1, hM1, hH1, hv1⟩, ⟨hL2, hM2, hH2, hv2⟩, ⟨hL3, hM3, hH3, hv3⟩, ⟨hL4, hM4, hH4, hv4⟩, ⟨hL5, hM5, hH5, i0_, s1_, i3_, i4_, s5_, e6, e7, e8, n6, n7, n8, d6, d7, d8, hv5⟩, ⟨hL6, hM6, hH6, hv6, i0__6, s1__6, i3__6, i4__6, s5__6, e6_6, e7_6, e8_6, n6_6, n7_6, n8_6, d6_6, d7_6, d8_6, hz6⟩, ⟨hL7, hM7, hH7, hv7, i0__7, s1__7, i3__7, i4__7, s5__7, e6_7, e7_7, e8_7, n6_7, n7_7, n8_7, d6_7, d7_7, d8_7, hz7⟩, ⟨hL8, hM8, hH8, hv8⟩, ⟨hL10, hM10, hH10, hst10_⟩, ⟨hL11, hM11, hH11, hv11⟩, -⟩ := hd
          have hv6' := hv6.trans hv5
          have hv7' := hv7 _ _ hv6'
          have hv8' := hv8 _ _ hv6'
          have hv11' := hv11.trans hv8'
          obtain ⟨vlt, vc0, vf0, vc1, vf1, vc2, vf2, vc3, vf3, vc4, vf4, vc5, vf5, vc6, vf6, vc7, vf7, vc8, vf8⟩ := hst10_ _ _ _ _ _ _ _ _ _ hv7'
          obtain ⟨hLe, hHe, wo, hva, -⟩ := hdead 10 9 (by decide) rfl
          rw [← hLe] at hva
          rw [hv0, hv1, hv2, hv3, hv4, hv5, hv6', hv7', hv8', hva, hv11']
          clear hv0 hv1 hv2 hv3 hv4 hv5 hv6' hv7' hv8' hva hv11' hv6 hv7 hv8 hv11
          clear hLe hHe
          clear hap hdead
          have HO1 := Lib.hid (own_below HO.out hb1)
          have HBL1 := Lib.hid (HBL.out.trans (hb1.mono (by omega)))
          have HB2 := Lib.hid (HB1.out.trans (hb1.mono (by omega)))
          have hszw := hb1.size
          have hkb : w.heap.size < w1.heap.size := by omega
          clear hc0 hc1 p0 p1 hb1
          generalize entV l ⟨y0, ys⟩ = vv at *
          cases hB : entB l ⟨y0, ys⟩
          · have hf := HFB.out hB
            have HFV := Lib.hid (HVN.out hf)
            have HFF := Lib.hid hf
            clear hf hB HSB HFB HST
            go_wp2
            go_ret2
            rw [HFV.out, HFF.out]
            exact ⟨_, _, rfl, Own.nil _ _ _ _ _, (by repeat (first | (with_reducible exact HB2.out) | (with_reducible exact Below.refl _ _) | (with_reducible apply Below.drew) | (with_reducible refine below_drewN ?_ _) | (refine Below.setCell ?_ (by first | omega | (simp <;> omega)) _) | (refine Below.alloc ?_ (by first | omega | (simp <;> omega)) _)))⟩
          · have hsb := HSB.out hB
            have HSB2 := Lib.hid hsb
            clear hsb hB HFB HSB
            go_wp2_with (at_builtin; refine wpList_append_own _ rfl (.tmp 29) (.tmp 32) 31 rfl (w.heap.size + 1) 3 i0 (.int .i64 0) 1 8 Try.underlying31 hi' hz0 hz1 hz2 rfl (by decide) _ _ _ rfl (HO1.out.alloc _) ⟨w1.heap.size, 0, none⟩ 1 1 [.int .i64 vv] rfl rfl (by intro q u hu; rcases q with _ | q <;> simp at hu <;> subst hu <;> first | (go_simp; done) | exact (cell_of_row _ _ _ _ _ _ (blk_new (by simp))).trans rfl) (by intro u hu; simp at hu; subst hu; rfl) (by unfold maxLen; omega) (by omega) (by simp <;> omega) ?_; intro v' w9 hown' hgrow hnil)
            have R1 := Lib.hid (grown_one (l := K) (x := vv) (vals := vInt) hown' rfl)
            rw [show K ++ [vv] = (m.take (j + 1)).map (entV l) from by rw [HST.out]] at R1
            have R3 := Lib.hid (show Below (w.heap.size + 1) (w.alloc (.cells #[.slice a0 l.length c0_0, .slice a1 n1 c0_1] 40)) w9 from ((HBL1.out.alloc (by first | omega | (simp <;> omega)) _).grown hgrow (by first | omega | (simp <;> omega)) (fun g hg => (HO1.out.lt g hg).1)))
            clear hown' hgrow hnil
            go_wp2
            go_roundw
            case rel => exact ⟨j + 1, by omega, by go_num, HSB2.out, R1.out, R3.out⟩
            case measure => simp [intOf]; omega
    · obtain rfl : j = m.length := by omega
      have hall := HA.out
      rw [List.take_length] at hall
      have HAL := Lib.hid hall
      have HVL := Lib.hid (HVY.out hall)
      clear hall
      go_wp2
      go_ret2
      have ho := HO.out
      rw [List.take_length] at ho
      obtain ⟨a, c, h1, h2⟩ := HGO.out _ _ _ ho
      subst h1
      rw [HVL.out, HAL.out]
      exact ⟨a, c, rfl, h2, (by repeat (first | (with_reducible exact HB1.out) | (with_reducible exact Below.refl _ _) | (with_reducible apply Below.drew) | (with_reducible refine below_drewN ?_ _) | (refine Below.setCell ?_ (by first | omega | (simp <;> omega)) _) | (refine Below.alloc ?_ (by first | omega | (simp <;> omega)) _)))⟩


set_option maxHeartbeats 6400000 in
set_option maxRecDepth 100000 in
theorem impl_MemoValues {lo hi : Nat} {a0 a1 b0 : Option Addr} {c0_0 c0_1 c1_0 : Nat} (x : DMemo) (_ : x.ok) (hsx : x.sz ≤ 1048576) (m : List DInstance) (_ : okL DInstance.ok m) (hsm : lsz DInstance.sz m ≤ 1048576) (w : World) (hhi : hi ≤ w.heap.size) (hs0 : Sl lo hi w 9 x.fEntries.length (fun k => DEntry.ct (x.fEntries.getD k default)) a0) (_ : Sl lo hi w 2 x.fEvaluated.length (fun k => DInstance.ct (x.fEvaluated.getD k default)) a1) (hs1 : Sl lo hi w 2 m.length (fun k => DInstance.ct (m.getD k default)) b0) :
    Calls Try.prog 20 #[.agg #[.slice a0 x.fEntries.length c0_0, .slice a1 x.fEvaluated.length c0_1], .slice b0 m.length c1_0] w (MemOut w (memV x.fEntries m) (memB x.fEntries m)) := by
  have hzl : lsz DEntry.sz x.fEntries ≤ 1048576 := by unfold DMemo.sz at hsx; omega
  have hn : m.length ≤ 1048576 := by unfold lsz at hsm; omega
  have hnl : x.fEntries.length ≤ 1048576 := by unfold lsz at hzl; omega
  generalize x.fEntries = l at *
  generalize x.fEvaluated.length = n1 at *
  have HB := Lib.hid ((Below.refl w.heap.size w).alloc (Nat.le_refl _) (.cells #[.slice a0 l.length c0_0, .slice a1 n1 c0_1] 40))
  have HE := Lib.hid (show Below (w.heap.size + 1) (w.alloc (.cells #[.slice a0 l.length c0_0, .slice a1 n1 c0_1] 40)) (w.alloc (.cells #[.slice a0 l.length c0_0, .slice a1 n1 c0_1] 40)) from Below.refl _ _)
  have HSZ := Lib.hid (show (w.alloc (.cells #[.slice a0 l.length c0_0, .slice a1 n1 c0_1] 40)).heap.size = w.heap.size + 1 by simp)
  have HP0 := Lib.hid (show (w.alloc (.cells #[.slice a0 l.length c0_0, .slice a1 n1 c0_1] 40)).cell? ⟨w.heap.size, 0, none⟩ = some (.slice a0 l.length c0_0) by go_simp)
  have HP1 := Lib.hid (show (w.alloc (.cells #[.slice a0 l.length c0_0, .slice a1 n1 c0_1] 40)).cell? ⟨w.heap.size, 1, none⟩ = some (.slice a1 n1 c0_1) by go_simp)
  have HS0 := Lib.hid (hs0.later HB.out hhi)
  have HS1 := Lib.hid (hs1.later HB.out hhi)
  have HHI := Lib.hid hhi
  have HZL := Lib.hid hzl
  have HFN := Lib.hid (fun (q : Nat) (hq : q < m.length) => memB_no (l := l) hq)
  have HVN := Lib.hid (@memV_no l m)
  have HVY := Lib.hid (@memV_yes l m)
  have HGO := Lib.hid (fun (w' : World) (v : Value) (L : List Int) (h : w'.ownsRow (w.heap.size + 1) 3 1 v (L).length ((L).flatMap vInt)) => (show ∃ a c, v = .slice a L.length c ∧ Own w' (fun z => w.heap.size ≤ z ∧ z < w'.heap.size) (.sl 1 L.length (fun k => ictI (L.getD k default))) (.slice a L.length c) from by
    obtain ⟨a, c, h1, h2⟩ := grown_own (ct := ictI) (by decide) vInt_len vInt_ct h
    exact ⟨a, c, h1, h2.sub fun z hz => ⟨by omega, hz.2⟩⟩))
  obtain ⟨i0, hi', hz0, hz1, hz2⟩ := info_parts info_Int
  clear hs0 hs1 hsx hsm hhi hzl
  go_enter Try.func20, Try.ntmps20
  go_wp2
  go_loopw [6, 13] (fun v i wr => ∃ j : Nat, j ≤ m.length ∧ i = .int .i64 (j : Int) ∧ memB l (m.take j) = true ∧ wr.ownsRow (w.heap.size + 1) 3 1 v ((m.take j).map (entV l)).length (((m.take j).map (entV l)).flatMap vInt) ∧ Below (w.heap.size + 1) (w.alloc (.cells #[.slice a0 l.length c0_0, .slice a1 n1 c0_1] 40)) wr) (fun _ i _ => m.length - (intOf i).toNat)
  case atStart => exact ⟨0, Nat.zero_le _, rfl, rfl, grown_nil, HE.out⟩
  case round =>
    obtain ⟨j, hj, rfl, hall, hown, hbl⟩ := hrel
    have HO := Lib.hid hown
    have HA := Lib.hid hall
    have HBL := Lib.hid hbl
    have hsz1 : w.heap.size + 1 ≤ wr.heap.size := by have := hbl.size; rw [HSZ.out] at this; exact this
    have hk0 : w.heap.size < wr.heap.size := by omega
    have p0 : wr.cell? ⟨w.heap.size, 0, none⟩ = some (.slice a0 l.length c0_0) := (hbl.cell (p := ⟨w.heap.size, 0, none⟩) (show w.heap.size < w.heap.size + 1 by omega)).trans HP0.out
    have p1 : wr.cell? ⟨w.heap.size, 1, none⟩ = some (.slice a1 n1 c0_1) := (hbl.cell (p := ⟨w.heap.size, 1, none⟩) (show w.heap.size < w.heap.size + 1 by omega)).trans HP1.out
    have hlen : ((m.take j).map (entV l)).length ≤ 1048576 := by rw [List.length_map, List.length_take]; omega
    have HB1 := Lib.hid (HB.out.trans (hbl.mono (by omega)))
    clear hown hbl hall
    by_cases hlt : j < m.length
    · have HST := Lib.hid (memM_step (l := l) hlt)
      have HSB := Lib.hid (memB_step (l := l) hlt HA.out)
      obtain ⟨b, off, rfl, _, hbh, hc⟩ := (HS1.out.later HBL.out (Nat.le_trans HHI.out (by omega))).at j hlt
      obtain ⟨hc0, hc1⟩ := DInstance.open hc
      have hbw : b < wr.heap.size := by have := HHI.out; omega
      have hjI : (0 : Int) ≤ (j : Int) ∧ (j : Int) < (m.length : Int) := by omega
      have HL0 := Lib.hid (HS0.out.later HBL.out (Nat.le_trans HHI.out (by omega)))
      have HFB := Lib.hid (HFN.out j hlt)
      clear hc
      generalize (m.take j).map (entV l) = K at *
      generalize hy : m.getD j default = y1 at *
      clear hy
      obtain ⟨y0, ys⟩ := y1
      dsimp only at *
      go_wp2_with fail
      refine (impl_entryAt (c0 := c0_0) (c1 := c0_1) (a1 := a1) (n1 := n1) l hnl ⟨y0, ys⟩ _ (Nat.le_trans (Nat.le_trans HHI.out (by omega)) (Below.size (show Below wr.heap.size wr _ from (by repeat (first | (with_reducible exact hx) | (with_reducible exact Below.refl _ _) | (with_reducible apply Below.drew) | (with_reducible refine below_drewN ?_ _) | (refine Below.setCell ?_ (by first | omega | (simp <;> omega)) _) | (refine Below.alloc ?_ (by first | omega | (simp <;> omega)) _)))))) (HL0.out.later (show Below wr.heap.size wr _ from (by repeat (first | (with_reducible exact hx) | (with_reducible exact Below.refl _ _) | (with_reducible apply Below.drew) | (with_reducible refine below_drewN ?_ _) | (refine Below.setCell ?_ (by first | omega | (simp <;> omega)) _) | (refine Below.alloc ?_ (by first | omega | (simp <;> omega)) _)))) (Nat.le_trans HHI.out (by omega)))).mono ?_
      rintro e w1 ⟨⟨i0_, s1_, i3_, i4_, s5_, e6, e7, e8, n6, n7, n8, d6, d7, d8, rfl⟩, hb0⟩
      have hb1 : Below wr.heap.size wr w1 := (show Below wr.heap.size wr _ from (by repeat (first | (with_reducible exact hx) | (with_reducible exact Below.refl _ _) | (with_reducible apply Below.drew) | (with_reducible refine below_drewN ?_ _) | (refine Below.setCell ?_ (by first | omega | (simp <;> omega)) _) | (refine Below.alloc ?_ (by first | omega | (simp <;> omega)) _)))).trans (hb0.mono (Below.size (show Below wr.heap.size wr _ from (by repeat (first | (with_reducible exact hx) | (with_reducible exact Below.refl _ _) | (with_reducible apply Below.drew) | (with_reducible refine below_drewN ?_ _) | (refine Below.setCell ?_ (by first | omega | (simp <;> omega)) _) | (refine Below.alloc ?_ (by first | omega | (simp <;> omega)) _))))))
      clear hb0
      have HO1 := Lib.hid (own_below HO.out hb1)
      have HBL1 := Lib.hid (HBL.out.trans (hb1.mono (by omega)))
      have HB2 := Lib.hid (HB1.out.trans (hb1.mono (by omega)))
      have hszw := hb1.size
      have hkb : w.heap.size < w1.heap.size := by omega
      clear hc0 hc1 p0 p1 hb1
      generalize entV l ⟨y0, ys⟩ = vv at *
      cases hB : entB l ⟨y0, ys⟩
      · have hf := HFB.out hB
        have HFV := Lib.hid (HVN.out hf)
        have HFF := Lib.hid hf
        clear hf hB HSB HFB HST
        go_wp2
        go_ret2
        rw [HFV.out, HFF.out]
        exact ⟨_, _, rfl, Own.nil _ _ _ _ _, (by repeat (first | (with_reducible exact HB2.out) | (with_reducible exact Below.refl _ _) | (with_reducible apply Below.drew) | (with_reducible refine below_drewN ?_ _) | (refine Below.setCell ?_ (by first | omega | (simp <;> omega)) _) | (refine Below.alloc ?_ (by first | omega | (simp <;> omega)) _)))⟩
      · have hsb := HSB.out hB
        have HSB2 := Lib.hid hsb
        clear hsb hB HFB HSB
        have HOq := Lib.hid (fun (W : World) (hW : Below w1.heap.size w1 W) => own_below HO1.out hW)
        go_wp2_with (at_builtin; refine wpList_append_own _ rfl (.tmp 25) (.tmp 28) 31 rfl (w.heap.size + 1) 3 i0 (.int .i64 0) 1 8 Try.underlying31 hi' hz0 hz1 hz2 rfl (by decide) _ _ _ rfl ((HOq.out _ (by repeat (first | (with_reducible exact hx) | (with_reducible exact Below.refl _ _) | (with_reducible apply Below.drew) | (with_reducible refine below_drewN ?_ _) | (refine Below.setCell ?_ (by first | omega | (simp <;> omega)) _) | (refine Below.alloc ?_ (by first | omega | (simp <;> omega)) _)))).alloc _) ⟨w1.heap.size + 1, 0, none⟩ 1 1 [.int .i64 vv] rfl rfl (by intro q u hu; rcases q with _ | q <;> simp at hu <;> subst hu <;> first | (go_simp; done) | exact (cell_of_row _ _ _ _ _ _ (blk_new (by simp))).trans rfl) (by intro u hu; simp at hu; subst hu; rfl) (by unfold maxLen; omega) (by omega) (by simp <;> omega) ?_; intro v' w9 hown' hgrow hnil)
        have R1 := Lib.hid (grown_one (l := K) (x := vv) (vals := vInt) hown' rfl)
        rw [show K ++ [vv] = (m.take (j + 1)).map (entV l) from by rw [HST.out]] at R1
        have R3 := Lib.hid (show Below (w.heap.size + 1) (w.alloc (.cells #[.slice a0 l.length c0_0, .slice a1 n1 c0_1] 40)) w9 from (Below.grown (by repeat (first | (with_reducible exact HBL1.out) | (refine Below.setCell ?_ (by first | omega | (simp <;> omega)) _) | (refine Below.alloc ?_ (by first | omega | (simp <;> omega)) _))) hgrow (by simp <;> omega) (fun g hg => (HO1.out.lt g hg).1)))
        clear hown' hgrow hnil
        go_wp2
        go_roundw
        case rel => exact ⟨j + 1, by omega, by go_num, HSB2.out, R1.out, R3.out⟩
        case measure => simp [intOf]; omega
    · obtain rfl : j = m.length := by omega
      have hall := HA.out
      rw [List.take_length] at hall
      have HAL := Lib.hid hall
      have HVL := Lib.hid (HVY.out hall)
      clear hall
      go_wp2
      go_ret2
      have ho := HO.out
      rw [List.take_length] at ho
      obtain ⟨a, c, h1, h2⟩ := HGO.out _ _ _ ho
      subst h1
      rw [HVL.out, HAL.out]
      exact ⟨a, c, rfl, h2, (by repeat (first | (with_reducible exact HB1.out) | (with_reducible exact Below.refl _ _) | (with_reducible apply Below.drew) | (with_reducible refine below_drewN ?_ _) | (refine Below.setCell ?_ (by first | omega | (simp <;> omega)) _) | (refine Below.alloc ?_ (by first | omega | (simp <;> omega)) _)))⟩
end Go.Proofs.Ytnjkgdicaagbeab
