/-
  ChangedValues of the model and of the program.
-/
import Derived.Test.YtnjkgdicaagbeabFindEntry
import Derived.Test.YtnjkgdicaagbeabGrow
import Derived.Test.YtnjkgdicaagbeabTMemo
import Derived.Deep.QuietTactic
import Derived.BigQuiet
namespace Go.Proofs.Ytnjkgdicaagbeab
open Go.ChangeShapes Go.WideShapes Go.ChangeAt Go.RowKit Go.Deep

def vInstance (x : DInstance) : List Value := [.int .i64 x.fNode, .string x.fName]
theorem vInstance_len (x : DInstance) : (vInstance x).length = 2 := rfl
theorem vInstance_ct (x : DInstance) (c : Nat) (h : c < 2) : x.ct c = .lit ((vInstance x).getD c .nilFunc) := match c, h with | 0, _ => rfl | 1, _ => rfl
theorem vInstance_one (x : DInstance) : ∀ u ∈ vInstance x, u.oneCell' = true := by
  intro u hu
  simp only [vInstance, List.mem_cons, List.not_mem_nil, or_false] at hu
  rcases hu with rfl | rfl <;> rfl


theorem own_below {w w' : World} {base : Nat} {e : TypeId} {size : Nat} {v : Value} {n : Nat} {xs : List Value} (h : w.ownsRow base e size v n xs) (hb : Below w.heap.size w w') : w'.ownsRow base e size v n xs :=
  h.kept (row := none) ⟨hb.os, hb.tape, hb.output, hb.size, fun k hk _ => hb.block k hk⟩ (by cases v.ownBlock <;> simp)
/-- The instance of an entry, if the value of the old entry is another. -/
def chAt (l : List DEntry) (e : DEntry) : List DInstance := if entB l e.fAt = true ∧ entV l e.fAt ≠ e.fValue then [e.fAt] else []
def changed (l m : List DEntry) : List DInstance := m.flatMap (chAt l)
theorem chAt_yes {l : List DEntry} {e : DEntry} (h1 : entB l e.fAt = true) (h2 : entV l e.fAt ≠ e.fValue) : chAt l e = [e.fAt] := if_pos ⟨h1, h2⟩
theorem chAt_no1 {l : List DEntry} {e : DEntry} (h1 : entB l e.fAt = false) : chAt l e = [] := if_neg (fun h => by rw [h1] at h; cases h.1)
theorem chAt_no2 {l : List DEntry} {e : DEntry} (h2 : entV l e.fAt = e.fValue) : chAt l e = [] := if_neg (fun h => h.2 h2)
theorem changed_step {l m : List DEntry} {j : Nat} (hj : j < m.length) : changed l (m.take (j + 1)) = changed l (m.take j) ++ chAt l (m.getD j default) := by
  rw [take_snoc hj]; unfold changed; rw [List.flatMap_append, List.flatMap_cons, List.flatMap_nil, List.append_nil]
theorem changed_len (l : List DEntry) : ∀ m : List DEntry, (changed l m).length ≤ m.length
  | [] => Nat.le_refl _
  | e :: m => by
    have h := changed_len l m
    unfold changed at *
    rw [List.flatMap_cons, List.length_append, List.length_cons]
    have : (chAt l e).length ≤ 1 := by unfold chAt; split <;> simp
    omega
theorem changed_sz (l : List DEntry) : ∀ m : List DEntry, lsz DInstance.sz (changed l m) ≤ lsz DEntry.sz m
  | [] => Nat.le_refl _
  | e :: m => by
    have ih := changed_sz l m
    have h1 : DInstance.sz e.fAt ≤ DEntry.sz e := by unfold DEntry.sz DInstance.sz; omega
    have h2 : changed l (e :: m) = chAt l e ++ changed l m := by unfold changed; rw [List.flatMap_cons]
    have hr : chAt l e = [] ∨ chAt l e = [e.fAt] := by unfold chAt; split <;> simp
    rw [h2]
    unfold lsz at *
    rw [List.length_append, List.map_append, List.sum_append, List.length_cons, List.map_cons, List.sum_cons]
    rcases hr with hr | hr
    · rw [hr]
      simp only [List.length_nil, List.map_nil, List.sum_nil]
      omega
    · rw [hr]
      simp only [List.length_cons, List.length_nil, List.map_cons, List.map_nil, List.sum_cons, List.sum_nil]
      omega
theorem changedM_sz {x : DMemo} (h : x.sz ≤ 1048576) (l : List DEntry) : lsz DInstance.sz (changed l x.fEntries) ≤ 1048576 := by
  have h1 := changed_sz l x.fEntries
  have h2 : lsz DEntry.sz x.fEntries ≤ DMemo.sz x := by unfold DMemo.sz; omega
  omega
theorem changedM_len {x : DMemo} (h : x.sz ≤ 1048576) (l : List DEntry) : (changed l x.fEntries).length ≤ 1048576 := by
  have h1 := changedM_sz h l
  unfold lsz at h1
  omega

set_option maxHeartbeats 6400000 in
set_option maxRecDepth 100000 in
theorem spec_ChangedValues {lo hi : Nat} {a0 a1 b0 b1 : Option Addr} {c0_0 c0_1 c1_0 c1_1 : Nat} (x : DMemo) (_ : x.ok) (hsx : x.sz ≤ 1048576) (y : DMemo) (_ : y.ok) (hsy : y.sz ≤ 1048576) (w : World) (hhi : hi ≤ w.heap.size) (hs0 : Sl lo hi w 9 x.fEntries.length (fun k => DEntry.ct (x.fEntries.getD k default)) a0) (_ : Sl lo hi w 2 x.fEvaluated.length (fun k => DInstance.ct (x.fEvaluated.getD k default)) a1) (hs1 : Sl lo hi w 9 y.fEntries.length (fun k => DEntry.ct (y.fEntries.getD k default)) b0) (_ : Sl lo hi w 2 y.fEvaluated.length (fun k => DInstance.ct (y.fEvaluated.getD k default)) b1) :
    Calls Try.prog 26 #[.agg #[.slice a0 x.fEntries.length c0_0, .slice a1 x.fEvaluated.length c0_1], .agg #[.slice b0 y.fEntries.length c1_0, .slice b1 y.fEvaluated.length c1_1]] w fun e w' => ∃ a c, e = .returned (.slice a (changed x.fEntries y.fEntries).length c) ∧ Own w' (fun z => w.heap.size ≤ z ∧ z < w'.heap.size) (.sl 2 (changed x.fEntries y.fEntries).length (fun k => DInstance.ct ((changed x.fEntries y.fEntries).getD k default))) (.slice a (changed x.fEntries y.fEntries).length c) ∧ Below w.heap.size w w' := by
  have hzl : lsz DEntry.sz x.fEntries ≤ 1048576 := by unfold DMemo.sz at hsx; omega
  have hzm : lsz DEntry.sz y.fEntries ≤ 1048576 := by unfold DMemo.sz at hsy; omega
  have hn : y.fEntries.length ≤ 1048576 := by unfold lsz at hzm; omega
  have hnl : x.fEntries.length ≤ 1048576 := by unfold lsz at hzl; omega
  generalize x.fEntries = l at *
  generalize y.fEntries = m at *
  generalize x.fEvaluated.length = n1 at *
  generalize y.fEvaluated.length = n2 at *
  have HB := Lib.hid (((Below.refl w.heap.size w).alloc (Nat.le_refl _) (.cells #[.slice a0 l.length c0_0, .slice a1 n1 c0_1] 40)).alloc (by simp) (.cells #[.slice b0 m.length c1_0, .slice b1 n2 c1_1] 40))
  have HE := Lib.hid (show Below (w.heap.size + 2) ((w.alloc (.cells #[.slice a0 l.length c0_0, .slice a1 n1 c0_1] 40)).alloc (.cells #[.slice b0 m.length c1_0, .slice b1 n2 c1_1] 40)) ((w.alloc (.cells #[.slice a0 l.length c0_0, .slice a1 n1 c0_1] 40)).alloc (.cells #[.slice b0 m.length c1_0, .slice b1 n2 c1_1] 40)) from Below.refl _ _)
  have HSZ := Lib.hid (show ((w.alloc (.cells #[.slice a0 l.length c0_0, .slice a1 n1 c0_1] 40)).alloc (.cells #[.slice b0 m.length c1_0, .slice b1 n2 c1_1] 40)).heap.size = w.heap.size + 2 by simp)
  have HP0 := Lib.hid (show ((w.alloc (.cells #[.slice a0 l.length c0_0, .slice a1 n1 c0_1] 40)).alloc (.cells #[.slice b0 m.length c1_0, .slice b1 n2 c1_1] 40)).cell? ⟨w.heap.size, 0, none⟩ = some (.slice a0 l.length c0_0) by go_simp)
  have HP1 := Lib.hid (show ((w.alloc (.cells #[.slice a0 l.length c0_0, .slice a1 n1 c0_1] 40)).alloc (.cells #[.slice b0 m.length c1_0, .slice b1 n2 c1_1] 40)).cell? ⟨w.heap.size, 1, none⟩ = some (.slice a1 n1 c0_1) by go_simp)
  have HQ0 := Lib.hid (show ((w.alloc (.cells #[.slice a0 l.length c0_0, .slice a1 n1 c0_1] 40)).alloc (.cells #[.slice b0 m.length c1_0, .slice b1 n2 c1_1] 40)).cell? ⟨w.heap.size + 1, 0, none⟩ = some (.slice b0 m.length c1_0) by go_simp)
  have HQ1 := Lib.hid (show ((w.alloc (.cells #[.slice a0 l.length c0_0, .slice a1 n1 c0_1] 40)).alloc (.cells #[.slice b0 m.length c1_0, .slice b1 n2 c1_1] 40)).cell? ⟨w.heap.size + 1, 1, none⟩ = some (.slice b1 n2 c1_1) by go_simp)
  have HS0 := Lib.hid (hs0.later HB.out hhi)
  have HS1 := Lib.hid (hs1.later HB.out hhi)
  have HHI := Lib.hid hhi
  have HZL := Lib.hid hzl
  have HGO := Lib.hid (fun (w' : World) (v : Value) (L : List DInstance) (h : w'.ownsRow (w.heap.size + 2) 30 2 v (L).length ((L).flatMap vInstance)) => (show ∃ a c, v = .slice a L.length c ∧ Own w' (fun z => w.heap.size ≤ z ∧ z < w'.heap.size) (.sl 2 L.length (fun k => DInstance.ct (L.getD k default))) (.slice a L.length c) from by
    obtain ⟨a, c, h1, h2⟩ := grown_own (ct := DInstance.ct) (by decide) vInstance_len vInstance_ct h
    exact ⟨a, c, h1, h2.sub fun z hz => ⟨by omega, hz.2⟩⟩))
  obtain ⟨i0, hi', hz0, hz1, hz2⟩ := info_parts info_Instance
  clear hs0 hs1 hsx hsy hhi hzl hzm
  go_enter Try.func26, Try.ntmps26
  go_wp2
  go_loopw [5, 6] (fun v i wr => ∃ j : Nat, j ≤ m.length ∧ i = .int .i64 (j : Int) ∧ wr.ownsRow (w.heap.size + 2) 30 2 v (changed l (m.take j)).length ((changed l (m.take j)).flatMap vInstance) ∧ Below (w.heap.size + 2) ((w.alloc (.cells #[.slice a0 l.length c0_0, .slice a1 n1 c0_1] 40)).alloc (.cells #[.slice b0 m.length c1_0, .slice b1 n2 c1_1] 40)) wr) (fun _ i _ => m.length - (intOf i).toNat)
  case atStart => exact ⟨0, Nat.zero_le _, rfl, (by have h := (grown_made (w := ((w.alloc (.cells #[.slice a0 l.length c0_0, .slice a1 n1 c0_1] 40)).alloc (.cells #[.slice b0 m.length c1_0, .slice b1 n2 c1_1] 40))) (e := 30) (n := 2) (vals := vInstance)); rw [HSZ.out] at h; exact h), HE.out.alloc (by simp) _⟩
  case round =>
    obtain ⟨j, hj, rfl, hown, hbl⟩ := hrel
    have HO := Lib.hid hown
    have HBL := Lib.hid hbl
    have hsz1 : w.heap.size + 2 ≤ wr.heap.size := by have := hbl.size; rw [HSZ.out] at this; exact this
    have hk0 : w.heap.size < wr.heap.size := by omega
    have hk1 : w.heap.size + 1 < wr.heap.size := by omega
    have p0 : wr.cell? ⟨w.heap.size, 0, none⟩ = some (.slice a0 l.length c0_0) := (hbl.cell (p := ⟨w.heap.size, 0, none⟩) (show w.heap.size < w.heap.size + 2 by omega)).trans HP0.out
    have p1 : wr.cell? ⟨w.heap.size, 1, none⟩ = some (.slice a1 n1 c0_1) := (hbl.cell (p := ⟨w.heap.size, 1, none⟩) (show w.heap.size < w.heap.size + 2 by omega)).trans HP1.out
    have q0 : wr.cell? ⟨w.heap.size + 1, 0, none⟩ = some (.slice b0 m.length c1_0) := (hbl.cell (p := ⟨w.heap.size + 1, 0, none⟩) (show w.heap.size + 1 < w.heap.size + 2 by omega)).trans HQ0.out
    have q1 : wr.cell? ⟨w.heap.size + 1, 1, none⟩ = some (.slice b1 n2 c1_1) := (hbl.cell (p := ⟨w.heap.size + 1, 1, none⟩) (show w.heap.size + 1 < w.heap.size + 2 by omega)).trans HQ1.out
    have hlen : (changed l (m.take j)).length ≤ 1048576 := by have h1 := changed_len l (m.take j); rw [List.length_take] at h1; omega
    have HB1 := Lib.hid (HB.out.trans (hbl.mono (by omega)))
    clear hown hbl
    by_cases hlt : j < m.length
    · have HST := Lib.hid (changed_step (l := l) hlt)
      obtain ⟨b, off, rfl, _, hbh, hc⟩ := (HS1.out.later HBL.out (Nat.le_trans HHI.out (by omega))).at j hlt
      obtain ⟨a6, c6, a7, c7, a8, c8, hc0, hc1, hc2, hc3, hc4, hc5, hc6, hc7, hc8, _, _, _⟩ := DEntry.open hc
      have hbw : b < wr.heap.size := by have := HHI.out; omega
      have hjI : (0 : Int) ≤ (j : Int) ∧ (j : Int) < (m.length : Int) := by omega
      have HL0 := Lib.hid (HS0.out.later HBL.out (Nat.le_trans HHI.out (by omega)))
      clear hc
      have HCY := Lib.hid (@chAt_yes l (m.getD j default))
      have HCN1 := Lib.hid (@chAt_no1 l (m.getD j default))
      have HCN2 := Lib.hid (@chAt_no2 l (m.getD j default))
      generalize changed l (m.take j) = K at *
      generalize hy : m.getD j default = y1 at *
      clear hy
      obtain ⟨⟨y0, ys⟩, yv, yo, yl, yr, yi, yh, yd⟩ := y1
      dsimp only at *
      go_wp2_with fail
      refine wp_region_free [([], none), ([], none), ([1], none), ([], none), ([2, 3], none), ([4], none), ([5], none), ([0, 6], none), ([7], none), ([8], none), ([8], none), ([], none), ([11, 9], some 11), ([10], none)] [0, 1, 2, 3, 4, 5, 6, 7, 8, 9, 10, 12, 13] (fun jq9 V L H wx => match jq9 with | 0 => V 0 = .agg #[.slice a0 l.length c0_0, .slice a1 n1 c0_1] | 1 => V 1 = .pointer (some ⟨w.heap.size + 1, 0, none⟩) | 2 => V 2 = .slice (some ⟨b, off, none⟩) m.length c1_0 | 3 => V 3 = .int .i64 (j : Int) | 4 => V 4 = .pointer (some ⟨b, off + j * 9, none⟩) | 5 => V 5 = .pointer (some ⟨b, off + j * 9, none⟩) | 6 => V 6 = .agg #[.int .i64 y0, .string ys] | 7 => ∃ i0_ s1_ i3_ i4_ s5_ e6 e7 e8 n6 n7 n8 d6 d7 d8, V 7 = .tuple #[.agg #[.int .i64 i0_, .string s1_, .int .i64 (entV l ⟨y0, ys⟩), .int .i64 i3_, .int .i64 i4_, .string s5_, .slice e6 n6 d6, .slice e7 n7 d7, .slice e8 n8 d8], .bool (entB l ⟨y0, ys⟩)] | 8 => V 8 = V 7 ∧ ∃ i0__8 s1__8 i3__8 i4__8 s5__8 e6_8 e7_8 e8_8 n6_8 n7_8 n8_8 d6_8 d7_8 d8_8, V 8 = .tuple #[.agg #[.int .i64 i0__8, .string s1__8, .int .i64 (entV l ⟨y0, ys⟩), .int .i64 i3__8, .int .i64 i4__8, .string s5__8, .slice e6_8 n6_8 d6_8, .slice e7_8 n7_8 d7_8, .slice e8_8 n8_8 d8_8], .bool (entB l ⟨y0, ys⟩)] | 9 => (∀ x0 x1, V 8 = .tuple #[x0, x1] → V 9 = x0) ∧ ∃ i0__9 s1__9 i3__9 i4__9 s5__9 e6_9 e7_9 e8_9 n6_9 n7_9 n8_9 d6_9 d7_9 d8_9, V 9 = .agg #[.int .i64 i0__9, .string s1__9, .int .i64 (entV l ⟨y0, ys⟩), .int .i64 i3__9, .int .i64 i4__9, .string s5__9, .slice e6_9 n6_9 d6_9, .slice e7_9 n7_9 d7_9, .slice e8_9 n8_9 d8_9] | 10 => (∀ x0 x1, V 8 = .tuple #[x0, x1] → V 10 = x1) | 11 => V 11 = .pointer (some ⟨L, 0, none⟩) ∧ L < H ∧ wx.cell? ⟨L, 0, none⟩ = some (.int .i64 0) ∧ wx.frozen? ⟨L, 0, none⟩ = false ∧ wx.cell? ⟨L, 1, none⟩ = some (.string ⟨#[]⟩) ∧ wx.frozen? ⟨L, 1, none⟩ = false ∧ wx.cell? ⟨L, 2, none⟩ = some (.int .i64 0) ∧ wx.frozen? ⟨L, 2, none⟩ = false ∧ wx.cell? ⟨L, 3, none⟩ = some (.int .i64 0) ∧ wx.frozen? ⟨L, 3, none⟩ = false ∧ wx.cell? ⟨L, 4, none⟩ = some (.int .i64 0) ∧ wx.frozen? ⟨L, 4, none⟩ = false ∧ wx.cell? ⟨L, 5, none⟩ = some (.string ⟨#[]⟩) ∧ wx.frozen? ⟨L, 5, none⟩ = false ∧ wx.cell? ⟨L, 6, none⟩ = some (.slice none 0 0) ∧ wx.frozen? ⟨L, 6, none⟩ = false ∧ wx.cell? ⟨L, 7, none⟩ = some (.slice none 0 0) ∧ wx.frozen? ⟨L, 7, none⟩ = false ∧ wx.cell? ⟨L, 8, none⟩ = some (.slice none 0 0) ∧ wx.frozen? ⟨L, 8, none⟩ = false | 12 => ∀ x0 x1 x2 x3 x4 x5 x6 x7 x8, V 9 = .agg #[x0, x1, x2, x3, x4, x5, x6, x7, x8] → L < H ∧ wx.cell? ⟨L, 0, none⟩ = some x0 ∧ wx.frozen? ⟨L, 0, none⟩ = false ∧ wx.cell? ⟨L, 1, none⟩ = some x1 ∧ wx.frozen? ⟨L, 1, none⟩ = false ∧ wx.cell? ⟨L, 2, none⟩ = some x2 ∧ wx.frozen? ⟨L, 2, none⟩ = false ∧ wx.cell? ⟨L, 3, none⟩ = some x3 ∧ wx.frozen? ⟨L, 3, none⟩ = false ∧ wx.cell? ⟨L, 4, none⟩ = some x4 ∧ wx.frozen? ⟨L, 4, none⟩ = false ∧ wx.cell? ⟨L, 5, none⟩ = some x5 ∧ wx.frozen? ⟨L, 5, none⟩ = false ∧ wx.cell? ⟨L, 6, none⟩ = some x6 ∧ wx.frozen? ⟨L, 6, none⟩ = false ∧ wx.cell? ⟨L, 7, none⟩ = some x7 ∧ wx.frozen? ⟨L, 7, none⟩ = false ∧ wx.cell? ⟨L, 8, none⟩ = some x8 ∧ wx.frozen? ⟨L, 8, none⟩ = false | 13 => V 13 = V 10 | _ => True) (by kernel_rfl) (by kernel_rfl) ?loc ?lasts ?walk
      case loc =>
        intro k V V' L H wx h0 h1 hG
        match k with
        | 0 =>
          try dsimp only at hG ⊢
          rw [← h0]
          exact hG
        | 1 =>
          try dsimp only at hG ⊢
          rw [← h0]
          exact hG
        | 2 =>
          try dsimp only at hG ⊢
          rw [← h0]
          exact hG
        | 3 =>
          try dsimp only at hG ⊢
          rw [← h0]
          exact hG
        | 4 =>
          try dsimp only at hG ⊢
          rw [← h0]
          exact hG
        | 5 =>
          try dsimp only at hG ⊢
          rw [← h0]
          exact hG
        | 6 =>
          try dsimp only at hG ⊢
          rw [← h0]
          exact hG
        | 7 =>
          try dsimp only at hG ⊢
          rw [← h0]
          exact hG
        | 8 =>
          have e7 := h1 7 (by decide)
          try dsimp only at hG ⊢
          rw [← h0, ← e7]
          exact hG
        | 9 =>
          have e8 := h1 8 (by decide)
          try dsimp only at hG ⊢
          rw [← h0, ← e8]
          exact hG
        | 10 =>
          have e8 := h1 8 (by decide)
          try dsimp only at hG ⊢
          rw [← h0, ← e8]
          exact hG
        | 11 =>
          try dsimp only at hG ⊢
          rw [← h0]
          exact hG
        | 12 =>
          have e9 := h1 9 (by decide)
          try dsimp only at hG ⊢
          rw [← e9]
          exact hG
        | 13 =>
          have e10 := h1 10 (by decide)
          try dsimp only at hG ⊢
          rw [← h0, ← e10]
          exact hG
        | n + 14 => trivial
      case lasts =>
        intro i hi V L H wx wy hB hH hk
        match i, hi with
        | 0, _ => exact fun h => h
        | 1, _ => exact fun h => h
        | 2, _ => exact fun h => h
        | 3, _ => exact fun h => h
        | 4, _ => exact fun h => h
        | 5, _ => exact fun h => h
        | 6, _ => exact fun h => h
        | 7, _ => exact fun h => h
        | 8, _ => exact fun h => h
        | 9, _ => exact fun h => h
        | 10, _ => exact fun h => h
        | 11, _ => exact fun ⟨hv, hl, hc0, hf0, hc1, hf1, hc2, hf2, hc3, hf3, hc4, hf4, hc5, hf5, hc6, hf6, hc7, hf7, hc8, hf8⟩ => ⟨hv, hl, (hk.cell (p := ⟨L, 0, none⟩) (.inr ⟨Nat.le_refl _, hl⟩) (Nat.lt_of_lt_of_le hl hH)).trans hc0, (hk.frozen (p := ⟨L, 0, none⟩) (.inr ⟨Nat.le_refl _, hl⟩) (Nat.lt_of_lt_of_le hl hH)).trans hf0, (hk.cell (p := ⟨L, 1, none⟩) (.inr ⟨Nat.le_refl _, hl⟩) (Nat.lt_of_lt_of_le hl hH)).trans hc1, (hk.frozen (p := ⟨L, 1, none⟩) (.inr ⟨Nat.le_refl _, hl⟩) (Nat.lt_of_lt_of_le hl hH)).trans hf1, (hk.cell (p := ⟨L, 2, none⟩) (.inr ⟨Nat.le_refl _, hl⟩) (Nat.lt_of_lt_of_le hl hH)).trans hc2, (hk.frozen (p := ⟨L, 2, none⟩) (.inr ⟨Nat.le_refl _, hl⟩) (Nat.lt_of_lt_of_le hl hH)).trans hf2, (hk.cell (p := ⟨L, 3, none⟩) (.inr ⟨Nat.le_refl _, hl⟩) (Nat.lt_of_lt_of_le hl hH)).trans hc3, (hk.frozen (p := ⟨L, 3, none⟩) (.inr ⟨Nat.le_refl _, hl⟩) (Nat.lt_of_lt_of_le hl hH)).trans hf3, (hk.cell (p := ⟨L, 4, none⟩) (.inr ⟨Nat.le_refl _, hl⟩) (Nat.lt_of_lt_of_le hl hH)).trans hc4, (hk.frozen (p := ⟨L, 4, none⟩) (.inr ⟨Nat.le_refl _, hl⟩) (Nat.lt_of_lt_of_le hl hH)).trans hf4, (hk.cell (p := ⟨L, 5, none⟩) (.inr ⟨Nat.le_refl _, hl⟩) (Nat.lt_of_lt_of_le hl hH)).trans hc5, (hk.frozen (p := ⟨L, 5, none⟩) (.inr ⟨Nat.le_refl _, hl⟩) (Nat.lt_of_lt_of_le hl hH)).trans hf5, (hk.cell (p := ⟨L, 6, none⟩) (.inr ⟨Nat.le_refl _, hl⟩) (Nat.lt_of_lt_of_le hl hH)).trans hc6, (hk.frozen (p := ⟨L, 6, none⟩) (.inr ⟨Nat.le_refl _, hl⟩) (Nat.lt_of_lt_of_le hl hH)).trans hf6, (hk.cell (p := ⟨L, 7, none⟩) (.inr ⟨Nat.le_refl _, hl⟩) (Nat.lt_of_lt_of_le hl hH)).trans hc7, (hk.frozen (p := ⟨L, 7, none⟩) (.inr ⟨Nat.le_refl _, hl⟩) (Nat.lt_of_lt_of_le hl hH)).trans hf7, (hk.cell (p := ⟨L, 8, none⟩) (.inr ⟨Nat.le_refl _, hl⟩) (Nat.lt_of_lt_of_le hl hH)).trans hc8, (hk.frozen (p := ⟨L, 8, none⟩) (.inr ⟨Nat.le_refl _, hl⟩) (Nat.lt_of_lt_of_le hl hH)).trans hf8⟩
        | 12, _ =>
          intro h x0 x1 x2 x3 x4 x5 x6 x7 x8 hv
          obtain ⟨hl, hc0, hf0, hc1, hf1, hc2, hf2, hc3, hf3, hc4, hf4, hc5, hf5, hc6, hf6, hc7, hf7, hc8, hf8⟩ := h x0 x1 x2 x3 x4 x5 x6 x7 x8 hv
          exact ⟨hl, (hk.cell (p := ⟨L, 0, none⟩) (.inr ⟨Nat.le_refl _, hl⟩) (Nat.lt_of_lt_of_le hl hH)).trans hc0, (hk.frozen (p := ⟨L, 0, none⟩) (.inr ⟨Nat.le_refl _, hl⟩) (Nat.lt_of_lt_of_le hl hH)).trans hf0, (hk.cell (p := ⟨L, 1, none⟩) (.inr ⟨Nat.le_refl _, hl⟩) (Nat.lt_of_lt_of_le hl hH)).trans hc1, (hk.frozen (p := ⟨L, 1, none⟩) (.inr ⟨Nat.le_refl _, hl⟩) (Nat.lt_of_lt_of_le hl hH)).trans hf1, (hk.cell (p := ⟨L, 2, none⟩) (.inr ⟨Nat.le_refl _, hl⟩) (Nat.lt_of_lt_of_le hl hH)).trans hc2, (hk.frozen (p := ⟨L, 2, none⟩) (.inr ⟨Nat.le_refl _, hl⟩) (Nat.lt_of_lt_of_le hl hH)).trans hf2, (hk.cell (p := ⟨L, 3, none⟩) (.inr ⟨Nat.le_refl _, hl⟩) (Nat.lt_of_lt_of_le hl hH)).trans hc3, (hk.frozen (p := ⟨L, 3, none⟩) (.inr ⟨Nat.le_refl _, hl⟩) (Nat.lt_of_lt_of_le hl hH)).trans hf3, (hk.cell (p := ⟨L, 4, none⟩) (.inr ⟨Nat.le_refl _, hl⟩) (Nat.lt_of_lt_of_le hl hH)).trans hc4, (hk.frozen (p := ⟨L, 4, none⟩) (.inr ⟨Nat.le_refl _, hl⟩) (Nat.lt_of_lt_of_le hl hH)).trans hf4, (hk.cell (p := ⟨L, 5, none⟩) (.inr ⟨Nat.le_refl _, hl⟩) (Nat.lt_of_lt_of_le hl hH)).trans hc5, (hk.frozen (p := ⟨L, 5, none⟩) (.inr ⟨Nat.le_refl _, hl⟩) (Nat.lt_of_lt_of_le hl hH)).trans hf5, (hk.cell (p := ⟨L, 6, none⟩) (.inr ⟨Nat.le_refl _, hl⟩) (Nat.lt_of_lt_of_le hl hH)).trans hc6, (hk.frozen (p := ⟨L, 6, none⟩) (.inr ⟨Nat.le_refl _, hl⟩) (Nat.lt_of_lt_of_le hl hH)).trans hf6, (hk.cell (p := ⟨L, 7, none⟩) (.inr ⟨Nat.le_refl _, hl⟩) (Nat.lt_of_lt_of_le hl hH)).trans hc7, (hk.frozen (p := ⟨L, 7, none⟩) (.inr ⟨Nat.le_refl _, hl⟩) (Nat.lt_of_lt_of_le hl hH)).trans hf7, (hk.cell (p := ⟨L, 8, none⟩) (.inr ⟨Nat.le_refl _, hl⟩) (Nat.lt_of_lt_of_le hl hH)).trans hc8, (hk.frozen (p := ⟨L, 8, none⟩) (.inr ⟨Nat.le_refl _, hl⟩) (Nat.lt_of_lt_of_le hl hH)).trans hf8⟩
        | 13, _ => exact fun h => h
        | n + 14, hn => exact absurd hn (by simp)
      case walk =>
        simp only [free, Nat.reduceAdd, Act.put, List.setIfInBounds_toArray, List.set_cons_succ, List.set_cons_zero]
        refine ⟨?_, ?_, ?_, ?_, ?_, ?_, ?_, ?_, ?_, ?_, ?_, ?_, ?_, ?_, ?_⟩
        · intro V L H w1 hb1 hd
          clear hd
          have q0 : w1.cell? ⟨w.heap.size, 0, none⟩ = some (.slice a0 l.length c0_0) := (hb1.cell (p := ⟨w.heap.size, 0, none⟩) (by assumption)).trans p0
          have q1 : w1.cell? ⟨w.heap.size, 1, none⟩ = some (.slice a1 n1 c0_1) := (hb1.cell (p := ⟨w.heap.size, 1, none⟩) (by assumption)).trans p1
          go_wp2_with fail
          exact freePost _ rfl ⟨Below.refl _ _, upd_self⟩
        · intro V L H w1 hb1 hd
          clear hd
          go_wp2_with fail
          exact freePost _ rfl ⟨Below.refl _ _, upd_self⟩
        · intro V L H w1 hb1 hd
          obtain ⟨⟨hL1, hM1, hH1, hv1⟩, -⟩ := hd
          rw [hv1]
          have HV1 := Lib.hid hv1
          clear hv1
          have q2 : w1.cell? ⟨w.heap.size + 1, 0, none⟩ = some (.slice (some ⟨b, off, none⟩) m.length c1_0) := (hb1.cell (p := ⟨w.heap.size + 1, 0, none⟩) (by assumption)).trans q0
          go_wp2_with fail
          exact freePost _ rfl ⟨Below.refl _ _, upd_self⟩
        · intro V L H w1 hb1 hd
          clear hd
          go_wp2_with fail
          exact freePost _ rfl ⟨Below.refl _ _, upd_self⟩
        · intro V L H w1 hb1 hd
          obtain ⟨⟨hL2, hM2, hH2, hv2⟩, ⟨hL3, hM3, hH3, hv3⟩, -⟩ := hd
          rw [hv2, hv3]
          have HV2 := Lib.hid hv2
          have HV3 := Lib.hid hv3
          clear hv2 hv3
          go_wp2_with fail
          exact freePost _ rfl ⟨Below.refl _ _, upd_self⟩
        · intro V L H w1 hb1 hd
          obtain ⟨⟨hL4, hM4, hH4, hv4⟩, -⟩ := hd
          rw [hv4]
          have HV4 := Lib.hid hv4
          clear hv4
          go_wp2_with fail
          exact freePost _ rfl ⟨Below.refl _ _, upd_self⟩
        · intro V L H w1 hb1 hd
          obtain ⟨⟨hL5, hM5, hH5, hv5⟩, -⟩ := hd
          rw [hv5]
          have HV5 := Lib.hid hv5
          clear hv5
          have q3 : w1.cell? ⟨b, off + j * 9, none⟩ = some (.int .i64 y0) := (hb1.cell (p := ⟨b, off + j * 9, none⟩) (by assumption)).trans hc0
          have q4 : w1.cell? ⟨b, off + j * 9 + 1, none⟩ = some (.string ys) := (hb1.cell (p := ⟨b, off + j * 9 + 1, none⟩) (by assumption)).trans hc1
          go_wp2_with fail
          exact freePost _ rfl ⟨Below.refl _ _, upd_self⟩
        · intro V L H w1 hb1 hd
          obtain ⟨⟨hL0, hM0, hH0, hv0⟩, ⟨hL6, hM6, hH6, hv6⟩, -⟩ := hd
          rw [hv0, hv6]
          have HV0 := Lib.hid hv0
          have HV6 := Lib.hid hv6
          clear hv0 hv6
          go_wp2_with fail
          refine (spec_FindEntry (c0 := c0_0) (c1 := c0_1) (a1 := a1) (n1 := n1) l HZL.out ⟨y0, ys⟩ _ (Nat.le_trans (Nat.le_trans HHI.out (by omega)) hb1.size) (HL0.out.later hb1 (Nat.le_trans HHI.out (by omega)))).mono ?_
          rintro e w2 ⟨⟨i0_, s1_, i3_, i4_, s5_, e6, e7, e8, n6, n7, n8, d6, d7, d8, rfl⟩, hb2⟩
          go_wp2_with fail
          exact freePost _ rfl ⟨hb2, Exists.intro i0_ (Exists.intro s1_ (Exists.intro i3_ (Exists.intro i4_ (Exists.intro s5_ (Exists.intro e6 (Exists.intro e7 (Exists.intro e8 (Exists.intro n6 (Exists.intro n7 (Exists.intro n8 (Exists.intro d6 (Exists.intro d7 (Exists.intro d8 (upd_self))))))))))))))⟩
        · intro V L H w1 hb1 hd
          obtain ⟨⟨hL7, hM7, hH7, i0_, s1_, i3_, i4_, s5_, e6, e7, e8, n6, n7, n8, d6, d7, d8, hv7⟩, -⟩ := hd
          rw [hv7]
          have HV7 := Lib.hid hv7
          clear hv7
          go_wp2_with fail
          exact freePost _ rfl ⟨Below.refl _ _, And.intro (upd_self.trans (HV7.out.symm.trans (upd_ne (by decide)).symm)) ⟨_, _, _, _, _, _, _, _, _, _, _, _, _, _, upd_self⟩⟩
        · intro V L H w1 hb1 hd
          obtain ⟨⟨hL8, hM8, hH8, hv8, i0__8, s1__8, i3__8, i4__8, s5__8, e6_8, e7_8, e8_8, n6_8, n7_8, n8_8, d6_8, d7_8, d8_8, hz8⟩, -⟩ := hd
          clear hv8
          rw [hz8]
          have HV8 := Lib.hid hz8
          clear hz8
          go_wp2_with fail
          exact freePost _ rfl ⟨Below.refl _ _, And.intro (fun x0 x1 h => by cases (HV8.out.symm.trans ((upd_ne (by decide)).symm.trans h)); exact upd_self) ⟨_, _, _, _, _, _, _, _, _, _, _, _, _, _, upd_self⟩⟩
        · intro V L H w1 hb1 hd
          obtain ⟨⟨hL8, hM8, hH8, hv8, i0__8, s1__8, i3__8, i4__8, s5__8, e6_8, e7_8, e8_8, n6_8, n7_8, n8_8, d6_8, d7_8, d8_8, hz8⟩, -⟩ := hd
          clear hv8
          rw [hz8]
          have HV8 := Lib.hid hz8
          clear hz8
          go_wp2_with fail
          exact freePost _ rfl ⟨Below.refl _ _, fun x0 x1 h => by cases (HV8.out.symm.trans ((upd_ne (by decide)).symm.trans h)); exact upd_self⟩
        · intro V L H w1 hb1 hd
          clear hd
          go_wp2_with fail
          refine freePost _ rfl ⟨Below.alloc (Below.refl _ _) (Nat.le_refl _) _, upd_self, ?_, ?_, ?_, ?_, ?_, ?_, ?_, ?_, ?_, ?_, ?_, ?_, ?_, ?_, ?_, ?_, ?_, ?_, ?_⟩
          · simp
          all_goals go_simp
        · intro V L H w1 hb1 hd
          obtain ⟨⟨hL11, hM11, hH11, hv11, hlt11, hc11_0, hf11_0, hc11_1, hf11_1, hc11_2, hf11_2, hc11_3, hf11_3, hc11_4, hf11_4, hc11_5, hf11_5, hc11_6, hf11_6, hc11_7, hf11_7, hc11_8, hf11_8⟩, ⟨hL9, hM9, hH9, hv9, i0__9, s1__9, i3__9, i4__9, s5__9, e6_9, e7_9, e8_9, n6_9, n7_9, n8_9, d6_9, d7_9, d8_9, hz9⟩, -⟩ := hd
          clear hv9
          rw [hv11, hz9]
          have HV11 := Lib.hid hv11
          have HV9 := Lib.hid hz9
          clear hv11 hz9
          go_wp2_with fail
          refine freePost undef rfl ⟨(Touches.put (L := L 11) (H := H 11) (Touches.put (L := L 11) (H := H 11) (Touches.put (L := L 11) (H := H 11) (Touches.put (L := L 11) (H := H 11) (Touches.put (L := L 11) (H := H 11) (Touches.put (L := L 11) (H := H 11) (Touches.put (L := L 11) (H := H 11) (Touches.put (L := L 11) (H := H 11) (Touches.put (L := L 11) (H := H 11) Touches.refl (p := ⟨L 11, 0, none⟩) ⟨Nat.le_refl _, hlt11⟩ _) (p := ⟨L 11, 1, none⟩) ⟨Nat.le_refl _, hlt11⟩ _) (p := ⟨L 11, 2, none⟩) ⟨Nat.le_refl _, hlt11⟩ _) (p := ⟨L 11, 3, none⟩) ⟨Nat.le_refl _, hlt11⟩ _) (p := ⟨L 11, 4, none⟩) ⟨Nat.le_refl _, hlt11⟩ _) (p := ⟨L 11, 5, none⟩) ⟨Nat.le_refl _, hlt11⟩ _) (p := ⟨L 11, 6, none⟩) ⟨Nat.le_refl _, hlt11⟩ _) (p := ⟨L 11, 7, none⟩) ⟨Nat.le_refl _, hlt11⟩ _) (p := ⟨L 11, 8, none⟩) ⟨Nat.le_refl _, hlt11⟩ _), fun x0 x1 x2 x3 x4 x5 x6 x7 x8 h => ?_⟩
          cases (HV9.out.symm.trans ((upd_ne (by decide)).symm.trans h))
          refine ⟨hlt11, ?_, ?_, ?_, ?_, ?_, ?_, ?_, ?_, ?_, ?_, ?_, ?_, ?_, ?_, ?_, ?_, ?_, ?_⟩
          all_goals go_simp
        · intro V L H w1 hb1 hd
          obtain ⟨⟨hL10, hM10, hH10, hv10⟩, -⟩ := hd
          clear hv10
          go_wp2_with fail
          exact freePost _ rfl ⟨Below.refl _ _, upd_self.trans (upd_ne (by decide)).symm⟩
        · intro V L H w1 hb1 hd hap hdead
          obtain ⟨⟨hL0, hM0, hH0, hv0⟩, ⟨hL1, hM1, hH1, hv1⟩, ⟨hL2, hM2, hH2, hv2⟩, ⟨hL3, hM3, hH3, hv3⟩, ⟨hL4, hM4, hH4, hv4⟩, ⟨hL5, hM5, hH5, hv5⟩, ⟨hL6, hM6, hH6, hv6⟩, ⟨hL7, hM7, hH7, i0_, s1_, i3_, i4_, s5_, e6, e7, e8, n6, n7, n8, d6, d7, d8, hv7⟩, ⟨hL8, hM8, hH8, hv8, i0__8, s1__8, i3__8, i4__8, s5__8, e6_8, e7_8, e8_8, n6_8, n7_8, n8_8, d6_8, d7_8, d8_8, hz8⟩, ⟨hL9, hM9, hH9, hv9, i0__9, s1__9, i3__9, i4__9, s5__9, e6_9, e7_9, e8_9, n6_9, n7_9, n8_9, d6_9, d7_9, d8_9, hz9⟩, ⟨hL10, hM10, hH10, hv10⟩, ⟨hL12, hM12, hH12, hst12_⟩, ⟨hL13, hM13, hH13, hv13⟩, -⟩ := hd
          have hv8' := hv8.trans hv7
          have hv9' := hv9 _ _ hv8'
          have hv10' := hv10 _ _ hv8'
          have hv13' := hv13.trans hv10'
          obtain ⟨vlt, vc0, vf0, vc1, vf1, vc2, vf2, vc3, vf3, vc4, vf4, vc5, vf5, vc6, vf6, vc7, vf7, vc8, vf8⟩ := hst12_ _ _ _ _ _ _ _ _ _ hv9'
          obtain ⟨hLe, hHe, wo, hva, -⟩ := hdead 12 11 (by decide) rfl
          rw [← hLe] at hva
          rw [hv0, hv1, hv2, hv3, hv4, hv5, hv6, hv7, hv8', hv9', hv10', hva, hv13']
          clear hv0 hv1 hv2 hv3 hv4 hv5 hv6 hv7 hv8' hv9' hv10' hva hv13' hv8 hv9 hv10 hv13
          clear hLe hHe
          have r0 : w1.cell? ⟨w.heap.size + 1, 0, none⟩ = some (.slice (some ⟨b, off, none⟩) m.length c1_0) := (hb1.cell (p := ⟨w.heap.size + 1, 0, none⟩) (by assumption)).trans q0
          have r1 : w1.cell? ⟨b, off + j * 9, none⟩ = some (.int .i64 y0) := (hb1.cell (p := ⟨b, off + j * 9, none⟩) (by assumption)).trans hc0
          have r2 : w1.cell? ⟨b, off + j * 9 + 1, none⟩ = some (.string ys) := (hb1.cell (p := ⟨b, off + j * 9 + 1, none⟩) (by assumption)).trans hc1
          have r3 : w1.cell? ⟨b, off + j * 9 + 2, none⟩ = some (.int .i64 yv) := (hb1.cell (p := ⟨b, off + j * 9 + 2, none⟩) (by assumption)).trans hc2
          have HO1 := Lib.hid (own_below HO.out hb1)
          have HBL1 := Lib.hid (HBL.out.trans (hb1.mono (by omega)))
          have hszw := hb1.size
          have hkb : w.heap.size + 1 < w1.heap.size := by omega
          clear hap hdead hc0 hc1 hc2 hc3 hc4 hc5 hc6 hc7 hc8 p0 p1 q0 q1
          generalize entV l ⟨y0, ys⟩ = vv at *
          cases hB : entB l ⟨y0, ys⟩
          · skip
            have HSN := Lib.hid (show changed l (List.take (j + 1) m) = K from by rw [HST.out, HCN1.out hB, List.append_nil])
            clear HCY HCN1 HCN2 HST
            clear hB
            go_wp2_with fail
            go_quiet (fail)
            go_wp2
            go_roundw
            case rel =>
              refine ⟨j + 1, by omega, by go_num, by rw [HSN.out]; exact HO1.out, (by repeat (first | (with_reducible exact HBL1.out) | (with_reducible exact Below.refl _ _) | (with_reducible apply Below.drew) | (with_reducible refine below_drewN ?_ _) | (refine Below.setCell ?_ (by first | omega | (simp <;> omega)) _) | (refine Below.alloc ?_ (by first | omega | (simp <;> omega)) _)))⟩
            case measure => simp [intOf]; omega
          · by_cases hv : vv = yv
            · have hd1 : (vv == yv) = true := by rw [hv]; simp
              have hd2 : (vv != yv) = false := by rw [hv]; simp
              have HVV := Lib.hid (HCN2.out hv)
              clear hv hB
              have HSN := Lib.hid (show changed l (List.take (j + 1) m) = K from by rw [HST.out, HVV.out, List.append_nil])
              clear HCY HCN1 HCN2 HST
              go_wp2_with fail
              go_quiet (fail)
              go_wp2
              go_roundw
              case rel =>
                refine ⟨j + 1, by omega, by go_num, by rw [HSN.out]; exact HO1.out, (by repeat (first | (with_reducible exact HBL1.out) | (with_reducible exact Below.refl _ _) | (with_reducible apply Below.drew) | (with_reducible refine below_drewN ?_ _) | (refine Below.setCell ?_ (by first | omega | (simp <;> omega)) _) | (refine Below.alloc ?_ (by first | omega | (simp <;> omega)) _)))⟩
              case measure => simp [intOf]; omega
            · have hd1 : (vv == yv) = false := by simpa using hv
              have hd2 : (vv != yv) = true := by simpa using hv
              have HVV := Lib.hid (HCY.out hB hv)
              clear hv hB HCY HCN1 HCN2
              go_wp2_with fail
              go_quiet (fail)
              have HOq := Lib.hid (show (w1.drewN nq).ownsRow (w.heap.size + 2) 30 2 _ (K).length ((K).flatMap vInstance) from HO1.out)
              have HBq := Lib.hid (show Below (w.heap.size + 2) ((w.alloc (.cells #[.slice a0 l.length c0_0, .slice a1 n1 c0_1] 40)).alloc (.cells #[.slice (some ⟨b, off, none⟩) m.length c1_0, .slice b1 n2 c1_1] 40)) (w1.drewN nq) from (by repeat (first | (with_reducible exact HBL1.out) | (with_reducible exact Below.refl _ _) | (with_reducible apply Below.drew) | (with_reducible refine below_drewN ?_ _) | (refine Below.setCell ?_ (by first | omega | (simp <;> omega)) _) | (refine Below.alloc ?_ (by first | omega | (simp <;> omega)) _))))
              go_wp2_with (at_builtin; refine wpList_append_own _ rfl (.tmp 40) (.tmp 47) 38 rfl (w.heap.size + 2) 30 i0 (.agg #[.int .i64 0, .string ⟨#[]⟩]) 2 24 Try.underlying38 hi' hz0 hz1 hz2 rfl (by decide) _ _ _ rfl (HOq.out.alloc _) ⟨w1.heap.size, 0, none⟩ 1 1 [.int .i64 y0, .string ys] rfl rfl (by intro q u hu; rcases q with _ | _ | q <;> simp at hu <;> subst hu <;> first | (go_simp; done) | exact (cell_of_row _ _ _ _ _ _ (blk_new (by simp))).trans rfl) (by intro u hu; simp at hu; rcases hu with rfl | rfl <;> rfl) (by unfold maxLen; omega) (by omega) (by simp <;> omega) ?_; intro v' w9 hown' hgrow hnil)
              have R1 := Lib.hid (grown_one (l := K) (x := (⟨y0, ys⟩ : DInstance)) (vals := vInstance) hown' rfl)
              rw [show K ++ [(⟨y0, ys⟩ : DInstance)] = changed l (List.take (j + 1) m) from by rw [HST.out, HVV.out]] at R1
              have R3 := Lib.hid (show Below (w.heap.size + 2) ((w.alloc (.cells #[.slice a0 l.length c0_0, .slice a1 n1 c0_1] 40)).alloc (.cells #[.slice (some ⟨b, off, none⟩) m.length c1_0, .slice b1 n2 c1_1] 40)) w9 from ((HBq.out.alloc (by simp <;> omega) _).grown hgrow (by simp <;> omega) (fun g hg => (HOq.out.lt g hg).1)))
              clear hown' hgrow hnil
              go_wp2
              go_roundw
              case rel => exact ⟨j + 1, by omega, by go_num, R1.out, R3.out⟩
              case measure => simp [intOf]; omega
    · obtain rfl : j = m.length := by omega
      go_wp2
      go_ret
      have ho := HO.out
      rw [List.take_length] at ho
      obtain ⟨a, c, h1, h2⟩ := HGO.out _ _ _ ho
      exact ⟨a, c, congrArg Ending.returned h1, h2, (by repeat (first | (with_reducible exact HB1.out) | (with_reducible exact Below.refl _ _) | (with_reducible apply Below.drew) | (with_reducible refine below_drewN ?_ _) | (refine Below.setCell ?_ (by first | omega | (simp <;> omega)) _) | (refine Below.alloc ?_ (by first | omega | (simp <;> omega)) _)))⟩


set_option maxHeartbeats 6400000 in
set_option maxRecDepth 100000 in
theorem impl_ChangedValues {lo hi : Nat} {a0 a1 b0 b1 : Option Addr} {c0_0 c0_1 c1_0 c1_1 : Nat} (x : DMemo) (_ : x.ok) (hsx : x.sz ≤ 1048576) (y : DMemo) (_ : y.ok) (hsy : y.sz ≤ 1048576) (w : World) (hhi : hi ≤ w.heap.size) (hs0 : Sl lo hi w 9 x.fEntries.length (fun k => DEntry.ct (x.fEntries.getD k default)) a0) (_ : Sl lo hi w 2 x.fEvaluated.length (fun k => DInstance.ct (x.fEvaluated.getD k default)) a1) (hs1 : Sl lo hi w 9 y.fEntries.length (fun k => DEntry.ct (y.fEntries.getD k default)) b0) (_ : Sl lo hi w 2 y.fEvaluated.length (fun k => DInstance.ct (y.fEvaluated.getD k default)) b1) :
    Calls Try.prog 27 #[.agg #[.slice a0 x.fEntries.length c0_0, .slice a1 x.fEvaluated.length c0_1], .agg #[.slice b0 y.fEntries.length c1_0, .slice b1 y.fEvaluated.length c1_1]] w fun e w' => ∃ a c, e = .returned (.slice a (changed x.fEntries y.fEntries).length c) ∧ Own w' (fun z => w.heap.size ≤ z ∧ z < w'.heap.size) (.sl 2 (changed x.fEntries y.fEntries).length (fun k => DInstance.ct ((changed x.fEntries y.fEntries).getD k default))) (.slice a (changed x.fEntries y.fEntries).length c) ∧ Below w.heap.size w w' := by
  have hzl : lsz DEntry.sz x.fEntries ≤ 1048576 := by unfold DMemo.sz at hsx; omega
  have hzm : lsz DEntry.sz y.fEntries ≤ 1048576 := by unfold DMemo.sz at hsy; omega
  have hn : y.fEntries.length ≤ 1048576 := by unfold lsz at hzm; omega
  have hnl : x.fEntries.length ≤ 1048576 := by unfold lsz at hzl; omega
  generalize x.fEntries = l at *
  generalize y.fEntries = m at *
  generalize x.fEvaluated.length = n1 at *
  generalize y.fEvaluated.length = n2 at *
  have HB := Lib.hid (((Below.refl w.heap.size w).alloc (Nat.le_refl _) (.cells #[.slice a0 l.length c0_0, .slice a1 n1 c0_1] 40)).alloc (by simp) (.cells #[.slice b0 m.length c1_0, .slice b1 n2 c1_1] 40))
  have HE := Lib.hid (show Below (w.heap.size + 2) ((w.alloc (.cells #[.slice a0 l.length c0_0, .slice a1 n1 c0_1] 40)).alloc (.cells #[.slice b0 m.length c1_0, .slice b1 n2 c1_1] 40)) ((w.alloc (.cells #[.slice a0 l.length c0_0, .slice a1 n1 c0_1] 40)).alloc (.cells #[.slice b0 m.length c1_0, .slice b1 n2 c1_1] 40)) from Below.refl _ _)
  have HSZ := Lib.hid (show ((w.alloc (.cells #[.slice a0 l.length c0_0, .slice a1 n1 c0_1] 40)).alloc (.cells #[.slice b0 m.length c1_0, .slice b1 n2 c1_1] 40)).heap.size = w.heap.size + 2 by simp)
  have HP0 := Lib.hid (show ((w.alloc (.cells #[.slice a0 l.length c0_0, .slice a1 n1 c0_1] 40)).alloc (.cells #[.slice b0 m.length c1_0, .slice b1 n2 c1_1] 40)).cell? ⟨w.heap.size, 0, none⟩ = some (.slice a0 l.length c0_0) by go_simp)
  have HP1 := Lib.hid (show ((w.alloc (.cells #[.slice a0 l.length c0_0, .slice a1 n1 c0_1] 40)).alloc (.cells #[.slice b0 m.length c1_0, .slice b1 n2 c1_1] 40)).cell? ⟨w.heap.size, 1, none⟩ = some (.slice a1 n1 c0_1) by go_simp)
  have HQ0 := Lib.hid (show ((w.alloc (.cells #[.slice a0 l.length c0_0, .slice a1 n1 c0_1] 40)).alloc (.cells #[.slice b0 m.length c1_0, .slice b1 n2 c1_1] 40)).cell? ⟨w.heap.size + 1, 0, none⟩ = some (.slice b0 m.length c1_0) by go_simp)
  have HQ1 := Lib.hid (show ((w.alloc (.cells #[.slice a0 l.length c0_0, .slice a1 n1 c0_1] 40)).alloc (.cells #[.slice b0 m.length c1_0, .slice b1 n2 c1_1] 40)).cell? ⟨w.heap.size + 1, 1, none⟩ = some (.slice b1 n2 c1_1) by go_simp)
  have HS0 := Lib.hid (hs0.later HB.out hhi)
  have HS1 := Lib.hid (hs1.later HB.out hhi)
  have HHI := Lib.hid hhi
  have HZL := Lib.hid hzl
  have HGO := Lib.hid (fun (w' : World) (v : Value) (L : List DInstance) (h : w'.ownsRow (w.heap.size + 2) 30 2 v (L).length ((L).flatMap vInstance)) => (show ∃ a c, v = .slice a L.length c ∧ Own w' (fun z => w.heap.size ≤ z ∧ z < w'.heap.size) (.sl 2 L.length (fun k => DInstance.ct (L.getD k default))) (.slice a L.length c) from by
    obtain ⟨a, c, h1, h2⟩ := grown_own (ct := DInstance.ct) (by decide) vInstance_len vInstance_ct h
    exact ⟨a, c, h1, h2.sub fun z hz => ⟨by omega, hz.2⟩⟩))
  obtain ⟨i0, hi', hz0, hz1, hz2⟩ := info_parts info_Instance
  clear hs0 hs1 hsx hsy hhi hzl hzm
  go_enter Try.func27, Try.ntmps27
  go_wp2
  go_loopw [5, 13] (fun v i wr => ∃ j : Nat, j ≤ m.length ∧ i = .int .i64 (j : Int) ∧ wr.ownsRow (w.heap.size + 2) 30 2 v (changed l (m.take j)).length ((changed l (m.take j)).flatMap vInstance) ∧ Below (w.heap.size + 2) ((w.alloc (.cells #[.slice a0 l.length c0_0, .slice a1 n1 c0_1] 40)).alloc (.cells #[.slice b0 m.length c1_0, .slice b1 n2 c1_1] 40)) wr) (fun _ i _ => m.length - (intOf i).toNat)
  case atStart => exact ⟨0, Nat.zero_le _, rfl, grown_nil, HE.out⟩
  case round =>
    obtain ⟨j, hj, rfl, hown, hbl⟩ := hrel
    have HO := Lib.hid hown
    have HBL := Lib.hid hbl
    have hsz1 : w.heap.size + 2 ≤ wr.heap.size := by have := hbl.size; rw [HSZ.out] at this; exact this
    have hk0 : w.heap.size < wr.heap.size := by omega
    have hk1 : w.heap.size + 1 < wr.heap.size := by omega
    have p0 : wr.cell? ⟨w.heap.size, 0, none⟩ = some (.slice a0 l.length c0_0) := (hbl.cell (p := ⟨w.heap.size, 0, none⟩) (show w.heap.size < w.heap.size + 2 by omega)).trans HP0.out
    have p1 : wr.cell? ⟨w.heap.size, 1, none⟩ = some (.slice a1 n1 c0_1) := (hbl.cell (p := ⟨w.heap.size, 1, none⟩) (show w.heap.size < w.heap.size + 2 by omega)).trans HP1.out
    have q0 : wr.cell? ⟨w.heap.size + 1, 0, none⟩ = some (.slice b0 m.length c1_0) := (hbl.cell (p := ⟨w.heap.size + 1, 0, none⟩) (show w.heap.size + 1 < w.heap.size + 2 by omega)).trans HQ0.out
    have q1 : wr.cell? ⟨w.heap.size + 1, 1, none⟩ = some (.slice b1 n2 c1_1) := (hbl.cell (p := ⟨w.heap.size + 1, 1, none⟩) (show w.heap.size + 1 < w.heap.size + 2 by omega)).trans HQ1.out
    have hlen : (changed l (m.take j)).length ≤ 1048576 := by have h1 := changed_len l (m.take j); rw [List.length_take] at h1; omega
    have HB1 := Lib.hid (HB.out.trans (hbl.mono (by omega)))
    clear hown hbl
    by_cases hlt : j < m.length
    · have HST := Lib.hid (changed_step (l := l) hlt)
      obtain ⟨b, off, rfl, _, hbh, hc⟩ := (HS1.out.later HBL.out (Nat.le_trans HHI.out (by omega))).at j hlt
      obtain ⟨a6, c6, a7, c7, a8, c8, hc0, hc1, hc2, hc3, hc4, hc5, hc6, hc7, hc8, _, _, _⟩ := DEntry.open hc
      have hbw : b < wr.heap.size := by have := HHI.out; omega
      have hjI : (0 : Int) ≤ (j : Int) ∧ (j : Int) < (m.length : Int) := by omega
      have HL0 := Lib.hid (HS0.out.later HBL.out (Nat.le_trans HHI.out (by omega)))
      clear hc
      have HCY := Lib.hid (@chAt_yes l (m.getD j default))
      have HCN1 := Lib.hid (@chAt_no1 l (m.getD j default))
      have HCN2 := Lib.hid (@chAt_no2 l (m.getD j default))
      generalize changed l (m.take j) = K at *
      generalize hy : m.getD j default = y1 at *
      clear hy
      have HBX := Lib.hid ((Below.refl wr.heap.size wr).alloc (Nat.le_refl _) (.cells #[.int .i64 y1.fAt.fNode, .string y1.fAt.fName, .int .i64 y1.fValue, .int .i64 y1.fOwner, .int .i64 y1.fLiteral, .string y1.fRule, .slice a6 y1.fIds.length c6, .slice a7 y1.fShape.length c7, .slice a8 y1.fReads.length c8] 34))
      generalize y1.fIds.length = k6 at *
      generalize y1.fShape.length = k7 at *
      generalize y1.fReads.length = k8 at *
      obtain ⟨⟨y0, ys⟩, yv, yo, yl, yr, yi, yh, yd⟩ := y1
      dsimp only at *
      go_wp2_with fail
      refine (impl_entryAt (c0 := c0_0) (c1 := c0_1) (a1 := a1) (n1 := n1) l hnl ⟨y0, ys⟩ _ (Nat.le_trans (Nat.le_trans HHI.out (by omega)) (Below.size (show Below wr.heap.size wr _ from (by repeat (first | (with_reducible exact hx) | (with_reducible exact Below.refl _ _) | (with_reducible apply Below.drew) | (with_reducible refine below_drewN ?_ _) | (refine Below.setCell ?_ (by first | omega | (simp <;> omega)) _) | (refine Below.alloc ?_ (by first | omega | (simp <;> omega)) _)))))) (HL0.out.later (show Below wr.heap.size wr _ from (by repeat (first | (with_reducible exact hx) | (with_reducible exact Below.refl _ _) | (with_reducible apply Below.drew) | (with_reducible refine below_drewN ?_ _) | (refine Below.setCell ?_ (by first | omega | (simp <;> omega)) _) | (refine Below.alloc ?_ (by first | omega | (simp <;> omega)) _)))) (Nat.le_trans HHI.out (by omega)))).mono ?_
      rintro e w1 ⟨⟨i0_, s1_, i3_, i4_, s5_, e6, e7, e8, n6, n7, n8, d6, d7, d8, rfl⟩, hb0⟩
      have hb1 : Below wr.heap.size wr w1 := (show Below wr.heap.size wr _ from (by repeat (first | (with_reducible exact hx) | (with_reducible exact Below.refl _ _) | (with_reducible apply Below.drew) | (with_reducible refine below_drewN ?_ _) | (refine Below.setCell ?_ (by first | omega | (simp <;> omega)) _) | (refine Below.alloc ?_ (by first | omega | (simp <;> omega)) _)))).trans (hb0.mono (Below.size (show Below wr.heap.size wr _ from (by repeat (first | (with_reducible exact hx) | (with_reducible exact Below.refl _ _) | (with_reducible apply Below.drew) | (with_reducible refine below_drewN ?_ _) | (refine Below.setCell ?_ (by first | omega | (simp <;> omega)) _) | (refine Below.alloc ?_ (by first | omega | (simp <;> omega)) _))))))
      have hsl : wr.heap.size < w1.heap.size := Nat.lt_of_lt_of_le (by first | (simp; done) | (simp [World.setCell]; done)) hb0.size
      have r0 : w1.cell? ⟨wr.heap.size, 0, none⟩ = some (.int .i64 y0) := (hb0.cell (p := ⟨wr.heap.size, 0, none⟩) (by first | (simp; done) | (simp [World.setCell]; done))).trans (by go_simp)
      have r1 : w1.cell? ⟨wr.heap.size, 1, none⟩ = some (.string ys) := (hb0.cell (p := ⟨wr.heap.size, 1, none⟩) (by first | (simp; done) | (simp [World.setCell]; done))).trans (by go_simp)
      have r2 : w1.cell? ⟨wr.heap.size, 2, none⟩ = some (.int .i64 yv) := (hb0.cell (p := ⟨wr.heap.size, 2, none⟩) (by first | (simp; done) | (simp [World.setCell]; done))).trans (by go_simp)
      have HO1 := Lib.hid (own_below HO.out hb1)
      have HBL1 := Lib.hid (HBL.out.trans (hb1.mono (by omega)))
      have hszw := hb1.size
      have hkb : w.heap.size + 1 < w1.heap.size := by omega
      clear hb0 hc0 hc1 hc2 hc3 hc4 hc5 hc6 hc7 hc8 p0 p1 q0 q1
      generalize entV l ⟨y0, ys⟩ = vv at *
      cases hB : entB l ⟨y0, ys⟩
      · skip
        have HSN := Lib.hid (show changed l (List.take (j + 1) m) = K from by rw [HST.out, HCN1.out hB, List.append_nil])
        clear HCY HCN1 HCN2 HST
        clear hB
        go_wp2_with fail
        go_roundw
        case rel =>
          refine ⟨j + 1, by omega, by go_num, ?_, (by repeat (first | (with_reducible exact HBL1.out) | (with_reducible exact Below.refl _ _) | (with_reducible apply Below.drew) | (with_reducible refine below_drewN ?_ _) | (refine Below.setCell ?_ (by first | omega | (simp <;> omega)) _) | (refine Below.alloc ?_ (by first | omega | (simp <;> omega)) _)))⟩
          rw [HSN.out]
          exact own_below HO1.out (by repeat (first | (with_reducible exact hx) | (with_reducible exact Below.refl _ _) | (with_reducible apply Below.drew) | (with_reducible refine below_drewN ?_ _) | (refine Below.setCell ?_ (by first | omega | (simp <;> omega)) _) | (refine Below.alloc ?_ (by first | omega | (simp <;> omega)) _)))
        case measure => simp [intOf]; omega
      · by_cases hv : vv = yv
        · have hd1 : (vv == yv) = true := by rw [hv]; simp
          have hd2 : (vv != yv) = false := by rw [hv]; simp
          have HVV := Lib.hid (HCN2.out hv)
          clear hv hB
          have HSN := Lib.hid (show changed l (List.take (j + 1) m) = K from by rw [HST.out, HVV.out, List.append_nil])
          clear HCY HCN1 HCN2 HST
          go_wp2_with fail
          go_roundw
          case rel =>
            refine ⟨j + 1, by omega, by go_num, ?_, (by repeat (first | (with_reducible exact HBL1.out) | (with_reducible exact Below.refl _ _) | (with_reducible apply Below.drew) | (with_reducible refine below_drewN ?_ _) | (refine Below.setCell ?_ (by first | omega | (simp <;> omega)) _) | (refine Below.alloc ?_ (by first | omega | (simp <;> omega)) _)))⟩
            rw [HSN.out]
            exact own_below HO1.out (by repeat (first | (with_reducible exact hx) | (with_reducible exact Below.refl _ _) | (with_reducible apply Below.drew) | (with_reducible refine below_drewN ?_ _) | (refine Below.setCell ?_ (by first | omega | (simp <;> omega)) _) | (refine Below.alloc ?_ (by first | omega | (simp <;> omega)) _)))
          case measure => simp [intOf]; omega
        · have hd1 : (vv == yv) = false := by simpa using hv
          have hd2 : (vv != yv) = true := by simpa using hv
          have HVV := Lib.hid (HCY.out hB hv)
          clear hv hB HCY HCN1 HCN2
          have HOq := Lib.hid (fun (W : World) (hW : Below w1.heap.size w1 W) => own_below HO1.out hW)
          go_wp2_with (at_builtin; refine wpList_append_own _ rfl (.tmp 32) (.tmp 35) 38 rfl (w.heap.size + 2) 30 i0 (.agg #[.int .i64 0, .string ⟨#[]⟩]) 2 24 Try.underlying38 hi' hz0 hz1 hz2 rfl (by decide) _ _ _ rfl ((HOq.out _ (by repeat (first | (with_reducible exact hx) | (with_reducible exact Below.refl _ _) | (with_reducible apply Below.drew) | (with_reducible refine below_drewN ?_ _) | (refine Below.setCell ?_ (by first | omega | (simp <;> omega)) _) | (refine Below.alloc ?_ (by first | omega | (simp <;> omega)) _)))).alloc _) ⟨w1.heap.size + 1, 0, none⟩ 1 1 [.int .i64 y0, .string ys] rfl rfl (by intro q u hu; rcases q with _ | _ | q <;> simp at hu <;> subst hu <;> first | (go_simp; done) | exact (cell_of_row _ _ _ _ _ _ (blk_new (by simp))).trans rfl) (by intro u hu; simp at hu; rcases hu with rfl | rfl <;> rfl) (by unfold maxLen; omega) (by omega) (by simp <;> omega) ?_; intro v' w9 hown' hgrow hnil)
          have R1 := Lib.hid (grown_one (l := K) (x := (⟨y0, ys⟩ : DInstance)) (vals := vInstance) hown' rfl)
          rw [show K ++ [(⟨y0, ys⟩ : DInstance)] = changed l (List.take (j + 1) m) from by rw [HST.out, HVV.out]] at R1
          have R3 := Lib.hid (show Below (w.heap.size + 2) ((w.alloc (.cells #[.slice a0 l.length c0_0, .slice a1 n1 c0_1] 40)).alloc (.cells #[.slice (some ⟨b, off, none⟩) m.length c1_0, .slice b1 n2 c1_1] 40)) w9 from (Below.grown (by repeat (first | (with_reducible exact HBL1.out) | (refine Below.setCell ?_ (by first | omega | (simp <;> omega)) _) | (refine Below.alloc ?_ (by first | omega | (simp <;> omega)) _))) hgrow (by simp <;> omega) (fun g hg => (HO1.out.lt g hg).1)))
          clear hown' hgrow hnil
          go_wp2
          go_roundw
          case rel => exact ⟨j + 1, by omega, by go_num, R1.out, R3.out⟩
          case measure => simp [intOf]; omega
    · obtain rfl : j = m.length := by omega
      go_wp2
      go_ret
      have ho := HO.out
      rw [List.take_length] at ho
      obtain ⟨a, c, h1, h2⟩ := HGO.out _ _ _ ho
      exact ⟨a, c, congrArg Ending.returned h1, h2, (by repeat (first | (with_reducible exact HB1.out) | (with_reducible exact Below.refl _ _) | (with_reducible apply Below.drew) | (with_reducible refine below_drewN ?_ _) | (refine Below.setCell ?_ (by first | omega | (simp <;> omega)) _) | (refine Below.alloc ?_ (by first | omega | (simp <;> omega)) _)))⟩
end Go.Proofs.Ytnjkgdicaagbeab
