/-
  EqualRelation, in the model and in the program.
-/
import Derived.Test.YtkfonlejblcknaaTRelation
import Derived.Test.YtkfonlejblcknaaIntsEq
import Derived.Laws.CopyOwn
import Derived.ChangeKeysEq
import Derived.Deep.RegionLaw
namespace Go.Proofs.Ytkfonlejblcknaa
open Go.ChangeShapes Go.WideShapes Go.ChangeAt Go.RowKit Go.Deep

theorem eqItems_int {P : Program} (w : World) (d : Nat) {e : TypeId} (he : P.plainKey e = true) (hu : P.underlying e = some (.int .i64)) (f g : Nat → Int) (xs ys : Array Value) : ∀ is : List Nat,
    (∀ j, j ∈ is → xs[j * P.cellsOf e]? = some (.int .i64 (f j)) ∧ ys[j * P.cellsOf e]? = some (.int .i64 (g j))) → (Op.eqItems (d + 1) e (P.cellsOf e) xs ys is).run P w = .ok (is.all fun j => f j == g j) w
  | [], _ => rfl
  | j :: is, h => by
    have hj := h j List.mem_cons_self
    have ih := eqItems_int w d he hu f g xs ys is fun k hk => h k (List.mem_cons_of_mem _ hk)
    simp only [Op.eqItems, Sem.run_bind, run_part_plain w he hj.1, run_part_plain w he hj.2, Result.andThen_ok, run_equalIn_int w d e .i64 .i64 _ _ hu, List.all_cons]
    cases hb : (f j == g j)
    · simp
    · simpa using ih

/-- Sixteen numbers. -/
def rowA (f : Nat → Int) : Array Value := #[.int .i64 (f 0), .int .i64 (f 1), .int .i64 (f 2), .int .i64 (f 3), .int .i64 (f 4), .int .i64 (f 5), .int .i64 (f 6), .int .i64 (f 7), .int .i64 (f 8), .int .i64 (f 9), .int .i64 (f 10), .int .i64 (f 11), .int .i64 (f 12), .int .i64 (f 13), .int .i64 (f 14), .int .i64 (f 15)]
theorem rowA_at (f : Nat → Int) : ∀ j, j < 16 → (rowA f)[j]? = some (.int .i64 (f j)) := by
  intro j hj
  match j, hj with
  | 0, _ => rfl
  | 1, _ => rfl
  | 2, _ => rfl
  | 3, _ => rfl
  | 4, _ => rfl
  | 5, _ => rfl
  | 6, _ => rfl
  | 7, _ => rfl
  | 8, _ => rfl
  | 9, _ => rfl
  | 10, _ => rfl
  | 11, _ => rfl
  | 12, _ => rfl
  | 13, _ => rfl
  | 14, _ => rfl
  | 15, _ => rfl
  | j + 16, h => exact absurd h (by omega)
theorem plain_int : Try.prog.plainKey 3 = true := by kernel_rfl
theorem cells_int : Try.prog.cellsOf 3 = 1 := by kernel_rfl
theorem under_int : Try.prog.underlying 3 = some (.int .i64) := by kernel_rfl
theorem under_rows : Try.prog.underlying 50 = some (.array 16 3) := by kernel_rfl
theorem heap3r (w : World) (A B C : Obj) : ((((w.alloc A).alloc B).alloc C).drew).heap[w.heap.size + 1 + 1]? = some C := by
  have h : w.heap.size + 1 + 1 = ((w.heap.push A).push B).size := by simp
  rw [h]
  exact Array.getElem?_push_size
theorem add_at (b o j : Nat) : (⟨b, o, none⟩ : Addr).add j = ⟨b, o + j, none⟩ := by
  unfold Addr.add
  split
  · rename_i h
    rw [h]; rfl
  · rfl
theorem heap2r (w : World) (A B : Obj) : ((w.alloc A).alloc B).heap[w.heap.size + 1]? = some B := by
  have h : w.heap.size + 1 = (w.heap.push A).size := by simp
  rw [h]
  exact Array.getElem?_push_size
theorem info_int16 : (Try.prog.info? 3).isSome = true := by kernel_rfl
theorem rows_eq (W : World) (f g : Nat → Int) : (Op.equalIn 10000 50 (.agg (rowA f)) (.agg (rowA g))).run Try.prog W = .ok ((List.range 16).all fun j => f j == g j) W := by
  obtain ⟨i, hi⟩ := Option.isSome_iff_exists.1 info_int16
  rw [show 10000 = 9999 + 1 from rfl, run_equalIn_array W 9999 _ _ under_rows hi]
  refine eqItems_int W 9998 plain_int under_int f g _ _ _ fun j hj => ?_
  rw [cells_int, Nat.mul_one]
  have := List.mem_range.1 hj
  exact ⟨rowA_at f j this, rowA_at g j this⟩

/-- The rows from place i on. -/
def rowsF (l : List Int) (i : Nat) (j : Nat) : Int := l.getD (i + j) 0
def cutV (l : List Int) (i : Nat) : List Value := ((l.drop i).take 16).map (Value.int .i64)
theorem cutV_len (l : List Int) (i : Nat) : (cutV l i).length = Nat.min (l.length - i) 16 := by unfold cutV; rw [List.length_map, List.length_take, List.length_drop, Nat.min_comm]
theorem cutV_at {l : List Int} {i j : Nat} {v : Value} (h : (cutV l i)[j]? = some v) : i + j < l.length ∧ v = .int .i64 (l.getD (i + j) default) := by
  unfold cutV at h
  rw [List.getElem?_map, List.getElem?_take, Option.map_eq_some_iff] at h
  obtain ⟨z, hz, rfl⟩ := h
  split at hz
  · rw [List.getElem?_drop] at hz
    have hl := (List.getElem?_eq_some_iff.1 hz).1
    exact ⟨hl, by rw [List.getD_eq_getElem?_getD, hz]; rfl⟩
  · cases hz
theorem zeros_at : ∀ j, j < 16 → ([.int .i64 0, .int .i64 0, .int .i64 0, .int .i64 0, .int .i64 0, .int .i64 0, .int .i64 0, .int .i64 0, .int .i64 0, .int .i64 0, .int .i64 0, .int .i64 0, .int .i64 0, .int .i64 0, .int .i64 0, .int .i64 0] : List Value)[j]? = some (.int .i64 0) := by
  intro j hj
  match j, hj with
  | 0, _ => rfl
  | 1, _ => rfl
  | 2, _ => rfl
  | 3, _ => rfl
  | 4, _ => rfl
  | 5, _ => rfl
  | 6, _ => rfl
  | 7, _ => rfl
  | 8, _ => rfl
  | 9, _ => rfl
  | 10, _ => rfl
  | 11, _ => rfl
  | 12, _ => rfl
  | 13, _ => rfl
  | 14, _ => rfl
  | 15, _ => rfl
  | j + 16, h => exact absurd h (by omega)
theorem spliced (l : List Int) (i : Nat) : (splice [.int .i64 0, .int .i64 0, .int .i64 0, .int .i64 0, .int .i64 0, .int .i64 0, .int .i64 0, .int .i64 0, .int .i64 0, .int .i64 0, .int .i64 0, .int .i64 0, .int .i64 0, .int .i64 0, .int .i64 0, .int .i64 0] 0 (cutV l i)) = (rowA (rowsF l i)).toList := by
  refine List.ext_getElem? fun j => ?_
  have hn := cutV_len l i
  have hn16 : (cutV l i).length ≤ 16 := by rw [hn]; exact Nat.min_le_right _ _
  unfold splice
  rw [List.take_zero, List.nil_append, Nat.zero_add, show (rowA (rowsF l i)).toList[j]? = (rowA (rowsF l i))[j]? from Array.getElem?_toList ..]
  by_cases hj : j < 16
  · rw [rowA_at _ j hj]
    by_cases hc : j < (cutV l i).length
    · rw [List.getElem?_append_left hc]
      have h1 := List.getElem?_eq_getElem hc
      obtain ⟨h2, h3⟩ := cutV_at h1
      rw [h1, h3]
      rfl
    · rw [List.getElem?_append_right (by omega), List.getElem?_drop, show (cutV l i).length + (j - (cutV l i).length) = j by omega]
      have h2 : rowsF l i j = 0 := by
        unfold rowsF
        rw [List.getD_eq_getElem?_getD, List.getElem?_eq_none]
        · rfl
        · rw [hn] at hc
          have : ¬ j < l.length - i := fun h => hc (Nat.lt_min.2 ⟨h, hj⟩)
          omega
      rw [h2]
      exact zeros_at j hj
  · have h1 : (rowA (rowsF l i)).size = 16 := rfl
    rw [Array.getElem?_eq_none (by omega), List.getElem?_eq_none]
    rw [List.length_append, List.length_drop]
    show _ + (16 - _) ≤ j
    omega

theorem blk_put {w : World} {g j : Nat} {u : Value} {cs cs' : Array Value} {t : TypeId} {fr : Nat × Nat} (h : w.heap[g]? = some (.cells cs t fr)) (hc : cs.setIfInBounds j u = cs') : (w.setCell ⟨g, j, none⟩ u).heap[g]? = some (.cells cs' t fr) := by
  rw [← hc]
  exact blk_set h
theorem blk16 (w : World) (g : Nat) (f : Nat → Int) (t : TypeId) (h : w.heap[g]? = some (.cells #[.int .i64 0, .int .i64 0, .int .i64 0, .int .i64 0, .int .i64 0, .int .i64 0, .int .i64 0, .int .i64 0, .int .i64 0, .int .i64 0, .int .i64 0, .int .i64 0, .int .i64 0, .int .i64 0, .int .i64 0, .int .i64 0] t (0, 0))) : ((((((((((((((((w.setCell ⟨g, 0, none⟩ (.int .i64 (f 0))).setCell ⟨g, 1, none⟩ (.int .i64 (f 1))).setCell ⟨g, 2, none⟩ (.int .i64 (f 2))).setCell ⟨g, 3, none⟩ (.int .i64 (f 3))).setCell ⟨g, 4, none⟩ (.int .i64 (f 4))).setCell ⟨g, 5, none⟩ (.int .i64 (f 5))).setCell ⟨g, 6, none⟩ (.int .i64 (f 6))).setCell ⟨g, 7, none⟩ (.int .i64 (f 7))).setCell ⟨g, 8, none⟩ (.int .i64 (f 8))).setCell ⟨g, 9, none⟩ (.int .i64 (f 9))).setCell ⟨g, 10, none⟩ (.int .i64 (f 10))).setCell ⟨g, 11, none⟩ (.int .i64 (f 11))).setCell ⟨g, 12, none⟩ (.int .i64 (f 12))).setCell ⟨g, 13, none⟩ (.int .i64 (f 13))).setCell ⟨g, 14, none⟩ (.int .i64 (f 14))).setCell ⟨g, 15, none⟩ (.int .i64 (f 15))).heap[g]? = some (.cells (rowA f) t (0, 0)) := by
  have h0 := blk_put (j := 0) (u := .int .i64 (f 0)) (cs' := #[.int .i64 (f 0), .int .i64 0, .int .i64 0, .int .i64 0, .int .i64 0, .int .i64 0, .int .i64 0, .int .i64 0, .int .i64 0, .int .i64 0, .int .i64 0, .int .i64 0, .int .i64 0, .int .i64 0, .int .i64 0, .int .i64 0]) h rfl
  have h1 := blk_put (j := 1) (u := .int .i64 (f 1)) (cs' := #[.int .i64 (f 0), .int .i64 (f 1), .int .i64 0, .int .i64 0, .int .i64 0, .int .i64 0, .int .i64 0, .int .i64 0, .int .i64 0, .int .i64 0, .int .i64 0, .int .i64 0, .int .i64 0, .int .i64 0, .int .i64 0, .int .i64 0]) h0 rfl
  have h2 := blk_put (j := 2) (u := .int .i64 (f 2)) (cs' := #[.int .i64 (f 0), .int .i64 (f 1), .int .i64 (f 2), .int .i64 0, .int .i64 0, .int .i64 0, .int .i64 0, .int .i64 0, .int .i64 0, .int .i64 0, .int .i64 0, .int .i64 0, .int .i64 0, .int .i64 0, .int .i64 0, .int .i64 0]) h1 rfl
  have h3 := blk_put (j := 3) (u := .int .i64 (f 3)) (cs' := #[.int .i64 (f 0), .int .i64 (f 1), .int .i64 (f 2), .int .i64 (f 3), .int .i64 0, .int .i64 0, .int .i64 0, .int .i64 0, .int .i64 0, .int .i64 0, .int .i64 0, .int .i64 0, .int .i64 0, .int .i64 0, .int .i64 0, .int .i64 0]) h2 rfl
  have h4 := blk_put (j := 4) (u := .int .i64 (f 4)) (cs' := #[.int .i64 (f 0), .int .i64 (f 1), .int .i64 (f 2), .int .i64 (f 3), .int .i64 (f 4), .int .i64 0, .int .i64 0, .int .i64 0, .int .i64 0, .int .i64 0, .int .i64 0, .int .i64 0, .int .i64 0, .int .i64 0, .int .i64 0, .int .i64 0]) h3 rfl
  have h5 := blk_put (j := 5) (u := .int .i64 (f 5)) (cs' := #[.int .i64 (f 0), .int .i64 (f 1), .int .i64 (f 2), .int .i64 (f 3), .int .i64 (f 4), .int .i64 (f 5), .int .i64 0, .int .i64 0, .int .i64 0, .int .i64 0, .int .i64 0, .int .i64 0, .int .i64 0, .int .i64 0, .int .i64 0, .int .i64 0]) h4 rfl
  have h6 := blk_put (j := 6) (u := .int .i64 (f 6)) (cs' := #[.int .i64 (f 0), .int .i64 (f 1), .int .i64 (f 2), .int .i64 (f 3), .int .i64 (f 4), .int .i64 (f 5), .int .i64 (f 6), .int .i64 0, .int .i64 0, .int .i64 0, .int .i64 0, .int .i64 0, .int .i64 0, .int .i64 0, .int .i64 0, .int .i64 0]) h5 rfl
  have h7 := blk_put (j := 7) (u := .int .i64 (f 7)) (cs' := #[.int .i64 (f 0), .int .i64 (f 1), .int .i64 (f 2), .int .i64 (f 3), .int .i64 (f 4), .int .i64 (f 5), .int .i64 (f 6), .int .i64 (f 7), .int .i64 0, .int .i64 0, .int .i64 0, .int .i64 0, .int .i64 0, .int .i64 0, .int .i64 0, .int .i64 0]) h6 rfl
  have h8 := blk_put (j := 8) (u := .int .i64 (f 8)) (cs' := #[.int .i64 (f 0), .int .i64 (f 1), .int .i64 (f 2), .int .i64 (f 3), .int .i64 (f 4), .int .i64 (f 5), .int .i64 (f 6), .int .i64 (f 7), .int .i64 (f 8), .int .i64 0, .int .i64 0, .int .i64 0, .int .i64 0, .int .i64 0, .int .i64 0, .int .i64 0]) h7 rfl
  have h9 := blk_put (j := 9) (u := .int .i64 (f 9)) (cs' := #[.int .i64 (f 0), .int .i64 (f 1), .int .i64 (f 2), .int .i64 (f 3), .int .i64 (f 4), .int .i64 (f 5), .int .i64 (f 6), .int .i64 (f 7), .int .i64 (f 8), .int .i64 (f 9), .int .i64 0, .int .i64 0, .int .i64 0, .int .i64 0, .int .i64 0, .int .i64 0]) h8 rfl
  have h10 := blk_put (j := 10) (u := .int .i64 (f 10)) (cs' := #[.int .i64 (f 0), .int .i64 (f 1), .int .i64 (f 2), .int .i64 (f 3), .int .i64 (f 4), .int .i64 (f 5), .int .i64 (f 6), .int .i64 (f 7), .int .i64 (f 8), .int .i64 (f 9), .int .i64 (f 10), .int .i64 0, .int .i64 0, .int .i64 0, .int .i64 0, .int .i64 0]) h9 rfl
  have h11 := blk_put (j := 11) (u := .int .i64 (f 11)) (cs' := #[.int .i64 (f 0), .int .i64 (f 1), .int .i64 (f 2), .int .i64 (f 3), .int .i64 (f 4), .int .i64 (f 5), .int .i64 (f 6), .int .i64 (f 7), .int .i64 (f 8), .int .i64 (f 9), .int .i64 (f 10), .int .i64 (f 11), .int .i64 0, .int .i64 0, .int .i64 0, .int .i64 0]) h10 rfl
  have h12 := blk_put (j := 12) (u := .int .i64 (f 12)) (cs' := #[.int .i64 (f 0), .int .i64 (f 1), .int .i64 (f 2), .int .i64 (f 3), .int .i64 (f 4), .int .i64 (f 5), .int .i64 (f 6), .int .i64 (f 7), .int .i64 (f 8), .int .i64 (f 9), .int .i64 (f 10), .int .i64 (f 11), .int .i64 (f 12), .int .i64 0, .int .i64 0, .int .i64 0]) h11 rfl
  have h13 := blk_put (j := 13) (u := .int .i64 (f 13)) (cs' := #[.int .i64 (f 0), .int .i64 (f 1), .int .i64 (f 2), .int .i64 (f 3), .int .i64 (f 4), .int .i64 (f 5), .int .i64 (f 6), .int .i64 (f 7), .int .i64 (f 8), .int .i64 (f 9), .int .i64 (f 10), .int .i64 (f 11), .int .i64 (f 12), .int .i64 (f 13), .int .i64 0, .int .i64 0]) h12 rfl
  have h14 := blk_put (j := 14) (u := .int .i64 (f 14)) (cs' := #[.int .i64 (f 0), .int .i64 (f 1), .int .i64 (f 2), .int .i64 (f 3), .int .i64 (f 4), .int .i64 (f 5), .int .i64 (f 6), .int .i64 (f 7), .int .i64 (f 8), .int .i64 (f 9), .int .i64 (f 10), .int .i64 (f 11), .int .i64 (f 12), .int .i64 (f 13), .int .i64 (f 14), .int .i64 0]) h13 rfl
  have h15 := blk_put (j := 15) (u := .int .i64 (f 15)) (cs' := #[.int .i64 (f 0), .int .i64 (f 1), .int .i64 (f 2), .int .i64 (f 3), .int .i64 (f 4), .int .i64 (f 5), .int .i64 (f 6), .int .i64 (f 7), .int .i64 (f 8), .int .i64 (f 9), .int .i64 (f 10), .int .i64 (f 11), .int .i64 (f 12), .int .i64 (f 13), .int .i64 (f 14), .int .i64 (f 15)]) h14 rfl
  exact h15
theorem info_int1 : (Try.prog.info? 3).map (·.size) = some 1 := by kernel_rfl
set_option maxHeartbeats 1600000 in
set_option maxRecDepth 100000 in
theorem impl_rowsFrom {lo hi : Nat} {a1 : Option Addr} {c1 : Nat} (n : Int) (l : List Int) (hn : l.length ≤ 1048576) (i : Nat) (hil : i < l.length) (hcap : l.length ≤ c1) (w : World) (hhi : hi ≤ w.heap.size) (hs : Sl lo hi w 1 l.length (fun k => ictI (l.getD k default)) a1) :
    Calls Try.prog 33 #[.agg #[.int .i64 n, .slice a1 l.length c1], .int .i64 (i : Int)] w fun e w' => e = .returned (.agg (rowA (rowsF l i))) ∧ Below w.heap.size w w' := by
  have HB := Lib.hid ((Below.refl w.heap.size w).alloc (Nat.le_refl _) (.cells #[.int .i64 n, .slice a1 l.length c1] 27))
  have HS := Lib.hid hs
  have hi0 : (0 : Int) ≤ (i : Int) := by omega
  have hi1 : (i : Int) ≤ (c1 : Int) := by omega
  have hi2 : (i : Int) ≤ (l.length : Int) := by omega
  have hne : ¬ (c1 = i) := by omega
  have HL := Lib.hid (cutV_len l i)
  obtain ⟨b, off, rfl, _, hbh, _⟩ := hs.at i hil
  have hbw : b < w.heap.size := by omega
  have HC := Lib.hid (fun (W : World) (hW : Below w.heap.size w W) (j : Nat) (v : Value) (h : (cutV l i)[j]? = some v) => (show W.cell? ⟨b, off + i + j, none⟩ = some v from by
    obtain ⟨h1, h2⟩ := cutV_at h
    obtain ⟨b', off', hb', _, _, hc⟩ := (hs.later hW hhi).at (i + j) h1
    cases hb'
    rw [Nat.mul_one] at hc
    rw [h2, Nat.add_assoc]
    exact open_Int hc))
  have H1 := Lib.hid (show ∀ v ∈ cutV l i, v.oneCell' = true from fun v hv => by
    unfold cutV at hv
    obtain ⟨z, _, rfl⟩ := List.mem_map.1 hv
    rfl)
  have HSP := Lib.hid (spliced l i)
  clear hs
  generalize rowsF l i = f at *
  generalize cutV l i = cs at *
  go_enter Try.func33, Try.ntmps33
  go_wp2
  go_region_law (go_loud ((refine step_copy_splice rfl (.tmp 6) (.tmp 10) 22 22 rfl 3 Try.underlying22 info_int1 (some ⟨w.heap.size + 1 + 1, 0, none⟩) (some ⟨b, off + i, none⟩) 16 16 (l.length - i) (c1 - i) rfl rfl (w.heap.size + 1 + 1) 0 [.int .i64 0, .int .i64 0, .int .i64 0, .int .i64 0, .int .i64 0, .int .i64 0, .int .i64 0, .int .i64 0, .int .i64 0, .int .i64 0, .int .i64 0, .int .i64 0, .int .i64 0, .int .i64 0, .int .i64 0, .int .i64 0] 50 ?a1 cs ?a2 ?a3 ?a4 H1.out (w.heap.size + 1 + 1) ((w.alloc (.cells #[.int .i64 n, .slice (some ⟨b, off, none⟩) l.length c1] 27)).alloc (.cells #[.int .i64 0, .int .i64 0, .int .i64 0, .int .i64 0, .int .i64 0, .int .i64 0, .int .i64 0, .int .i64 0, .int .i64 0, .int .i64 0, .int .i64 0, .int .i64 0, .int .i64 0, .int .i64 0, .int .i64 0, .int .i64 0] 50)) ?a5 ?a6 ?_; (case a1 => exact heap3r _ _ _ _); (case a2 => exact HL.out); (case a3 => exact fun _ => ⟨rfl, _, rfl, fun j v h => by rw [add_at]; exact HC.out _ (show Below w.heap.size w ((((w.alloc (.cells #[.int .i64 n, .slice (some ⟨b, off, none⟩) l.length c1] 27)).alloc (.cells #[.int .i64 0, .int .i64 0, .int .i64 0, .int .i64 0, .int .i64 0, .int .i64 0, .int .i64 0, .int .i64 0, .int .i64 0, .int .i64 0, .int .i64 0, .int .i64 0, .int .i64 0, .int .i64 0, .int .i64 0, .int .i64 0] 50)).alloc (.cells #[.int .i64 0, .int .i64 0, .int .i64 0, .int .i64 0, .int .i64 0, .int .i64 0, .int .i64 0, .int .i64 0, .int .i64 0, .int .i64 0, .int .i64 0, .int .i64 0, .int .i64 0, .int .i64 0, .int .i64 0, .int .i64 0] 50)).drew) by repeat (first | (with_reducible exact Below.refl _ _) | (with_reducible refine Below.drew ?_) | (with_reducible refine Below.alloc ?_ (by first | (simp; done) | (simp; omega)) _))) j v h⟩); (case a4 => (show 0 + cs.length ≤ 16; rw [Nat.zero_add, HL.out]; exact Nat.min_le_right _ _)); (case a5 => exact (by repeat (first | (with_reducible exact Below.refl _ _) | (with_reducible refine Below.drew ?_) | (with_reducible refine Below.alloc ?_ (by first | (simp; done) | (simp; omega)) _)))); (case a6 => omega); intro w4 hg4 hb4)))
  have HY : ∀ j, j < 16 → w4.cell? ⟨w.heap.size + 1 + 1, j, none⟩ = some (.int .i64 (f j)) := fun j hj => by
    have h := hg4.out
    rw [HSP.out] at h
    rw [cell_of_row w4 _ j _ _ _ h]
    exact rowA_at f j hj
  have HBB := Lib.hid (HB.out.alloc (by simp) (.cells #[.int .i64 0, .int .i64 0, .int .i64 0, .int .i64 0, .int .i64 0, .int .i64 0, .int .i64 0, .int .i64 0, .int .i64 0, .int .i64 0, .int .i64 0, .int .i64 0, .int .i64 0, .int .i64 0, .int .i64 0, .int .i64 0] 50))
  have HB4 := Lib.hid hb4
  have HZ4 : w.heap.size + 1 + 1 ≤ w4.heap.size := by have h := hb4.size; simpa using h
  have HG : w4.heap[w.heap.size + 1]? = some (.cells #[.int .i64 0, .int .i64 0, .int .i64 0, .int .i64 0, .int .i64 0, .int .i64 0, .int .i64 0, .int .i64 0, .int .i64 0, .int .i64 0, .int .i64 0, .int .i64 0, .int .i64 0, .int .i64 0, .int .i64 0, .int .i64 0] 50 (0, 0)) := (hb4.block (w.heap.size + 1) (Nat.lt_succ_self _)).trans (heap2r _ _ _)
  have y0 := HY 0 (by decide)
  have z0 : w4.cell? ⟨w.heap.size + 1, 0, none⟩ = some (.int .i64 0) := cell_of_row w4 _ 0 _ _ _ HG
  have f0 : w4.frozen? ⟨w.heap.size + 1, 0, none⟩ = false := (HB4.out.frozen (p := ⟨w.heap.size + 1, 0, none⟩) (Nat.lt_succ_self _)).trans (by go_simp)
  have y1 := HY 1 (by decide)
  have z1 : w4.cell? ⟨w.heap.size + 1, 1, none⟩ = some (.int .i64 0) := cell_of_row w4 _ 1 _ _ _ HG
  have f1 : w4.frozen? ⟨w.heap.size + 1, 1, none⟩ = false := (HB4.out.frozen (p := ⟨w.heap.size + 1, 1, none⟩) (Nat.lt_succ_self _)).trans (by go_simp)
  have y2 := HY 2 (by decide)
  have z2 : w4.cell? ⟨w.heap.size + 1, 2, none⟩ = some (.int .i64 0) := cell_of_row w4 _ 2 _ _ _ HG
  have f2 : w4.frozen? ⟨w.heap.size + 1, 2, none⟩ = false := (HB4.out.frozen (p := ⟨w.heap.size + 1, 2, none⟩) (Nat.lt_succ_self _)).trans (by go_simp)
  have y3 := HY 3 (by decide)
  have z3 : w4.cell? ⟨w.heap.size + 1, 3, none⟩ = some (.int .i64 0) := cell_of_row w4 _ 3 _ _ _ HG
  have f3 : w4.frozen? ⟨w.heap.size + 1, 3, none⟩ = false := (HB4.out.frozen (p := ⟨w.heap.size + 1, 3, none⟩) (Nat.lt_succ_self _)).trans (by go_simp)
  have y4 := HY 4 (by decide)
  have z4 : w4.cell? ⟨w.heap.size + 1, 4, none⟩ = some (.int .i64 0) := cell_of_row w4 _ 4 _ _ _ HG
  have f4 : w4.frozen? ⟨w.heap.size + 1, 4, none⟩ = false := (HB4.out.frozen (p := ⟨w.heap.size + 1, 4, none⟩) (Nat.lt_succ_self _)).trans (by go_simp)
  have y5 := HY 5 (by decide)
  have z5 : w4.cell? ⟨w.heap.size + 1, 5, none⟩ = some (.int .i64 0) := cell_of_row w4 _ 5 _ _ _ HG
  have f5 : w4.frozen? ⟨w.heap.size + 1, 5, none⟩ = false := (HB4.out.frozen (p := ⟨w.heap.size + 1, 5, none⟩) (Nat.lt_succ_self _)).trans (by go_simp)
  have y6 := HY 6 (by decide)
  have z6 : w4.cell? ⟨w.heap.size + 1, 6, none⟩ = some (.int .i64 0) := cell_of_row w4 _ 6 _ _ _ HG
  have f6 : w4.frozen? ⟨w.heap.size + 1, 6, none⟩ = false := (HB4.out.frozen (p := ⟨w.heap.size + 1, 6, none⟩) (Nat.lt_succ_self _)).trans (by go_simp)
  have y7 := HY 7 (by decide)
  have z7 : w4.cell? ⟨w.heap.size + 1, 7, none⟩ = some (.int .i64 0) := cell_of_row w4 _ 7 _ _ _ HG
  have f7 : w4.frozen? ⟨w.heap.size + 1, 7, none⟩ = false := (HB4.out.frozen (p := ⟨w.heap.size + 1, 7, none⟩) (Nat.lt_succ_self _)).trans (by go_simp)
  have y8 := HY 8 (by decide)
  have z8 : w4.cell? ⟨w.heap.size + 1, 8, none⟩ = some (.int .i64 0) := cell_of_row w4 _ 8 _ _ _ HG
  have f8 : w4.frozen? ⟨w.heap.size + 1, 8, none⟩ = false := (HB4.out.frozen (p := ⟨w.heap.size + 1, 8, none⟩) (Nat.lt_succ_self _)).trans (by go_simp)
  have y9 := HY 9 (by decide)
  have z9 : w4.cell? ⟨w.heap.size + 1, 9, none⟩ = some (.int .i64 0) := cell_of_row w4 _ 9 _ _ _ HG
  have f9 : w4.frozen? ⟨w.heap.size + 1, 9, none⟩ = false := (HB4.out.frozen (p := ⟨w.heap.size + 1, 9, none⟩) (Nat.lt_succ_self _)).trans (by go_simp)
  have y10 := HY 10 (by decide)
  have z10 : w4.cell? ⟨w.heap.size + 1, 10, none⟩ = some (.int .i64 0) := cell_of_row w4 _ 10 _ _ _ HG
  have f10 : w4.frozen? ⟨w.heap.size + 1, 10, none⟩ = false := (HB4.out.frozen (p := ⟨w.heap.size + 1, 10, none⟩) (Nat.lt_succ_self _)).trans (by go_simp)
  have y11 := HY 11 (by decide)
  have z11 : w4.cell? ⟨w.heap.size + 1, 11, none⟩ = some (.int .i64 0) := cell_of_row w4 _ 11 _ _ _ HG
  have f11 : w4.frozen? ⟨w.heap.size + 1, 11, none⟩ = false := (HB4.out.frozen (p := ⟨w.heap.size + 1, 11, none⟩) (Nat.lt_succ_self _)).trans (by go_simp)
  have y12 := HY 12 (by decide)
  have z12 : w4.cell? ⟨w.heap.size + 1, 12, none⟩ = some (.int .i64 0) := cell_of_row w4 _ 12 _ _ _ HG
  have f12 : w4.frozen? ⟨w.heap.size + 1, 12, none⟩ = false := (HB4.out.frozen (p := ⟨w.heap.size + 1, 12, none⟩) (Nat.lt_succ_self _)).trans (by go_simp)
  have y13 := HY 13 (by decide)
  have z13 : w4.cell? ⟨w.heap.size + 1, 13, none⟩ = some (.int .i64 0) := cell_of_row w4 _ 13 _ _ _ HG
  have f13 : w4.frozen? ⟨w.heap.size + 1, 13, none⟩ = false := (HB4.out.frozen (p := ⟨w.heap.size + 1, 13, none⟩) (Nat.lt_succ_self _)).trans (by go_simp)
  have y14 := HY 14 (by decide)
  have z14 : w4.cell? ⟨w.heap.size + 1, 14, none⟩ = some (.int .i64 0) := cell_of_row w4 _ 14 _ _ _ HG
  have f14 : w4.frozen? ⟨w.heap.size + 1, 14, none⟩ = false := (HB4.out.frozen (p := ⟨w.heap.size + 1, 14, none⟩) (Nat.lt_succ_self _)).trans (by go_simp)
  have y15 := HY 15 (by decide)
  have z15 : w4.cell? ⟨w.heap.size + 1, 15, none⟩ = some (.int .i64 0) := cell_of_row w4 _ 15 _ _ _ HG
  have f15 : w4.frozen? ⟨w.heap.size + 1, 15, none⟩ = false := (HB4.out.frozen (p := ⟨w.heap.size + 1, 15, none⟩) (Nat.lt_succ_self _)).trans (by go_simp)
  clear HY hb4 hg4
  go_wp2
  refine bodyPost_ret (v := .agg (rowA f)) (results_cell_row Try.results33 _ _ (w.heap.size + 1) 50 (rowA f) (0, 0) _ rfl (blk16 w4 _ f _ HG) under_rows rfl rfl) rfl ?_
  refine ⟨rfl, ?_⟩
  repeat (refine Below.setCell ?_ (by dsimp only; omega) _)
  exact HBB.out.trans (HB4.out.mono (by omega))
end Go.Proofs.Ytkfonlejblcknaa
