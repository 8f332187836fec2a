/-
  OccurrenceIndex, in the model and in the program.
-/
import Derived.Test.YtnmepemmpeboeaaGreatZz4
import Derived.Test.YtnmepemmpeboeaaGreatZz2
import Derived.Test.YtnmepemmpeboeaaGreatZz6
import Derived.Lib.Strings
import Derived.Laws.AppendOwn
namespace Go.Proofs.YtnmepemmpeboeaaGreat
open Go.ChangeShapes Go.WideShapes Go.ChangeAt Go.RowKit Go.Deep

theorem toList_injO {x y : ByteArray} (h : x.toList = y.toList) : x = y := by
  rw [Lib.toList_data, Lib.toList_data] at h
  cases x; cases y
  simp only at h
  rw [ByteArray.mk.injEq]
  exact Array.toList_inj.1 h

def POccurrence (x y : DOccurrence) : Bool := y.fPos == x.fPos && y.fName.toList == x.fName.toList
theorem POccurrence_yes {x y : DOccurrence} (h1 : y.fPos = x.fPos) (h2 : y.fName = x.fName) : POccurrence x y = true := by unfold POccurrence; rw [h1, h2]; simp
theorem POccurrence_no1 {x y : DOccurrence} (h1 : y.fPos ≠ x.fPos) : POccurrence x y = false := by unfold POccurrence; simp [h1]
theorem POccurrence_no2 {x y : DOccurrence} (h1 : y.fName ≠ x.fName) : POccurrence x y = false := by
  unfold POccurrence
  rw [show (y.fName.toList == x.fName.toList) = false from beq_eq_false_iff_ne.2 (fun e => h1 (toList_injO e)), Bool.and_false]
def indexOccurrence (l : List DOccurrence) (x : DOccurrence) : Int := idxI (POccurrence x) l

set_option maxHeartbeats 1600000 in
set_option maxRecDepth 100000 in
theorem spec_OccurrenceIndex {lo hi : Nat} {a0 : Option Addr} {c0_0 : Nat} (l : List DOccurrence) (hn : l.length ≤ 1048576) (x : DOccurrence) (w : World) (hhi : hi ≤ w.heap.size) (hs : Sl lo hi w 2 l.length (fun k => DOccurrence.ct (l.getD k default)) a0) :
    Calls Tryz.prog 27 #[.slice a0 l.length c0_0, .agg #[.int .i64 x.fPos, .string x.fName]] w fun e w' => e = .returned (.int .i64 (indexOccurrence l x)) ∧ Below w.heap.size w w' := by
  have HB := Lib.hid ((Below.refl w.heap.size w).alloc (Nat.le_refl _) (.cells #[.int .i64 x.fPos, .string x.fName] 68))
  have HS := Lib.hid (hs.later HB.out hhi)
  clear hs
  go_enter Tryz.func27, Tryz.ntmps27
  go_wp2
  go_loopw [5] (fun i wr => ∃ k : Nat, k ≤ l.length ∧ i = .int .i64 (k : Int) ∧ noneBelow (POccurrence x) l k ∧ ∃ n, wr = (w.alloc (.cells #[.int .i64 x.fPos, .string x.fName] 68)).drewN n) (fun i _ => l.length - (intOf i).toNat)
  case atStart => exact ⟨0, Nat.zero_le _, rfl, noneBelow_zero _ _, 0, rfl⟩
  case round =>
    obtain ⟨k, hk, rfl, hno, nd, rfl⟩ := hrel
    have HN := Lib.hid hno
    clear hno
    by_cases hlt : k < l.length
    · obtain ⟨b, off, rfl, _, _, hc⟩ := HS.out.at k hlt
      obtain ⟨hc0, hc1⟩ := DOccurrence.open hc
      clear hc
      by_cases h1 : (l.getD k default).fPos = x.fPos
      · by_cases h2 : (l.getD k default).fName = x.fName
        · have fin := Lib.hid (idxI_at (p := POccurrence x) hlt (POccurrence_yes h1 h2) HN.out)
          rw [h1] at hc0
          rw [h2] at hc1
          clear h1 h2
          go_wp2
          go_quiet (fail)
          go_wp2
          go_ret
          exact ⟨ret_i (by unfold indexOccurrence; rw [fin.out]), below_drewN (below_drewN HB.out _) _⟩
        · have HN2 := Lib.hid (noneBelow_succ HN.out (k := k) (POccurrence_no2 h2))
          rw [h1] at hc0
          have e2 : ((l.getD k default).fName.toList == x.fName.toList) = false := beq_eq_false_iff_ne.2 (fun e => h2 (toList_injO e))
          have e3 : (x.fName.toList == (l.getD k default).fName.toList) = false := beq_eq_false_iff_ne.2 (fun e => h2 (toList_injO e).symm)
          clear h1 h2
          generalize (l.getD k default).fName = q at *
          go_wp2
          go_quiet (fail)
          go_wp2
          go_roundw
          case rel => exact ⟨k + 1, by omega, by go_num, HN2.out, _, rfl⟩
          case measure => simp [intOf]; omega
      · have HN2 := Lib.hid (noneBelow_succ HN.out (k := k) (POccurrence_no1 h1))
        have e2 : ((l.getD k default).fPos == x.fPos) = false := beq_eq_false_iff_ne.2 h1
        have e3 : (x.fPos == (l.getD k default).fPos) = false := beq_eq_false_iff_ne.2 (Ne.symm h1)
        clear h1
        generalize (l.getD k default).fPos = z at *
        generalize (l.getD k default).fName = q at *
        go_wp2
        go_quiet (fail)
        go_wp2
        go_roundw
        case rel => exact ⟨k + 1, by omega, by go_num, HN2.out, _, rfl⟩
        case measure => simp [intOf]; omega
    · obtain rfl : k = l.length := by omega
      have fin := Lib.hid (idxI_none (p := POccurrence x) HN.out)
      go_wp2
      go_ret
      exact ⟨ret_i (by unfold indexOccurrence; rw [fin.out]), below_drewN HB.out _⟩

/-- The indices below k at which the test holds. -/
def idsOf {α : Type} [Inhabited α] (p : α → Bool) (l : List α) (k : Nat) : List Int := ((List.range k).filter fun i => p (l.getD i default)).map fun (i : Nat) => (i : Int)
theorem idsOf_yes {α : Type} [Inhabited α] {p : α → Bool} {l : List α} {k : Nat} (h : p (l.getD k default) = true) : idsOf p l (k + 1) = idsOf p l k ++ [(k : Int)] := by
  unfold idsOf
  have e : List.filter (fun i => p (l.getD i default)) [k] = [k] := by simp only [List.filter, h]
  rw [List.range_succ, List.filter_append, List.map_append, e]; rfl
theorem idsOf_no {α : Type} [Inhabited α] {p : α → Bool} {l : List α} {k : Nat} (h : p (l.getD k default) = false) : idsOf p l (k + 1) = idsOf p l k := by
  unfold idsOf
  have e : List.filter (fun i => p (l.getD i default)) [k] = [] := by simp only [List.filter, h]
  rw [List.range_succ, List.filter_append, List.map_append, e]; exact List.append_nil _
theorem idsOf_len {α : Type} [Inhabited α] (p : α → Bool) (l : List α) (k : Nat) : (idsOf p l k).length ≤ k := by
  unfold idsOf
  rw [List.length_map]
  exact Nat.le_trans (List.length_filter_le _ _) (by simp)
/-- The first of them is the first index. -/
theorem idsOf_first {α : Type} [Inhabited α] (p : α → Bool) (l : List α) : ∀ k, (∃ m : Nat, m < k ∧ p (l.getD m default) = true ∧ noneBelow p l m ∧ (idsOf p l k).getD 0 default = (m : Int) ∧ 0 < (idsOf p l k).length) ∨ (noneBelow p l k ∧ idsOf p l k = [])
  | 0 => Or.inr ⟨noneBelow_zero p l, rfl⟩
  | k + 1 => by
    rcases idsOf_first p l k with ⟨m, hm, hp, hn, hg, hl⟩ | ⟨hn, he⟩
    · refine Or.inl ⟨m, by omega, hp, hn, ?_, ?_⟩
      · cases hk : p (l.getD k default)
        · rw [idsOf_no hk]; exact hg
        · rw [idsOf_yes hk, List.getD_eq_getElem?_getD, List.getElem?_append_left hl, ← List.getD_eq_getElem?_getD]; exact hg
      · cases hk : p (l.getD k default)
        · rw [idsOf_no hk]; exact hl
        · rw [idsOf_yes hk, List.length_append]; omega
    · cases hk : p (l.getD k default)
      · exact Or.inr ⟨noneBelow_succ hn hk, by rw [idsOf_no hk]; exact he⟩
      · refine Or.inl ⟨k, Nat.lt_succ_self _, hk, hn, ?_, ?_⟩
        · rw [idsOf_yes hk, he]; rfl
        · rw [idsOf_yes hk, he]; exact Nat.zero_lt_one
theorem cell_one_new {w : World} {v : Value} {t : TypeId} : ∀ (j : Nat) (u : Value), [v][j]? = some u → (w.alloc (.cells #[v] t)).cell? ((⟨w.heap.size, 0, none⟩ : Addr).add j) = some u := by
  intro j u hu
  match j with
  | 0 =>
    simp at hu
    subst hu
    show (w.alloc _).cell? ⟨w.heap.size, 0, none⟩ = _
    rw [World.cell?_alloc_new]; rfl
  | j + 1 => simp at hu

set_option maxHeartbeats 1600000 in
set_option maxRecDepth 100000 in
theorem impl_OccurrenceIndex1 {b : Nat} (y x : DOccurrence) (v : Bool) (hv : POccurrence x y = v) (w : World) (hc0 : w.cell? ⟨b, 0, none⟩ = some (.int .i64 x.fPos)) (hc1 : w.cell? ⟨b, 1, none⟩ = some (.string x.fName)) (hb : b < w.heap.size) :
    Calls Tryz.prog 76 #[.agg #[.int .i64 y.fPos, .string y.fName], .pointer (some ⟨b, 0, none⟩)] w fun e w' => e = .returned (.bool v) ∧ Below w.heap.size w w' := by
  have HB := Lib.hid ((Below.refl w.heap.size w).alloc (Nat.le_refl _) (.cells #[.int .i64 y.fPos, .string y.fName] 68))
  have hd0 := (HB.out.cell (p := ⟨b, 0, none⟩) hb).trans hc0
  have hd1 := (HB.out.cell (p := ⟨b, 1, none⟩) hb).trans hc1
  clear hc0 hc1
  subst hv
  by_cases h1 : y.fPos = x.fPos
  · by_cases h2 : y.fName = x.fName
    · have fin := Lib.hid (POccurrence_yes h1 h2)
      rw [← h1] at hd0
      rw [← h2] at hd1
      clear h1 h2
      go_enter Tryz.func76, Tryz.ntmps76
      go_wp2
      go_ret
      exact ⟨ret_b fin.out.symm, HB.out⟩
    · have fin := Lib.hid (POccurrence_no2 h2)
      rw [← h1] at hd0
      have e2 : (y.fName.toList == x.fName.toList) = false := beq_eq_false_iff_ne.2 (fun e => h2 (toList_injO e))
      clear h1 h2
      go_enter Tryz.func76, Tryz.ntmps76
      go_wp2
      go_ret
      exact ⟨ret_b fin.out.symm, HB.out⟩
  · have fin := Lib.hid (POccurrence_no1 h1)
    have e2 : (y.fPos == x.fPos) = false := beq_eq_false_iff_ne.2 h1
    clear h1
    go_enter Tryz.func76, Tryz.ntmps76
    go_wp2
    go_ret
    exact ⟨ret_b fin.out.symm, HB.out⟩

set_option maxHeartbeats 1600000 in
set_option maxRecDepth 100000 in
theorem indicesWhere_Occ {lo hi b cap : Nat} {a0 : Option Addr} (l : List DOccurrence) (hn : l.length ≤ 1048576) (x : DOccurrence) (w : World) (hhi : hi ≤ w.heap.size) (hs : Sl lo hi w 2 l.length (fun k => DOccurrence.ct (l.getD k default)) a0) (hc0 : w.cell? ⟨b, 0, none⟩ = some (.int .i64 x.fPos)) (hc1 : w.cell? ⟨b, 1, none⟩ = some (.string x.fName)) (hb : b < w.heap.size) :
    Calls Tryz.prog 75 #[.slice a0 l.length cap, .func (.func 76) #[] #[.pointer (some ⟨b, 0, none⟩)]] w fun e w' => ∃ v, e = .returned v ∧ w'.ownsRow w.heap.size 3 1 v (idsOf (POccurrence x) l l.length).length ((idsOf (POccurrence x) l l.length).map (Value.int .i64)) ∧ Below w.heap.size w w' := by
  have HS := Lib.hid hs
  have HC0 := Lib.hid hc0
  have HC1 := Lib.hid hc1
  clear hs hc0 hc1
  obtain ⟨i0, hi', hz0, hz1, hz2⟩ := info_parts info_Int
  have HO0 := Lib.hid (show w.ownsRow w.heap.size 3 1 (.slice none 0 0) (idsOf (POccurrence x) l 0).length ((idsOf (POccurrence x) l 0).map (Value.int .i64)) from World.ownsRow_nil _ _ _ _)
  go_enter Tryz.func75, Tryz.ntmps75
  go_wp2
  go_loopw [5, 10] (fun v i wr => ∃ k : Nat, k ≤ l.length ∧ i = .int .i64 (k : Int) ∧ wr.ownsRow w.heap.size 3 1 v (idsOf (POccurrence x) l k).length ((idsOf (POccurrence x) l k).map (Value.int .i64)) ∧ Below w.heap.size w wr) (fun _ i _ => l.length - (intOf i).toNat)
  case atStart => exact ⟨0, Nat.zero_le _, rfl, HO0.out, Below.refl _ _⟩
  case round =>
    obtain ⟨k, hk, rfl, hown, hbl⟩ := hrel
    have HO := Lib.hid hown
    have HB := Lib.hid hbl
    clear hown
    by_cases hlt : k < l.length
    · obtain ⟨b1, off, rfl, _, _, hc⟩ := (HS.out.later (hbl.mono hhi) (Nat.le_refl _)).at k hlt
      obtain ⟨hc0, hc1⟩ := DOccurrence.open hc
      have hwx : Below wr.heap.size wr (wr.alloc (.cells #[.int .i64 (l.getD k default).fPos, .string (l.getD k default).fName] 68)) := (Below.refl _ _).alloc (Nat.le_refl _) _
      have hbw := hbl.trans (hwx.mono hbl.size)
      have hcl := fun v hv => impl_OccurrenceIndex1 (l.getD k default) x v hv (wr.alloc (.cells #[.int .i64 (l.getD k default).fPos, .string (l.getD k default).fName] 68)) ((hbw.cell (p := ⟨b, 0, none⟩) hb).trans HC0.out) ((hbw.cell (p := ⟨b, 1, none⟩) hb).trans HC1.out) (Nat.lt_of_lt_of_le hb hbw.size)
      have HBX := Lib.hid hbw
      have HRX := Lib.hid (ownsRow_below HO.out hwx)
      have hlen := idsOf_len (POccurrence x) l k
      have hsw : w.heap.size ≤ wr.heap.size := hbl.size
      clear hc hbl hwx hbw
      by_cases he : POccurrence x (l.getD k default) = true
      · have HST := Lib.hid (idsOf_yes he)
        have HCL := Lib.hid (hcl true he)
        clear he hcl
        generalize l.getD k default = y at *
        go_wp2_with fail
        refine HCL.out.mono ?_
        rintro e w1 ⟨rfl, hb1⟩
        have HR1 := Lib.hid (ownsRow_below HRX.out hb1)
        have hs1 : w.heap.size ≤ w1.heap.size := (HBX.out.trans (hb1.mono HBX.out.size)).size
        have HB1 := Lib.hid (HBX.out.trans (hb1.mono HBX.out.size))
        clear hb1
        go_wp2_with (at_builtin; refine wpList_append_own _ rfl (.tmp 18) (.tmp 20) 33 rfl w.heap.size 3 i0 (.int .i64 0) 1 8 Tryz.underlying33 hi' hz0 hz1 hz2 rfl (by decide) _ _ _ rfl (HR1.out.alloc _) ⟨w1.heap.size, 0, none⟩ 1 1 [.int .i64 (k : Int)] rfl rfl cell_one_new (by intro u hu; simp at hu; subst hu; rfl) (by unfold maxLen; omega) (by omega) (by simp; omega) ?_; intro v' w2 hown' hgrow hnil)
        have R1 : w2.ownsRow w.heap.size 3 1 v' (idsOf (POccurrence x) l (k + 1)).length ((idsOf (POccurrence x) l (k + 1)).map (Value.int .i64)) := by
          rw [HST.out, List.length_append, List.map_append]
          exact hown'
        have R3 : Below w.heap.size w w2 := (HB1.out.alloc hs1 _).grown hgrow (by simp; omega) (fun g hg => (HR1.out.lt g hg).1)
        have R1' := Lib.hid R1
        clear hown' hgrow hnil R1
        go_wp2
        go_roundw
        case rel => exact ⟨k + 1, by omega, by go_num, R1'.out, R3⟩
        case measure => simp [intOf]; omega
      · have he' : POccurrence x (l.getD k default) = false := by simpa using he
        have HST := Lib.hid (idsOf_no he')
        have HCL := Lib.hid (hcl false he')
        clear he he' hcl
        generalize l.getD k default = y at *
        go_wp2_with fail
        refine HCL.out.mono ?_
        rintro e w1 ⟨rfl, hb1⟩
        have HR1 := Lib.hid (ownsRow_below HRX.out hb1)
        have HB1 := Lib.hid (HBX.out.trans (hb1.mono HBX.out.size))
        clear hb1
        go_wp2
        go_roundw
        case rel => exact ⟨k + 1, by omega, by go_num, by rw [HST.out]; exact HR1.out, HB1.out⟩
        case measure => simp [intOf]; omega
    · obtain rfl : k = l.length := by omega
      go_wp2
      go_ret
      exact ⟨_, rfl, HO.out, HB.out⟩

set_option maxHeartbeats 1600000 in
set_option maxRecDepth 100000 in
theorem impl_OccurrenceIndex {lo hi : Nat} {a0 : Option Addr} {c0_0 : Nat} (l : List DOccurrence) (hn : l.length ≤ 1048576) (x : DOccurrence) (w : World) (hhi : hi ≤ w.heap.size) (hs : Sl lo hi w 2 l.length (fun k => DOccurrence.ct (l.getD k default)) a0) :
    Calls Tryz.prog 38 #[.slice a0 l.length c0_0, .agg #[.int .i64 x.fPos, .string x.fName]] w fun e w' => e = .returned (.int .i64 (indexOccurrence l x)) ∧ Below w.heap.size w w' := by
  have HB := Lib.hid ((Below.refl w.heap.size w).alloc (Nat.le_refl _) (.cells #[.int .i64 x.fPos, .string x.fName] 68))
  have HI := Lib.hid (indicesWhere_Occ (b := w.heap.size) (cap := c0_0) l hn x _ (Nat.le_trans hhi HB.out.size) (hs.later HB.out hhi) (by rw [World.cell?_alloc_new]; rfl) (by rw [World.cell?_alloc_new]; rfl) (by simp))
  clear hs
  have hlen := idsOf_len (POccurrence x) l l.length
  rcases idsOf_first (POccurrence x) l l.length with ⟨m, hm, hp, hnb, hg, hl⟩ | ⟨hnb, he⟩
  · have fin := Lib.hid (idxI_at hm hp hnb)
    have HG := Lib.hid hg
    clear hnb hp hg
    go_enter Tryz.func38, Tryz.ntmps38
    go_wp2_with fail
    refine HI.out.mono ?_
    rintro e w1 ⟨v, rfl, hown, hb1⟩
    have HB1 := Lib.hid (HB.out.trans (hb1.mono HB.out.size))
    clear hb1
    obtain ⟨g, cap, cur, rfl, hcell⟩ : ∃ g cap cur, v = .slice (some ⟨g, 0, none⟩) (idsOf (POccurrence x) l l.length).length cap ∧ w1.cell? ⟨g, 0, none⟩ = some (.int .i64 (m : Int)) ∧ cur = 0 := by
      rcases hown.2 with ⟨_, h0⟩ | ⟨g, cap, cur, rfl, _⟩
      · omega
      · refine ⟨g, cap, 0, rfl, ?_, rfl⟩
        rw [hown.cellAt 0 (by omega), List.getElem?_map]
        have h2 := HG.out
        rw [List.getD_eq_getElem?_getD, List.getElem?_eq_getElem hl] at h2
        rw [List.getElem?_eq_getElem hl]
        simp only [Option.getD_some] at h2
        rw [h2]; rfl
    have hcell' := hcell.1
    have hl0 : (((idsOf (POccurrence x) l l.length).length : Int) == 0) = false := beq_eq_false_iff_ne.2 (by omega)
    have hl1 : 0 < (idsOf (POccurrence x) l l.length).length := hl
    clear hown hcell hl
    generalize (idsOf (POccurrence x) l l.length).length = q at *
    go_wp2
    go_ret
    exact ⟨ret_i (by unfold indexOccurrence; rw [fin.out]), HB1.out⟩
  · have fin := Lib.hid (idxI_none hnb)
    have HE := Lib.hid he
    clear hnb he
    go_enter Tryz.func38, Tryz.ntmps38
    go_wp2_with fail
    refine HI.out.mono ?_
    rintro e w1 ⟨v, rfl, hown, hb1⟩
    have HB1 := Lib.hid (HB.out.trans (hb1.mono HB.out.size))
    clear hb1
    rw [HE.out] at hown
    obtain ⟨a, cap, rfl⟩ : ∃ a cap, v = .slice a 0 cap := by
      rcases hown.2 with ⟨rfl, _⟩ | ⟨g, cap, cur, rfl, _⟩
      · exact ⟨none, 0, rfl⟩
      · exact ⟨_, cap, rfl⟩
    clear hown
    go_wp2
    go_ret
    exact ⟨ret_i (by unfold indexOccurrence; rw [fin.out]), HB1.out⟩
end Go.Proofs.YtnmepemmpeboeaaGreat
