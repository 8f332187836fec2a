/-
  Chapter 2: Without, in the model and in the program.
-/
import Derived.Test.YtlgddglhnnagpaaRes
import Derived.Test.YtlgddglhnnagpaaStrsOwn
namespace Go.Proofs.Ytlgddglhnnagpaa
open Go.ChangeShapes Go.WideShapes Go.ChangeAt Go.RowKit

/-- The strings of ss that are not among rs. -/
def wo (rs ss : List ByteArray) : List ByteArray := ss.filter fun x => !memB x rs
theorem wo_nil (rs : List ByteArray) : wo rs [] = [] := rfl
theorem wo_snoc (rs ss : List ByteArray) (x : ByteArray) : wo rs (ss ++ [x]) = wo rs ss ++ (if memB x rs = true then [] else [x]) := by
  unfold wo
  rw [List.filter_append]
  cases h : memB x rs <;> simp [h]
theorem wo_yes {rs ss : List ByteArray} {x : ByteArray} (h : memB x rs = true) : wo rs (ss ++ [x]) = wo rs ss := by rw [wo_snoc, if_pos h, List.append_nil]
theorem wo_no {rs ss : List ByteArray} {x : ByteArray} (h : memB x rs = false) : wo rs (ss ++ [x]) = wo rs ss ++ [x] := by rw [wo_snoc, if_neg (by rw [h]; decide)]
theorem wo_length (rs ss : List ByteArray) : (wo rs ss).length ≤ ss.length := List.length_filter_le _ _
theorem wo_self {rs ss : List ByteArray} (h : ∀ x ∈ ss, x ∈ rs) : wo rs ss = [] := by
  unfold wo
  rw [List.filter_eq_nil_iff]
  intro x hx
  rw [memB_yes (h x hx)]
  decide
theorem memB_take {ss : List ByteArray} {k : Nat} (hk : k < ss.length) : ss.take (k + 1) = ss.take k ++ [ss.getD k ByteArray.empty] := by
  rw [List.take_succ_eq_append_getElem hk, List.getD_eq_getElem?_getD, List.getElem?_eq_getElem hk]
  rfl

/-- What an append of one string does to the row. -/
theorem own_one {w' : World} {B : Nat} {v' : Value} {e : TypeId} {done : List ByteArray} {x : ByteArray} {l : List Value} (h : w'.ownsRow B e 1 v' (done.length + 1) (done.map Value.string ++ l)) (hl : l = [Value.string x]) :
    w'.ownsRow B e 1 v' (done ++ [x]).length ((done ++ [x]).map Value.string) := by
  rw [List.length_append, List.map_append]
  rw [hl] at h
  exact h

/-- The slice of a row of strings. -/
theorem own_split {w : World} {B : Nat} {v : Value} {e : TypeId} {done : List ByteArray} (h : w.ownsRow B e 1 v done.length (done.map Value.string)) :
    (v = .slice none 0 0 ∧ done = []) ∨ ∃ g cap, v = .slice (some ⟨g, 0, none⟩) done.length cap ∧ B ≤ g ∧ OwnStrs w g done := by
  rcases h.2 with ⟨h', hx⟩ | ⟨g, cap, cur, rfl, hB, hg, _⟩
  · refine Or.inl ⟨h', ?_⟩
    have := h.1
    cases done with
    | nil => rfl
    | cons a r => simp at hx
  · refine Or.inr ⟨g, cap, rfl, hB, (Array.getElem?_eq_some_iff.1 hg).1, fun k hk => ?_, fun k => h.frozenAt k⟩
    rw [h.cellAt k (by omega), List.getElem?_map, List.getD_eq_getElem?_getD, List.getElem?_eq_getElem hk]
    rfl

set_option maxHeartbeats 1600000 in
set_option maxRecDepth 100000 in
theorem spec_Without {B : Nat} {a a2 : Option Addr} {cap cap2 : Nat} (ss rs : List ByteArray) (hn : ss.length ≤ 1048576) (hr : rs.length ≤ 1048576) (w : World) (hB : B ≤ w.heap.size) (hs : Strs B w a ss) (hs2 : Strs B w a2 rs) :
    Calls Try.prog 45 #[.slice a ss.length cap, .slice a2 rs.length cap2] w fun e w' => ∃ g cap', e = .returned (.slice (some ⟨g, 0, none⟩) (wo rs ss).length cap') ∧ w.heap.size ≤ g ∧ OwnStrs w' g (wo rs ss) ∧ Below w.heap.size w w' := by
  have HS := Lib.hid hs
  have HS2 := Lib.hid hs2
  clear hs hs2
  obtain ⟨i0, hi, hz0, hz1, hz2⟩ := info_parts info_string
  have HO0 := Lib.hid (show (w.alloc (.cells #[] 9)).ownsRow w.heap.size 9 1 (.slice (some ⟨w.heap.size, 0, none⟩) 0 0) (wo rs (ss.take 0)).length ((wo rs (ss.take 0)).map Value.string) from World.ownsRow_made w #[] 0 (Nat.le_refl _) (Nat.zero_le _) rfl)
  go_enter Try.func45, Try.ntmps45
  go_wp2
  go_loopw [5, 6] (fun v i wr => ∃ k : Nat, k ≤ ss.length ∧ i = .int .i64 (k : Int) ∧ wr.ownsRow w.heap.size 9 1 v (wo rs (ss.take k)).length ((wo rs (ss.take k)).map Value.string) ∧ v ≠ .slice none 0 0 ∧ Below w.heap.size w wr) (fun _ i _ => ss.length - (RowKit.intOf i).toNat)
  case atStart => exact ⟨0, Nat.zero_le _, rfl, HO0.out, by simp, (Below.refl _ w).alloc (Nat.le_refl _) _⟩
  case round =>
    obtain ⟨k, hk, rfl, hown, hne, hbl⟩ := hrel
    have HO := Lib.hid hown
    have HNE := Lib.hid hne
    clear hown hne HO0
    by_cases hlt : k < ss.length
    · obtain ⟨b, off, rfl, hb, hsz, hc1⟩ := (HS.out.below (hbl.mono hB)).at k hlt
      have ht := Lib.hid (memB_take hlt)
      have hwl := wo_length rs (ss.take k)
      have hwl2 : (wo rs (ss.take k)).length ≤ 1048576 := by rw [List.length_take] at hwl; omega
      have HR2 := Lib.hid (HS2.out.below (hbl.mono hB))
      clear hwl
      generalize hv : ss.getD k ByteArray.empty = x at hsz hc1 ht
      have HV := Lib.hid hv
      clear hv
      cases hm : memB x rs
      · have hstep : Hid (wo rs (ss.take (k + 1)) = wo rs (ss.take k) ++ [x]) := by show _ = _; rw [ht.out, wo_no hm]
        have HM := Lib.hid hm
        clear hm
        go_wp2_with fail
        refine (spec_l1Has rs x (by omega) _ HR2.out).mono ?_
        rintro e w1 ⟨rfl, rfl⟩
        have hm := HM.out
        go_wp2_with (at_builtin; refine wpList_append_own _ rfl (.tmp 21) (.tmp 26) 24 rfl w.heap.size 9 i0 (.string ⟨#[]⟩) 1 16 Try.underlying24 hi hz0 hz1 hz2 rfl (by decide) _ _ _ rfl (HO.out.alloc _) ⟨wr.heap.size, 0, none⟩ 1 1 [.string x] rfl rfl (cell_one_new _ _ _) (by intro u hu; simp at hu; subst hu; rfl) (by unfold maxLen; omega) (by omega) (by simp; have := hbl.size; omega) ?_; intro v' w1 hown' hgrow hnil)
        have R1 := own_one hown' rfl
        rw [← hstep.out] at R1
        have R2 : v' ≠ .slice none 0 0 := fun h => absurd (hnil.1 h).2 (by decide)
        have R3 : Below w.heap.size w w1 := (hbl.alloc hbl.size _).grown hgrow (by simp; have := hbl.size; omega) (fun g hg => (HO.out.lt g hg).1)
        have R1' := Lib.hid R1
        have R2' := Lib.hid R2
        clear hown' hgrow hnil R1 R2 hm
        go_wp2
        go_roundw
        case rel => exact ⟨k + 1, by omega, by go_num, R1'.out, R2'.out, R3⟩
        case measure => simp [RowKit.intOf]; omega
      · have hstep : Hid (wo rs (ss.take (k + 1)) = wo rs (ss.take k)) := by show _ = _; rw [ht.out, wo_yes hm]
        have HM := Lib.hid hm
        clear hm
        go_wp2_with fail
        refine (spec_l1Has rs x (by omega) _ HR2.out).mono ?_
        rintro e w1 ⟨rfl, rfl⟩
        have hm := HM.out
        go_wp2
        go_roundw
        case rel => exact ⟨k + 1, by omega, by go_num, by rw [hstep.out]; exact HO.out, HNE.out, hbl⟩
        case measure => simp [RowKit.intOf]; omega
    · obtain rfl : k = ss.length := by omega
      go_wp2
      go_ret
      have ho := HO.out
      rw [List.take_length] at ho
      rcases own_split ho with ⟨h, _⟩ | ⟨g, cap', hv, hg, ho2⟩
      · exact absurd h HNE.out
      · exact ⟨g, cap', congrArg Ending.returned hv, hg, ho2, hbl⟩

/-- A slice of strings of the call's own, nil if there is none. -/
def OwnV (B : Nat) (w : World) (v : Value) (L : List ByteArray) : Prop :=
  (v = .slice none 0 0 ∧ L = []) ∨ ∃ g cap, v = .slice (some ⟨g, 0, none⟩) L.length cap ∧ B ≤ g ∧ OwnStrs w g L

set_option maxHeartbeats 3200000 in
set_option maxRecDepth 100000 in
theorem impl_Without {B : Nat} {a a2 : Option Addr} {cap cap2 : Nat} (ss rs : List ByteArray) (hn : ss.length ≤ 1048576) (hr : rs.length ≤ 1048576) (hzs : sumSize ss ≤ 1048576) (hzr : sumSize rs ≤ 1048576) (w : World) (hB : B ≤ w.heap.size) (hs : Strs B w a ss) (hs2 : Strs B w a2 rs) :
    Calls Try.prog 25 #[.slice a ss.length cap, .slice a2 rs.length cap2] w fun e w' => ∃ v, e = .returned v ∧ OwnV w.heap.size w' v (wo rs ss) ∧ Below w.heap.size w w' := by
  have HS := Lib.hid hs
  have HS2 := Lib.hid hs2
  clear hs hs2
  obtain ⟨i0, hi, hz0, hz1, hz2⟩ := info_parts info_string
  have hmm := @run_makeMap Try.prog
  have HM0 := Lib.hid (BoolSet.made (P := Try.prog) (k := 9) (e := 4) w)
  go_enter Try.func25, Try.ntmps25
  go_wp2
  go_loopw [14] (fun i wr => ∃ k : Nat, k ≤ rs.length ∧ i = .int .i64 (k : Int) ∧ BoolSet Try.prog 9 4 wr w.heap.size k (rs.take k).reverse ∧ Below w.heap.size w wr) (fun i _ => rs.length - (RowKit.intOf i).toNat)
  case atStart => exact ⟨0, Nat.zero_le _, rfl, HM0.out, (Below.refl _ w).alloc (Nat.le_refl _) _⟩
  case round =>
    obtain ⟨k, hk, rfl, hset, hbl⟩ := hrel
    clear HM0
    have HSET := Lib.hid hset
    clear hset
    by_cases hlt : k < rs.length
    · obtain ⟨b, off, rfl, hb, hsz, hc1⟩ := (HS2.out.below (hbl.mono hB)).at k hlt
      have ht := Lib.hid (memB_take hlt)
      have hxz : Hid ((rs.getD k ByteArray.empty).size ≤ 1048576) := by
        show _ ≤ _
        have h1 := sumSize_take rs k hlt
        have h2 := sumSize_take_le rs (k + 1)
        omega
      generalize hv : rs.getD k ByteArray.empty = x at hsz hc1 ht hxz
      have HV := Lib.hid hv
      clear hv
      go_wp2_with (at_mapUpdate; refine wpList_update_set _ rfl (.tmp 18) (.tmp 19) _ 53 rfl 9 4 Try.underlying9 Try.underlying4 Try.underlying53 w.heap.size _ _ rfl HSET.out (by unfold maxLen; omega) x rfl rfl (by have := hxz.out; unfold maxLen; omega) ?_; intro w1 hs1 hg1)
      have R1 : BoolSet Try.prog 9 4 w1 w.heap.size (k + 1) (rs.take (k + 1)).reverse := by rw [ht.out, List.reverse_append]; exact hs1
      have R2 := hbl.grown hg1 hbl.size (fun j hj => by cases hj; exact Nat.le_refl _)
      have R1' := Lib.hid R1
      clear hs1 hg1 R1
      go_wp2
      go_roundw
      case rel => exact ⟨k + 1, by omega, by go_num, R1'.out, R2⟩
      case measure => simp [RowKit.intOf]; omega
    · obtain rfl : k = rs.length := by omega
      have hset : BoolSet Try.prog 9 4 wr w.heap.size rs.length rs.reverse := by have := HSET.out; rwa [List.take_length] at this
      have HSET2 := Lib.hid hset
      clear hset HSET hlt hk
      go_wp2
      go_loopw [8, 23] (fun v i ws => ∃ k : Nat, k ≤ ss.length ∧ i = .int .i64 (k : Int) ∧ BoolSet Try.prog 9 4 ws w.heap.size rs.length rs.reverse ∧ ws.ownsRow (w.heap.size + 1) 9 1 v (wo rs (ss.take k)).length ((wo rs (ss.take k)).map Value.string) ∧ Below w.heap.size w ws ∧ w.heap.size + 1 ≤ ws.heap.size) (fun _ i _ => ss.length - (RowKit.intOf i).toNat)
      case atStart => exact ⟨0, Nat.zero_le _, rfl, HSET2.out, ⟨rfl, Or.inl ⟨rfl, rfl⟩⟩, hbl, by have := HSET2.out.lt; omega⟩
      case round =>
        clear hbl HSET2
        obtain ⟨k, hk, rfl, hset, hown, hbl, hsz1⟩ := hrel
        have HSET := Lib.hid hset
        have HO := Lib.hid hown
        clear hset hown
        by_cases hlt : k < ss.length
        · obtain ⟨b, off, rfl, hb, hsz, hc1⟩ := (HS.out.below (hbl.mono hB)).at k hlt
          have ht := Lib.hid (memB_take hlt)
          have hwl := wo_length rs (ss.take k)
          have hwl2 : (wo rs (ss.take k)).length ≤ 1048576 := by rw [List.length_take] at hwl; omega
          clear hwl
          have hxz : Hid ((ss.getD k ByteArray.empty).size ≤ 1048576) := by
            show _ ≤ _
            have h1 := sumSize_take ss k hlt
            have h2 := sumSize_take_le ss (k + 1)
            omega
          generalize hv : ss.getD k ByteArray.empty = x at hsz hc1 ht hxz
          have HV := Lib.hid hv
          clear hv
          cases hm : memB x rs
          · have hstep : Hid (wo rs (ss.take (k + 1)) = wo rs (ss.take k) ++ [x]) := by show _ = _; rw [ht.out, wo_no hm]
            have hm2 : memB x rs.reverse = false := by rw [memB_rev]; exact hm
            clear hm
            go_wp2_with (first | (at_lookup; refine wpList_lookup_set _ rfl (.tmp 27) (.tmp 28) 53 rfl 9 4 Try.underlying9 Try.underlying4 Try.underlying53 (zero_bool _) _ _ _ rfl HSET.out x rfl (by have := hxz.out; unfold maxLen; omega) ?_) | (at_builtin; refine wpList_append_own _ rfl (.tmp 31) (.tmp 33) 24 rfl (w.heap.size + 1) 9 i0 (.string ⟨#[]⟩) 1 16 Try.underlying24 hi hz0 hz1 hz2 rfl (by decide) _ _ _ rfl (HO.out.alloc _) ⟨wr.heap.size, 0, none⟩ 1 1 [.string x] rfl rfl (cell_one_new _ _ _) (by intro u hu; simp at hu; subst hu; rfl) (by unfold maxLen; omega) (by omega) (by simp; omega) ?_; intro v' w1 hown' hgrow hnil))
            have R1 := own_one hown' rfl
            rw [← hstep.out] at R1
            have R3 : Below w.heap.size w w1 := (hbl.alloc hbl.size _).grown hgrow (by simp; have := hbl.size; omega) (fun g hg => Nat.le_trans (Nat.le_succ _) (HO.out.lt g hg).1)
            have R4 : BoolSet Try.prog 9 4 w1 w.heap.size rs.length rs.reverse := (HSET.out.later ((Below.refl _ _).alloc (Nat.le_refl _) _)).kept hgrow (fun e => absurd (HO.out.lt _ e.symm).1 (by omega))
            have R5 : w.heap.size + 1 ≤ w1.heap.size := by have := hgrow.size; simp at this; omega
            have R1' := Lib.hid R1
            have R4' := Lib.hid R4
            clear hown' hgrow hnil R1 R4 hm2
            go_wp2
            go_roundw
            case rel => exact ⟨k + 1, by omega, by go_num, R4'.out, R1'.out, R3, R5⟩
            case measure => simp [RowKit.intOf]; omega
          · have hstep : Hid (wo rs (ss.take (k + 1)) = wo rs (ss.take k)) := by show _ = _; rw [ht.out, wo_yes hm]
            have hm2 : memB x rs.reverse = true := by rw [memB_rev]; exact hm
            clear hm
            go_wp2_with (at_lookup; refine wpList_lookup_set _ rfl (.tmp 27) (.tmp 28) 53 rfl 9 4 Try.underlying9 Try.underlying4 Try.underlying53 (zero_bool _) _ _ _ rfl HSET.out x rfl (by have := hxz.out; unfold maxLen; omega) ?_)
            go_roundw
            case rel => exact ⟨k + 1, by omega, by go_num, HSET.out, by rw [hstep.out]; exact HO.out, hbl, hsz1⟩
            case measure => simp [RowKit.intOf]; omega
        · obtain rfl : k = ss.length := by omega
          go_wp2
          go_ret
          have ho := HO.out
          rw [List.take_length] at ho
          refine ⟨_, rfl, ?_, hbl⟩
          rcases own_split ho with ⟨h, h'⟩ | ⟨g, cap', hv, hg, ho2⟩
          · exact Or.inl ⟨h, h'⟩
          · exact Or.inr ⟨g, cap', hv, by omega, ho2⟩

theorem wo_sum (rs ss : List ByteArray) : sumSize (wo rs ss) ≤ sumSize ss := by
  unfold sumSize wo
  induction ss with
  | nil => exact Nat.le_refl _
  | cons a r ih =>
    rw [List.filter_cons]
    split
    · rw [List.map_cons, List.map_cons, List.sum_cons, List.sum_cons]; omega
    · rw [List.map_cons, List.sum_cons]; omega
end Go.Proofs.Ytlgddglhnnagpaa
