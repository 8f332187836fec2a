/-
  Chapter 2 in the model: SortNames, by insertion.
-/
import Derived.Test.YtlgddglhnnagpaaSrt
import Derived.Test.YtlgddglhnnagpaaWith
import Derived.Deep.RegionLaw
import Derived.Deep.AppendLies
import Derived.Deep.QuietTactic
import Derived.BigQuiet
namespace Go.Proofs.Ytlgddglhnnagpaa
open Go.ChangeShapes Go.WideShapes Go.ChangeAt Go.RowKit

theorem step_append_own {P : Program} (w : World) {ops : Array Oper} {o : Oper} {a : Act} {K : Act → World → Prop} {Q : Exit → Act → World → Prop} {E : Prop} (hgd : o.guard = none) (s x : Operand) (t : TypeId)
    (ho : o.op = .call { callee := .builtin .append, args := #[s, x], argTypes := #[t, t] })
    (base : Nat) (e : TypeId) (i : TypeInfo) (z : Value) (size bytes : Nat) (ht : P.underlying t = some (.slice e)) (hi : P.info? e = some i) (hz : i.zero = some z)
    (hsize : i.size = size) (hby : i.bytes = bytes) (hzs : z.cells.size = size) (hsz : 0 < size)
    (v : Value) (n : Nat) (xs : List Value) (hs : a.eval s = v) (hown : w.ownsRow base e size v n xs)
    (ad : Addr) (m c : Nat) (news : List Value) (hx : a.eval x = .slice (some ad) m c) (hl : news.length = m * size) (hnews : ∀ j u, news[j]? = some u → w.cell? (ad.add j) = some u) (h1 : ∀ u ∈ news, u.oneCell' = true)
    (h63 : n + m ≤ maxLen) (hbytes : (n + m) * bytes ≤ 140737488355328) (hbase : base ≤ w.heap.size)
    (h : ∀ v' w', w'.ownsRow base e size v' (n + m) (xs ++ news) → w.grownBy w' v.ownBlock → (v' = .slice none 0 0 ↔ v = .slice none 0 0 ∧ m = 0) → K (a.put o.dst v') w') :
    if Region.wanted o (yielded ops a.tmps) = true then Oper.wp P o a w K Q else E := by
  have hw : Region.wanted o (yielded ops a.tmps) = true := by simp [Region.wanted, hgd]
  rw [if_pos hw]
  exact wp_append_own w s x t ho base e i z size bytes ht hi hz hsize hby hzs hsz v n xs hs hown ad m c news hx hl hnews h1 h63 hbytes hbase h

theorem less_iff {a b : ByteArray} : Op.bytesLess a.toList b.toList = true ↔ bl a < bl b := by
  rw [Go.Proofs.bytesLess_eq, decide_eq_true_eq, Lib.toList_data, Lib.toList_data]; rfl
theorem getD_at {L : List ByteArray} {j : Nat} (h : j < L.length) : L.getD j ByteArray.empty = L[j] := by
  rw [List.getD_eq_getElem?_getD, List.getElem?_eq_getElem h]; rfl
/-- x, put before element number t. -/
def ins (L : List ByteArray) (t : Nat) (x : ByteArray) : List ByteArray := L.take t ++ [x] ++ L.drop t
theorem ins_length {L : List ByteArray} {t : Nat} (x : ByteArray) (h : t ≤ L.length) : (ins L t x).length = L.length + 1 := by
  unfold ins; rw [List.length_append, List.length_append, List.length_take, List.length_drop, List.length_singleton]; omega
theorem mem_ins {L : List ByteArray} {t : Nat} {x y : ByteArray} : y ∈ ins L t x ↔ y = x ∨ y ∈ L := by
  unfold ins
  rw [List.mem_append, List.mem_append, List.mem_singleton]
  have h : y ∈ L ↔ y ∈ L.take t ∨ y ∈ L.drop t := by rw [← List.mem_append, List.take_append_drop]
  rw [h]
  constructor
  · rintro ((h | h) | h)
    · exact Or.inr (Or.inl h)
    · exact Or.inl h
    · exact Or.inr (Or.inr h)
  · rintro (h | h | h)
    · exact Or.inl (Or.inr h)
    · exact Or.inl (Or.inl h)
    · exact Or.inr h
theorem ins_asc {L : List ByteArray} {t : Nat} {x : ByteArray} (h : AscB L) (h1 : ∀ j, j < t → bl (L.getD j ByteArray.empty) < bl x) (ht : t ≤ L.length) (h2 : t < L.length → bl x < bl (L.getD t ByteArray.empty)) : AscB (ins L t x) := by
  unfold AscB Asc ins at *
  rw [List.pairwise_map] at *
  have hp := List.pairwise_iff_getElem.1 h
  rw [List.append_assoc, List.pairwise_append]
  refine ⟨h.sublist (List.take_sublist _ _), ?_, fun a ha b hb => ?_⟩
  · rw [List.singleton_append, List.pairwise_cons]
    refine ⟨fun b hb => ?_, h.sublist (List.drop_sublist _ _)⟩
    obtain ⟨j, hj, rfl⟩ := List.mem_iff_getElem.1 hb
    rw [List.length_drop] at hj
    rw [List.getElem_drop]
    have h3 := h2 (by omega)
    rw [getD_at (by omega)] at h3
    by_cases e : j = 0
    · subst e; exact h3
    · exact List.lt_trans h3 (hp t (t + j) (by omega) (by omega) (by omega))
  · obtain ⟨i, hi, rfl⟩ := List.mem_iff_getElem.1 ha
    rw [List.length_take] at hi
    rw [List.getElem_take]
    have h4 := h1 i (by omega)
    rw [getD_at (by omega)] at h4
    rcases List.mem_append.1 hb with hb | hb
    · rw [List.mem_singleton] at hb; rw [hb]; exact h4
    · obtain ⟨j, hj, rfl⟩ := List.mem_iff_getElem.1 hb
      rw [List.length_drop] at hj
      rw [List.getElem_drop]
      exact hp i (t + j) (by omega) (by omega) (by omega)
theorem not_less {a b : ByteArray} (h : Op.bytesLess a.toList b.toList = false) (hn : a ≠ b) : bl b < bl a := by
  have h1 : ¬ bl a < bl b := fun h' => by rw [less_iff.2 h'] at h; cases h
  rcases List.le_iff_lt_or_eq.1 (List.not_lt.1 h1) with h2 | h2
  · exact h2
  · exact absurd (bl_inj h2).symm hn
theorem asc_length {L M : List ByteArray} (h : AscB L) (hm : ∀ y, y ∈ L ↔ y ∈ M) : L.length ≤ M.length :=
  (asc_nodup h).length_le_of_subset fun y hy => (hm y).1 hy

/-- A row cut short. -/
theorem own_take {w : World} {B g cap : Nat} {e : TypeId} {L : List ByteArray} (h : w.ownsRow B e 1 (.slice (some ⟨g, 0, none⟩) L.length cap) L.length (L.map Value.string)) (t : Nat) (ht : t ≤ L.length) :
    w.ownsRow B e 1 (.slice (some ⟨g, 0, none⟩) t cap) t ((L.take t).map Value.string) := by
  rcases h.2 with ⟨h', _⟩ | ⟨g', cap', cur, hv, hB, hg, h1, h2, h3, h4⟩
  · cases h'
  · injection hv with e1 e2 e3
    injection e1 with e1
    injection e1 with e1
    subst e1
    subst e3
    refine ⟨by rw [List.length_map, List.length_take]; omega, Or.inr ⟨g, cap, cur, rfl, hB, hg, by omega, h2, h3, ?_⟩⟩
    have := congrArg (List.take t) h4
    rw [List.take_take, Nat.mul_one, Nat.min_eq_left ht, ← List.map_take] at this
    rw [Nat.mul_one]
    exact this

set_option maxHeartbeats 3200000 in
set_option maxRecDepth 100000 in
theorem spec_SortNames {B : Nat} {a : Option Addr} {cap : Nat} (ss : List ByteArray) (hn : ss.length ≤ 1048576) (w : World) (hB : B ≤ w.heap.size) (hs : Strs B w a ss) :
    Calls Try.prog 42 #[.slice a ss.length cap] w fun e w' => ∃ g cap', e = .returned (.slice (some ⟨g, 0, none⟩) (srt ss).length cap') ∧ w.heap.size ≤ g ∧ OwnStrs w' g (srt ss) ∧ Below w.heap.size w w' := by
  have HS := Lib.hid hs
  clear hs
  obtain ⟨i0, hi, hz0, hz1, hz2⟩ := info_parts info_string
  have HO0 := Lib.hid (show (w.alloc (.cells #[] 9)).ownsRow w.heap.size 9 1 (.slice (some ⟨w.heap.size, 0, none⟩) 0 0) ([] : List ByteArray).length (([] : List ByteArray).map Value.string) from World.ownsRow_made w #[] 0 (Nat.le_refl _) (Nat.zero_le _) rfl)
  go_enter Try.func42, Try.ntmps42
  go_wp2
  go_loopw [3, 4] (fun v i wr => ∃ (k : Nat) (L : List ByteArray), k ≤ ss.length ∧ i = .int .i64 (k : Int) ∧ wr.ownsRow w.heap.size 9 1 v L.length (L.map Value.string) ∧ v ≠ .slice none 0 0 ∧ AscB L ∧ (∀ y, y ∈ L ↔ y ∈ ss.take k) ∧ Below w.heap.size w wr) (fun _ i _ => ss.length - (RowKit.intOf i).toNat)
  case atStart => exact ⟨0, [], Nat.zero_le _, rfl, HO0.out, by simp, List.Pairwise.nil, by simp, (Below.refl _ w).alloc (Nat.le_refl _) _⟩
  case round =>
    clear HO0
    obtain ⟨k, L, hk, rfl, hown, hne, hasc, hmem, hbl⟩ := hrel
    have hlen : L.length ≤ 1048576 := by have := asc_length hasc hmem; rw [List.length_take] at this; omega
    have HA := Lib.hid hasc
    have HM := Lib.hid hmem
    have HB := Lib.hid hbl
    have hsz : w.heap.size ≤ wr.heap.size := hbl.size
    rcases hown.2 with ⟨h, _⟩ | ⟨g, capo, cur, rfl, hg, hblk, hc1, hc2, hc3, hc4⟩
    · exact absurd h hne
    have hgl : g < wr.heap.size := (Array.getElem?_eq_some_iff.1 hblk).1
    have HO := Lib.hid hown
    clear hown hne hasc hmem hblk hc3 hc4 cur
    by_cases hlt : k < ss.length
    · obtain ⟨b, off, rfl, hb, hxsz, hx⟩ := (HS.out.below (hbl.mono hB)).at k hlt
      have ht := Lib.hid (memB_take hlt)
      clear hbl
      generalize hv : ss.getD k ByteArray.empty = x at hxsz hx ht
      have HV := Lib.hid hv
      clear hv
      go_wp2
      go_loopw [5] (fun t wi => ∃ j : Nat, j ≤ L.length ∧ t = .int .i64 (j : Int) ∧ (∀ i, i < j → bl (L.getD i ByteArray.empty) < bl x) ∧ ∃ n, wi = wr.drewN n) (fun t _ => L.length - (RowKit.intOf t).toNat)
      case atStart => exact ⟨0, Nat.zero_le _, rfl, fun i hi => absurd hi (Nat.not_lt_zero _), 0, rfl⟩
      case round =>
        obtain ⟨j, hj, rfl, hlow, n, rfl⟩ := hrel
        have HLOW := Lib.hid hlow
        clear hlow
        by_cases hjl : j < L.length
        · have hcell := HO.out.cellAt j (by omega)
          rw [List.getElem?_map, List.getElem?_eq_getElem hjl] at hcell
          have hg2 := Lib.hid (getD_at hjl)
          have hjI : (j : Int) < (L.length : Int) := by omega
          have hcell2 : wr.cell? ⟨g, j, none⟩ = some (.string (L.getD j ByteArray.empty)) := by rw [hg2.out]; exact hcell
          clear hcell
          generalize hq : L.getD j ByteArray.empty = q at hcell2 hg2
          have HQ := Lib.hid hq
          clear hq
          cases hless : Op.bytesLess q.toList x.toList
          · by_cases hqx : q = x
            · subst hqx
              have t1 : (q.toList == q.toList) = true := beq_self_eq_true _
              have hin : Hid (∀ y, y ∈ L ↔ y ∈ ss.take (k + 1)) := fun y => by
                rw [ht.out, List.mem_append, List.mem_singleton, HM.out y]
                exact ⟨Or.inl, fun h => h.elim id fun e => by rw [e, ← HM.out, ← HQ.out, getD_at hjl]; exact List.getElem_mem hjl⟩
              go_wp2_with fail
              go_quiet (fail)
              go_wp2
              go_quiet (fail)
              go_wp2
              go_roundw
              case rel => exact ⟨k + 1, L, by omega, by go_num, HO.out, by simp, HA.out, hin.out, below_drewN HB.out _⟩
              case measure => simp [RowKit.intOf]; omega
            · have t1 := str_ne hqx
              have hgt := Lib.hid (not_less hless hqx)
              clear hqx
              have hne0 : ¬ capo = j := by omega
              have hcell3 : Hid (∀ i u, ((L.drop j).map Value.string)[i]? = some u → wr.cell? ⟨g, j + i, none⟩ = some u) := by
                show ∀ i u, _
                intro i u hu
                rw [List.getElem?_map, List.getElem?_drop] at hu
                have hl2 : j + i < L.length := by
                  rcases Nat.lt_or_ge (j + i) L.length with h | h
                  · exact h
                  · rw [List.getElem?_eq_none h] at hu; cases hu
                rw [HO.out.cellAt (j + i) (by omega), List.getElem?_map]
                exact hu
              have hone : Hid (∀ u ∈ (L.drop j).map Value.string, u.oneCell' = true) := fun u hu => by
                obtain ⟨z, _, rfl⟩ := List.mem_map.1 hu; rfl
              have hdl : Hid (((L.drop j).map Value.string).length = (L.length - j) * 1) := by show _ = _; rw [List.length_map, List.length_drop, Nat.mul_one]
              go_wp2_with fail
              go_quiet (fail)
              go_wp2
              go_quiet (fail)
              go_wp2_with (at_builtin; refine wpList_append_own _ rfl (.tmp 46) (.tmp 49) 24 rfl wr.heap.size 9 i0 (.string ⟨#[]⟩) 1 16 Try.underlying24 hi hz0 hz1 hz2 rfl (by decide) _ 0 [] rfl (World.ownsRow_made _ #[] 0 (Nat.le_refl _) (Nat.zero_le _) rfl) ⟨g, j, none⟩ (L.length - j) (capo - j) ((L.drop j).map Value.string) rfl hdl.out (fun i u hu => by rw [WideShapes.add_plain]; exact (((below_drewN (Below.refl _ wr) _).alloc (Nat.le_refl _) _).cell (p := ⟨g, j + i, none⟩) hgl).trans (hcell3.out i u hu)) hone.out (by unfold maxLen; omega) (by omega) (by simp) ?_; intro v6 w6 hown6 hgrow6 hnil6)
              have hb6 : Below wr.heap.size wr w6 := ((below_drewN (Below.refl _ wr) _).alloc (Nat.le_refl _) _).grown hgrow6 (by simp) (fun r hr => by injection hr with hr; exact Nat.le_of_eq hr)
              have hg6 : wr.grownBy w6 none := ⟨hb6.os, hb6.tape, hb6.output, hb6.size, fun k hk _ => hb6.block k hk⟩
              have HO6 := Lib.hid (HO.out.kept hg6 (Or.inr (by simp [Value.ownBlock])))
              have hx6 : w6.cell? ⟨b, off + k, none⟩ = some (.string x) := (hb6.cell (p := ⟨b, off + k, none⟩) (by show b < _; omega)).trans hx
              rcases hown6.2 with ⟨h, _⟩ | ⟨r, cap6, cur6, rfl, hr, hblk6, r1, r2, r3, r4⟩
              · exact absurd (hnil6.1 h).1 (fun h2 => by cases h2)
              have HB6 := Lib.hid (HB.out.trans (hb6.mono HB.out.size))
              have hsz6 : w.heap.size ≤ w6.heap.size := HB6.out.size
              rw [Nat.zero_add, List.nil_append] at hown6
              have hcr : Hid (∀ i u, ((L.drop j).map Value.string)[i]? = some u → w6.cell? ⟨r, i, none⟩ = some u) := by
                show ∀ i u, _
                intro i u hu
                rw [hown6.cellAt i (by have := (List.getElem?_eq_some_iff.1 hu).1; simp at this <;> omega)]
                exact hu
              have hjc : j ≤ capo := by omega
              have hrl : r < w6.heap.size := (Array.getElem?_eq_some_iff.1 hblk6).1
              have hrg : g < r := by omega
              rw [Nat.zero_add] at r1
              clear hb6 hg6 hown6 hgrow6 hnil6 hblk6 r3 r4 cur6 hcell3
              go_wp2_with fail
              go_region_law (first
                | (refine step_append_own _ rfl (.tmp 53) (.tmp 58) 24 rfl w.heap.size 9 i0 (.string ⟨#[]⟩) 1 16 Try.underlying24 hi hz0 hz1 hz2 rfl (by decide) _ j ((L.take j).map Value.string) (by simp [Act.eval]) ((own_take HO6.out j (by omega)).drew.alloc _) ⟨w6.heap.size, 0, none⟩ 1 1 [.string x] (by simp [Act.eval]) rfl (cell_one_new _ _ _) (by intro u hu; simp at hu; subst hu; rfl) (by unfold maxLen; omega) (by omega) (by simp; omega) ?_; intro v7 w7 hown7 hgrow7 hnil7)
                | (refine step_append_own _ rfl (.tmp 59) (.tmp 60) 24 rfl w.heap.size 9 i0 (.string ⟨#[]⟩) 1 16 Try.underlying24 hi hz0 hz1 hz2 rfl (by decide) v7 (j + 1) _ (by simp [Act.eval]) hown7 ⟨r, 0, none⟩ (L.length - j) cap6 ((L.drop j).map Value.string) (by simp [Act.eval]) hdl.out (fun i u hu => by rw [WideShapes.add_plain, Nat.zero_add]; exact (World.cell?_of_block ((hgrow7.block r (by simp; omega) (fun e => by have e2 : some r = some g := e; injection e2 with e2; omega)).trans (heap_alloc_old _ _ (by exact hrl)))).trans (hcr.out i u hu)) hone.out (by unfold maxLen; omega) (by omega) (by have := hgrow7.size; simp at this; omega) ?_; intro v8 w8 hown8 hgrow8 hnil8))
              have R2 : v8 ≠ .slice none 0 0 := fun h => absurd (hnil7.1 (hnil8.1 h).1).2 (by decide)
              have hs7 : w.heap.size ≤ w7.heap.size := by have := hgrow7.size; simp at this; omega
              have R3 : Below w.heap.size w w8 := ((((HB6.out.drew).alloc (by exact hsz6) _).grown hgrow7 (by simp; omega) (fun r hr => by have e2 : some g = some r := hr; injection e2 with e2; omega)).grown hgrow8 hs7 (fun r hr => (hown7.lt r hr).1))
              have R1 : w8.ownsRow w.heap.size 9 1 v8 (ins L j x).length ((ins L j x).map Value.string) := by
                have e1 : (ins L j x).map Value.string = (L.take j).map Value.string ++ [Value.string x] ++ ((L.drop j).map Value.string) := by unfold ins; rw [List.map_append, List.map_append]; rfl
                rw [e1, ins_length x (by omega)]
                have e2 : j + 1 + (L.length - j) = L.length + 1 := by omega
                rw [e2] at hown8
                exact hown8
              have R4 : AscB (ins L j x) := ins_asc HA.out (fun i hi => HLOW.out i hi) (by omega) (fun h => by rw [HQ.out]; exact hgt.out)
              have R5 : ∀ y, y ∈ ins L j x ↔ y ∈ ss.take (k + 1) := fun y => by
                rw [mem_ins, ht.out, List.mem_append, List.mem_singleton, HM.out y]
                exact Or.comm
              have R1' := Lib.hid R1
              have R2' := Lib.hid R2
              have R4' := Lib.hid R4
              have R5' := Lib.hid R5
              clear hown7 hgrow7 hnil7 hown8 hgrow8 hnil8 R1 R2 R4 R5 hs7
              go_wp2
              go_roundw
              case rel => exact ⟨k + 1, ins L j x, by omega, by go_num, R1'.out, R2'.out, R4'.out, R5'.out, R3⟩
              case measure => simp [RowKit.intOf]; omega
          · have hup := Lib.hid (less_iff.1 hless)
            go_wp2_with fail
            go_quiet (fail)
            go_wp2
            go_roundw
            case rel => exact ⟨j + 1, by omega, by go_num, fun i hi => by
              by_cases e : i = j
              · rw [e, HQ.out]; exact hup.out
              · exact HLOW.out i (by omega), _, rfl⟩
            case measure => simp [RowKit.intOf]; omega
        · obtain rfl : j = L.length := by omega
          have hd : decide ((L.length : Int) < (L.length : Int)) = false := by simp
          rcases (by omega : capo = L.length ∨ L.length < capo) with hcap | hcap
          · subst hcap
            go_wp2_with fail
            go_quiet (fail)
            go_wp2
            go_quiet (fail)
            go_wp2_with (at_builtin; refine wpList_append_own _ rfl (.tmp 46) (.tmp 49) 24 rfl wr.heap.size 9 i0 (.string ⟨#[]⟩) 1 16 Try.underlying24 hi hz0 hz1 hz2 rfl (by decide) _ 0 [] rfl (World.ownsRow_made _ #[] 0 (Nat.le_refl _) (Nat.zero_le _) rfl) _ 0 _ [] rfl rfl (fun i u hu => by cases hu) (fun u hu => by cases hu) (by unfold maxLen; omega) (by omega) (by simp) ?_; intro v6 w6 hown6 hgrow6 hnil6)
            have hb6 : Below wr.heap.size wr w6 := ((below_drewN (Below.refl _ wr) _).alloc (Nat.le_refl _) _).grown hgrow6 (by simp) (fun r hr => by injection hr with hr; exact Nat.le_of_eq hr)
            have hg6 : wr.grownBy w6 none := ⟨hb6.os, hb6.tape, hb6.output, hb6.size, fun k hk _ => hb6.block k hk⟩
            have HO6 := Lib.hid (HO.out.kept hg6 (Or.inr (by simp [Value.ownBlock])))
            have hx6 : w6.cell? ⟨b, off + k, none⟩ = some (.string x) := (hb6.cell (p := ⟨b, off + k, none⟩) (by show b < _; omega)).trans hx
            rcases hown6.2 with ⟨h, _⟩ | ⟨r, cap6, cur6, rfl, hr, hblk6, r1, r2, r3, r4⟩
            · exact absurd (hnil6.1 h).1 (fun h2 => by cases h2)
            have HB6 := Lib.hid (HB.out.trans (hb6.mono HB.out.size))
            have hsz6 : w.heap.size ≤ w6.heap.size := HB6.out.size
            rw [Nat.zero_add, List.nil_append] at hown6
            have hcr : Hid (∀ i u, ([] : List Value)[i]? = some u → w6.cell? ⟨r, i, none⟩ = some u) := by
              show ∀ i u, _
              intro i u hu
              rw [hown6.cellAt i (by have := (List.getElem?_eq_some_iff.1 hu).1; simp at this <;> omega)]
              exact hu
            have hrl : r < w6.heap.size := (Array.getElem?_eq_some_iff.1 hblk6).1
            have hrg : g < r := by omega
            rw [Nat.zero_add] at r1
            clear hb6 hg6 hown6 hgrow6 hnil6 hblk6 r3 r4 cur6
            go_wp2_with fail
            go_region_law (first
              | (refine step_append_own _ rfl (.tmp 53) (.tmp 58) 24 rfl w.heap.size 9 i0 (.string ⟨#[]⟩) 1 16 Try.underlying24 hi hz0 hz1 hz2 rfl (by decide) _ L.length ((L.take L.length).map Value.string) (by simp [Act.eval]) ((own_take HO6.out L.length (by omega)).drew.alloc _) ⟨w6.heap.size, 0, none⟩ 1 1 [.string x] (by simp [Act.eval]) rfl (cell_one_new _ _ _) (by intro u hu; simp at hu; subst hu; rfl) (by unfold maxLen; omega) (by omega) (by simp; omega) ?_; intro v7 w7 hown7 hgrow7 hnil7)
              | (refine step_append_own _ rfl (.tmp 59) (.tmp 60) 24 rfl w.heap.size 9 i0 (.string ⟨#[]⟩) 1 16 Try.underlying24 hi hz0 hz1 hz2 rfl (by decide) v7 (L.length + 1) _ (by simp [Act.eval]) hown7 ⟨r, 0, none⟩ 0 cap6 [] (by simp [Act.eval]) rfl (fun i u hu => by rw [WideShapes.add_plain, Nat.zero_add]; exact (World.cell?_of_block ((hgrow7.block r (by simp; omega) (fun e => by have e2 : some r = some g := e; injection e2 with e2; omega)).trans (heap_alloc_old _ _ (by exact hrl)))).trans (hcr.out i u hu)) (fun u hu => by cases hu) (by unfold maxLen; omega) (by omega) (by have := hgrow7.size; simp at this; omega) ?_; intro v8 w8 hown8 hgrow8 hnil8))
            have R2 : v8 ≠ .slice none 0 0 := fun h => absurd (hnil7.1 (hnil8.1 h).1).2 (by decide)
            have hs7 : w.heap.size ≤ w7.heap.size := by have := hgrow7.size; simp at this; omega
            have R3 : Below w.heap.size w w8 := ((((HB6.out.drew).alloc (by exact hsz6) _).grown hgrow7 (by simp; omega) (fun r hr => by have e2 : some g = some r := hr; injection e2 with e2; omega)).grown hgrow8 hs7 (fun r hr => (hown7.lt r hr).1))
            have R1 : w8.ownsRow w.heap.size 9 1 v8 (ins L L.length x).length ((ins L L.length x).map Value.string) := by
              have e1 : (ins L L.length x).map Value.string = (L.take L.length).map Value.string ++ [Value.string x] ++ [] := by unfold ins; rw [List.map_append, List.map_append, List.drop_length]; rfl
              rw [e1, ins_length x (by omega)]
              have e2 : L.length + 1 + 0 = L.length + 1 := by omega
              rw [e2] at hown8
              exact hown8
            have R4 : AscB (ins L L.length x) := ins_asc HA.out (fun i hi => HLOW.out i hi) (by omega) (fun h => by exact absurd h (Nat.lt_irrefl _))
            have R5 : ∀ y, y ∈ ins L L.length x ↔ y ∈ ss.take (k + 1) := fun y => by
              rw [mem_ins, ht.out, List.mem_append, List.mem_singleton, HM.out y]
              exact Or.comm
            have R1' := Lib.hid R1
            have R2' := Lib.hid R2
            have R4' := Lib.hid R4
            have R5' := Lib.hid R5
            clear hown7 hgrow7 hnil7 hown8 hgrow8 hnil8 R1 R2 R4 R5 hs7
            go_wp2
            go_roundw
            case rel => exact ⟨k + 1, ins L L.length x, by omega, by go_num, R1'.out, R2'.out, R4'.out, R5'.out, R3⟩
            case measure => simp [RowKit.intOf]; omega
          · have hne0 : ¬ capo = L.length := by omega
            go_wp2_with fail
            go_quiet (fail)
            go_wp2
            go_quiet (fail)
            go_wp2_with (at_builtin; refine wpList_append_own _ rfl (.tmp 46) (.tmp 49) 24 rfl wr.heap.size 9 i0 (.string ⟨#[]⟩) 1 16 Try.underlying24 hi hz0 hz1 hz2 rfl (by decide) _ 0 [] rfl (World.ownsRow_made _ #[] 0 (Nat.le_refl _) (Nat.zero_le _) rfl) _ 0 _ [] rfl rfl (fun i u hu => by cases hu) (fun u hu => by cases hu) (by unfold maxLen; omega) (by omega) (by simp) ?_; intro v6 w6 hown6 hgrow6 hnil6)
            have hb6 : Below wr.heap.size wr w6 := ((below_drewN (Below.refl _ wr) _).alloc (Nat.le_refl _) _).grown hgrow6 (by simp) (fun r hr => by injection hr with hr; exact Nat.le_of_eq hr)
            have hg6 : wr.grownBy w6 none := ⟨hb6.os, hb6.tape, hb6.output, hb6.size, fun k hk _ => hb6.block k hk⟩
            have HO6 := Lib.hid (HO.out.kept hg6 (Or.inr (by simp [Value.ownBlock])))
            have hx6 : w6.cell? ⟨b, off + k, none⟩ = some (.string x) := (hb6.cell (p := ⟨b, off + k, none⟩) (by show b < _; omega)).trans hx
            rcases hown6.2 with ⟨h, _⟩ | ⟨r, cap6, cur6, rfl, hr, hblk6, r1, r2, r3, r4⟩
            · exact absurd (hnil6.1 h).1 (fun h2 => by cases h2)
            have HB6 := Lib.hid (HB.out.trans (hb6.mono HB.out.size))
            have hsz6 : w.heap.size ≤ w6.heap.size := HB6.out.size
            rw [Nat.zero_add, List.nil_append] at hown6
            have hcr : Hid (∀ i u, ([] : List Value)[i]? = some u → w6.cell? ⟨r, i, none⟩ = some u) := by
              show ∀ i u, _
              intro i u hu
              rw [hown6.cellAt i (by have := (List.getElem?_eq_some_iff.1 hu).1; simp at this <;> omega)]
              exact hu
            have hjc : L.length ≤ capo := by omega
            have hrl : r < w6.heap.size := (Array.getElem?_eq_some_iff.1 hblk6).1
            have hrg : g < r := by omega
            rw [Nat.zero_add] at r1
            clear hb6 hg6 hown6 hgrow6 hnil6 hblk6 r3 r4 cur6
            go_wp2_with fail
            go_region_law (first
              | (refine step_append_own _ rfl (.tmp 53) (.tmp 58) 24 rfl w.heap.size 9 i0 (.string ⟨#[]⟩) 1 16 Try.underlying24 hi hz0 hz1 hz2 rfl (by decide) _ L.length ((L.take L.length).map Value.string) (by simp [Act.eval]) ((own_take HO6.out L.length (by omega)).drew.alloc _) ⟨w6.heap.size, 0, none⟩ 1 1 [.string x] (by simp [Act.eval]) rfl (cell_one_new _ _ _) (by intro u hu; simp at hu; subst hu; rfl) (by unfold maxLen; omega) (by omega) (by simp; omega) ?_; intro v7 w7 hown7 hgrow7 hnil7)
              | (refine step_append_own _ rfl (.tmp 59) (.tmp 60) 24 rfl w.heap.size 9 i0 (.string ⟨#[]⟩) 1 16 Try.underlying24 hi hz0 hz1 hz2 rfl (by decide) v7 (L.length + 1) _ (by simp [Act.eval]) hown7 ⟨r, 0, none⟩ 0 cap6 [] (by simp [Act.eval]) rfl (fun i u hu => by rw [WideShapes.add_plain, Nat.zero_add]; exact (World.cell?_of_block ((hgrow7.block r (by simp; omega) (fun e => by have e2 : some r = some g := e; injection e2 with e2; omega)).trans (heap_alloc_old _ _ (by exact hrl)))).trans (hcr.out i u hu)) (fun u hu => by cases hu) (by unfold maxLen; omega) (by omega) (by have := hgrow7.size; simp at this; omega) ?_; intro v8 w8 hown8 hgrow8 hnil8))
            have R2 : v8 ≠ .slice none 0 0 := fun h => absurd (hnil7.1 (hnil8.1 h).1).2 (by decide)
            have hs7 : w.heap.size ≤ w7.heap.size := by have := hgrow7.size; simp at this; omega
            have R3 : Below w.heap.size w w8 := ((((HB6.out.drew).alloc (by exact hsz6) _).grown hgrow7 (by simp; omega) (fun r hr => by have e2 : some g = some r := hr; injection e2 with e2; omega)).grown hgrow8 hs7 (fun r hr => (hown7.lt r hr).1))
            have R1 : w8.ownsRow w.heap.size 9 1 v8 (ins L L.length x).length ((ins L L.length x).map Value.string) := by
              have e1 : (ins L L.length x).map Value.string = (L.take L.length).map Value.string ++ [Value.string x] ++ [] := by unfold ins; rw [List.map_append, List.map_append, List.drop_length]; rfl
              rw [e1, ins_length x (by omega)]
              have e2 : L.length + 1 + 0 = L.length + 1 := by omega
              rw [e2] at hown8
              exact hown8
            have R4 : AscB (ins L L.length x) := ins_asc HA.out (fun i hi => HLOW.out i hi) (by omega) (fun h => by exact absurd h (Nat.lt_irrefl _))
            have R5 : ∀ y, y ∈ ins L L.length x ↔ y ∈ ss.take (k + 1) := fun y => by
              rw [mem_ins, ht.out, List.mem_append, List.mem_singleton, HM.out y]
              exact Or.comm
            have R1' := Lib.hid R1
            have R2' := Lib.hid R2
            have R4' := Lib.hid R4
            have R5' := Lib.hid R5
            clear hown7 hgrow7 hnil7 hown8 hgrow8 hnil8 R1 R2 R4 R5 hs7
            go_wp2
            go_roundw
            case rel => exact ⟨k + 1, ins L L.length x, by omega, by go_num, R1'.out, R2'.out, R4'.out, R5'.out, R3⟩
            case measure => simp [RowKit.intOf]; omega
    · obtain rfl : k = ss.length := by omega
      have hfin : Hid (L = srt ss) := ascB_unique HA.out (srt_asc ss) fun y => by rw [HM.out y, List.take_length, mem_srt]
      go_wp2
      go_ret
      have ho := HO.out
      rcases own_split ho with ⟨h, _⟩ | ⟨g', cap', hv, hg', ho2⟩
      · cases h
      · rw [hfin.out] at hv ho2
        exact ⟨g', cap', by rw [← hv, hfin.out]; rfl, hg', ho2, HB.out⟩
end Go.Proofs.Ytlgddglhnnagpaa
