/-
  Chapter 2: the reserved words, in the model and in the program.
-/
import Derived.Test.YthpnghbhfbiljaaSetB
import Derived.Test.YthpnghbhfbiljaaStrs
import Derived.Carry
namespace Go.Proofs.Ythpnghbhfbiljaa
open Go.ChangeShapes Go.WideShapes Go.ChangeAt Go.RowKit

theorem ret_bool {a b : Bool} (h : a = b) : Ending.returned (.bool a) = .returned (.bool b) := by rw [h]
theorem str_eq {x s : ByteArray} (h : x = s) : (x.toList == s.toList) = true := by rw [h]; exact beq_self_eq_true _
theorem str_ne {x s : ByteArray} (h : x ≠ s) : (x.toList == s.toList) = false := by
  rw [Lib.toList_data, Lib.toList_data]
  exact beq_eq_false_iff_ne.2 fun e => h (bytes_of_list e)

set_option maxHeartbeats 800000 in
set_option maxRecDepth 100000 in
theorem spec_l1Has {B : Nat} {a : Option Addr} {cap : Nat} (ss : List ByteArray) (s : ByteArray) (hn : ss.length ≤ 9223372036854775806) (w : World) (hs : Strs B w a ss) :
    Calls Try.prog 99 #[.slice a ss.length cap, .string s] w fun e w' => e = .returned (.bool (memB s ss)) ∧ w = w' := by
  have HS := Lib.hid hs
  clear hs
  go_enter Try.func99, Try.ntmps99
  go_wp2
  go_loop [5] (fun i => ∃ k : Nat, k ≤ ss.length ∧ i = .int .i64 (k : Int) ∧ s ∉ ss.take k) (fun i => ss.length - (intOf i).toNat)
  case atStart => exact ⟨0, Nat.zero_le _, rfl, by simp⟩
  case round =>
    obtain ⟨k, hk, rfl, hno⟩ := hrel
    have HNO := Lib.hid hno
    clear hno
    by_cases hlt : k < ss.length
    · obtain ⟨b, off, rfl, hb, hsz, hc1⟩ := HS.out.at k hlt
      have ht := Lib.hid (List.take_succ_eq_append_getElem hlt)
      have hg : Hid (ss.getD k ByteArray.empty = ss[k]) := by show _ = _; rw [List.getD_eq_getElem?_getD, List.getElem?_eq_getElem hlt]; rfl
      generalize hv : ss.getD k ByteArray.empty = x at hsz hc1 hg
      have HV := Lib.hid hv
      clear hv
      by_cases he : x = s
      · have t1 := str_eq he
        have fin : Hid (memB s ss = true) := by show _ = _; rw [memB_iff, ← he, hg.out]; exact List.getElem_mem hlt
        clear he
        go_wp2
        go_ret
        exact ⟨ret_bool fin.out.symm, rfl⟩
      · have t1 := str_ne he
        have HE := Lib.hid he
        clear he
        go_wp2
        go_round
        case rel => exact ⟨k + 1, by omega, by go_num, by rw [ht.out, List.mem_append, List.mem_singleton]; rintro (h | h); exact HNO.out h; exact HE.out (by rw [hg.out, h])⟩
        case measure => simp [intOf]; omega
    · obtain rfl : k = ss.length := by omega
      have fin : Hid (memB s ss = false) := by show _ = _; have := HNO.out; rw [List.take_length] at this; exact memB_no this
      go_wp2
      go_ret
      exact ⟨ret_bool fin.out.symm, rfl⟩

/-- The reserved words. -/
def resWords : List ByteArray := [⟨#[105, 102]⟩, ⟨#[116, 104, 101, 110]⟩, ⟨#[101, 108, 115, 101]⟩, ⟨#[116, 114, 117, 101]⟩, ⟨#[102, 97, 108, 115, 101]⟩, ⟨#[108, 105, 116]⟩, ⟨#[110, 111, 110, 101]⟩, ⟨#[115, 101, 108, 102]⟩, ⟨#[111, 102]⟩, ⟨#[109, 97, 120]⟩, ⟨#[109, 105, 110]⟩, ⟨#[119, 105, 116, 104]⟩, ⟨#[104, 97, 115]⟩]
theorem resWords_get : ∀ k, k < 13 → (resWords.getD k ByteArray.empty).size ≤ 9223372036854775807 ∧ (#[Value.string ⟨#[105, 102]⟩, .string ⟨#[116, 104, 101, 110]⟩, .string ⟨#[101, 108, 115, 101]⟩, .string ⟨#[116, 114, 117, 101]⟩, .string ⟨#[102, 97, 108, 115, 101]⟩, .string ⟨#[108, 105, 116]⟩, .string ⟨#[110, 111, 110, 101]⟩, .string ⟨#[115, 101, 108, 102]⟩, .string ⟨#[111, 102]⟩, .string ⟨#[109, 97, 120]⟩, .string ⟨#[109, 105, 110]⟩, .string ⟨#[119, 105, 116, 104]⟩, .string ⟨#[104, 97, 115]⟩] : Array Value)[k]? = some (.string (resWords.getD k ByteArray.empty)) := by
  intro k hk
  match k, hk with
  | 0, _ | 1, _ | 2, _ | 3, _ | 4, _ | 5, _ | 6, _ | 7, _ | 8, _ | 9, _ | 10, _ | 11, _ | 12, _ => exact ⟨by decide, rfl⟩

set_option maxRecDepth 100000 in
theorem spec_l2Reserved (w : World) :
    Calls Try.prog 100 #[] w fun e w' => e = .returned (.slice (some ⟨w.heap.size, 0, none⟩) 13 13) ∧ Strs w'.heap.size w' (some ⟨w.heap.size, 0, none⟩) resWords ∧ Below w.heap.size w w' := by
  go_enter Try.func100, Try.ntmps100
  go_wp2
  go_ret
  refine ⟨rfl, Or.inr ⟨w.heap.size, 0, rfl, by simp, fun k hk => ⟨(resWords_get k hk).1, ?_⟩⟩, (Below.refl _ _).alloc (Nat.le_refl _) _⟩
  rw [Nat.zero_add, World.cell?_alloc_new]
  exact (resWords_get k hk).2

set_option maxRecDepth 100000 in
theorem spec_IsReserved (s : ByteArray) (w : World) :
    Calls Try.prog 82 #[.string s] w fun e w' => e = .returned (.bool (memB s resWords)) ∧ Below w.heap.size w w' := by
  go_enter Try.func82, Try.ntmps82
  go_wp2_with fail
  refine (spec_l2Reserved _).mono ?_
  rintro e w1 ⟨rfl, hs, hb⟩
  have HS := Lib.hid hs
  clear hs
  go_wp2_with fail
  refine (spec_l1Has (cap := 13) resWords s (by decide) _ HS.out).mono ?_
  rintro e w2 ⟨rfl, rfl⟩
  go_wp2
  go_ret
  exact ⟨rfl, hb⟩

set_option maxRecDepth 100000 in
set_option maxHeartbeats 2000000 in
theorem impl_reservedWords (w : World) :
    Calls Try.prog 84 #[] w fun e w' => e = .returned (.map (some w.heap.size)) ∧ BoolSet Try.prog 9 4 w' w.heap.size 13 resWords.reverse ∧ Below w.heap.size w w' := by
  have hmm := @run_makeMap Try.prog
  have hs : BoolSet Try.prog 9 4 (w.alloc (.map #[] 0)) w.heap.size 0 [] := BoolSet.made w
  have hb : Below w.heap.size w (w.alloc (.map #[] 0)) := (Below.refl _ _).alloc (Nat.le_refl _) _
  go_enter Try.func84, Try.ntmps84
  go_wp2_with (refine wpList_insert_set _ rfl (.tmp 1) _ _ 132 rfl 9 4 Try.underlying9 Try.underlying4 Try.underlying132 w.heap.size _ _ rfl hs (by unfold maxLen; omega) _ rfl rfl (by decide) ?_; intro w1 hs1 hg1; have hb1 := hb.grown hg1 hb.size (fun j hj => by cases hj; exact Nat.le_refl _); clear hs hb hg1; have hs := hs1; have hb := hb1; clear hs1 hb1)
  go_ret
  exact ⟨rfl, hs, hb⟩

theorem memB_rev (s : ByteArray) (L : List ByteArray) : memB s L.reverse = memB s L := by
  rw [Bool.eq_iff_iff, memB_iff, memB_iff, List.mem_reverse]

theorem zero_bool (w : World) : (zeroValue 4).run Try.prog w = .ok (.bool false) w := by kernel_rfl

set_option maxRecDepth 100000 in
theorem impl_IsReserved (s : ByteArray) (hz : s.size ≤ 1048576) (w : World) :
    Calls Try.prog 76 #[.string s] w fun e w' => e = .returned (.bool (memB s resWords)) ∧ Below w.heap.size w w' := by
  go_enter Try.func76, Try.ntmps76
  go_wp2_with fail
  refine (impl_reservedWords _).mono ?_
  rintro e w1 ⟨rfl, hs, hb⟩
  go_wp2_with (refine wpList_lookup_set _ rfl (.tmp 3) (.tmp 4) 132 rfl 9 4 Try.underlying9 Try.underlying4 Try.underlying132 (zero_bool _) _ _ _ rfl hs s rfl (by unfold maxLen; omega) ?_)
  go_ret
  exact ⟨ret_bool (memB_rev _ _), hb⟩
end Go.Proofs.Ythpnghbhfbiljaa
