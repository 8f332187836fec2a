/-
  Chapter 2: the reserved words, in the model and in the program.
-/
import Derived.Test.YtgpmmlbinmdfmaaGreatDoorSetB
import Derived.Test.YtgpmmlbinmdfmaaGreatDoorStrs
import Derived.Carry
namespace Go.Proofs.YtgpmmlbinmdfmaaGreatDoor
open Go.ChangeShapes Go.WideShapes Go.ChangeAt Go.RowKit

theorem ret_bool {a b : Bool} (h : a = b) : Ending.returned (.bool a) = .returned (.bool b) := by rw [h]
theorem str_eq {x s : ByteArray} (h : x = s) : (x.toList == s.toList) = true := by rw [h]; exact beq_self_eq_true _
theorem str_ne {x s : ByteArray} (h : x ≠ s) : (x.toList == s.toList) = false := by
  rw [Lib.toList_data, Lib.toList_data]
  exact beq_eq_false_iff_ne.2 fun e => h (bytes_of_list e)

set_option maxHeartbeats 800000 in
set_option maxRecDepth 100000 in
theorem spec_l1Has {B : Nat} {a : Option Addr} {cap : Nat} (ss : List ByteArray) (s : ByteArray) (hn : ss.length ≤ 9223372036854775806) (w : World) (hs : Strs B w a ss) :
    Calls Tryz.prog 31 #[.slice a ss.length cap, .string s] w fun e w' => e = .returned (.bool (memB s ss)) ∧ w = w' := by
  have HS := Lib.hid hs
  clear hs
  go_enter Tryz.func31, Tryz.ntmps31
  go_wp2
  go_loop [5] (fun i => ∃ k : Nat, k ≤ ss.length ∧ i = .int .i64 (k : Int) ∧ s ∉ ss.take k) (fun i => ss.length - (intOf i).toNat)
  case atStart => exact ⟨0, Nat.zero_le _, rfl, by simp⟩
  case round =>
    obtain ⟨k, hk, rfl, hno⟩ := hrel
    have HNO := Lib.hid hno
    clear hno
    by_cases hlt : k < ss.length
    · obtain ⟨b, off, rfl, hb, hsz, hc1⟩ := HS.out.at k hlt
      have ht := Lib.hid (List.take_succ_eq_append_getElem hlt)
      have hg : Hid (ss.getD k ByteArray.empty = ss[k]) := by show _ = _; rw [List.getD_eq_getElem?_getD, List.getElem?_eq_getElem hlt]; rfl
      generalize hv : ss.getD k ByteArray.empty = x at hsz hc1 hg
      have HV := Lib.hid hv
      clear hv
      by_cases he : x = s
      · have t1 := str_eq he
        have fin : Hid (memB s ss = true) := by show _ = _; rw [memB_iff, ← he, hg.out]; exact List.getElem_mem hlt
        clear he
        go_wp2
        go_ret
        exact ⟨ret_bool fin.out.symm, rfl⟩
      · have t1 := str_ne he
        have HE := Lib.hid he
        clear he
        go_wp2
        go_round
        case rel => exact ⟨k + 1, by omega, by go_num, by rw [ht.out, List.mem_append, List.mem_singleton]; rintro (h | h); exact HNO.out h; exact HE.out (by rw [hg.out, h])⟩
        case measure => simp [intOf]; omega
    · obtain rfl : k = ss.length := by omega
      have fin : Hid (memB s ss = false) := by show _ = _; have := HNO.out; rw [List.take_length] at this; exact memB_no this
      go_wp2
      go_ret
      exact ⟨ret_bool fin.out.symm, rfl⟩

/-- The reserved words. -/
def resWords : List ByteArray := [⟨#[105, 102]⟩, ⟨#[116, 104, 101, 110]⟩, ⟨#[101, 108, 115, 101]⟩, ⟨#[116, 114, 117, 101]⟩, ⟨#[102, 97, 108, 115, 101]⟩, ⟨#[108, 105, 116]⟩, ⟨#[110, 111, 110, 101]⟩, ⟨#[115, 101, 108, 102]⟩, ⟨#[111, 102]⟩, ⟨#[109, 97, 120]⟩, ⟨#[109, 105, 110]⟩, ⟨#[119, 105, 116, 104]⟩, ⟨#[104, 97, 115]⟩]
theorem resWords_get : ∀ k, k < 13 → (resWords.getD k ByteArray.empty).size ≤ 9223372036854775807 ∧ (#[Value.string ⟨#[105, 102]⟩, .string ⟨#[116, 104, 101, 110]⟩, .string ⟨#[101, 108, 115, 101]⟩, .string ⟨#[116, 114, 117, 101]⟩, .string ⟨#[102, 97, 108, 115, 101]⟩, .string ⟨#[108, 105, 116]⟩, .string ⟨#[110, 111, 110, 101]⟩, .string ⟨#[115, 101, 108, 102]⟩, .string ⟨#[111, 102]⟩, .string ⟨#[109, 97, 120]⟩, .string ⟨#[109, 105, 110]⟩, .string ⟨#[119, 105, 116, 104]⟩, .string ⟨#[104, 97, 115]⟩] : Array Value)[k]? = some (.string (resWords.getD k ByteArray.empty)) := by
  intro k hk
  match k, hk with
  | 0, _ | 1, _ | 2, _ | 3, _ | 4, _ | 5, _ | 6, _ | 7, _ | 8, _ | 9, _ | 10, _ | 11, _ | 12, _ => exact ⟨by decide, rfl⟩

theorem memB_rev (s : ByteArray) (L : List ByteArray) : memB s L.reverse = memB s L := by
  rw [Bool.eq_iff_iff, memB_iff, memB_iff, List.mem_reverse]

theorem zero_bool (w : World) : (zeroValue 4).run Tryz.prog w = .ok (.bool false) w := by kernel_rfl
end Go.Proofs.YtgpmmlbinmdfmaaGreatDoor
