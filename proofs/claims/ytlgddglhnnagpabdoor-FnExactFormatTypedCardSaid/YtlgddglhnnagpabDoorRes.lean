/-
  Chapter 2: the reserved words, in the model and in the program.
-/
import Derived.Test.YtlgddglhnnagpabDoorSetB
import Derived.Test.YtlgddglhnnagpabDoorStrs
import Derived.Carry
namespace Go.Proofs.YtlgddglhnnagpabDoor
open Go.ChangeShapes Go.WideShapes Go.ChangeAt Go.RowKit

theorem ret_bool {a b : Bool} (h : a = b) : Ending.returned (.bool a) = .returned (.bool b) := by rw [h]
theorem str_eq {x s : ByteArray} (h : x = s) : (x.toList == s.toList) = true := by rw [h]; exact beq_self_eq_true _
theorem str_ne {x s : ByteArray} (h : x ≠ s) : (x.toList == s.toList) = false := by
  rw [Lib.toList_data, Lib.toList_data]
  exact beq_eq_false_iff_ne.2 fun e => h (bytes_of_list e)

/-- The reserved words. -/
def resWords : List ByteArray := [⟨#[105, 102]⟩, ⟨#[116, 104, 101, 110]⟩, ⟨#[101, 108, 115, 101]⟩, ⟨#[116, 114, 117, 101]⟩, ⟨#[102, 97, 108, 115, 101]⟩, ⟨#[108, 105, 116]⟩, ⟨#[110, 111, 110, 101]⟩, ⟨#[115, 101, 108, 102]⟩, ⟨#[111, 102]⟩, ⟨#[109, 97, 120]⟩, ⟨#[109, 105, 110]⟩, ⟨#[119, 105, 116, 104]⟩, ⟨#[104, 97, 115]⟩]
theorem resWords_get : ∀ k, k < 13 → (resWords.getD k ByteArray.empty).size ≤ 9223372036854775807 ∧ (#[Value.string ⟨#[105, 102]⟩, .string ⟨#[116, 104, 101, 110]⟩, .string ⟨#[101, 108, 115, 101]⟩, .string ⟨#[116, 114, 117, 101]⟩, .string ⟨#[102, 97, 108, 115, 101]⟩, .string ⟨#[108, 105, 116]⟩, .string ⟨#[110, 111, 110, 101]⟩, .string ⟨#[115, 101, 108, 102]⟩, .string ⟨#[111, 102]⟩, .string ⟨#[109, 97, 120]⟩, .string ⟨#[109, 105, 110]⟩, .string ⟨#[119, 105, 116, 104]⟩, .string ⟨#[104, 97, 115]⟩] : Array Value)[k]? = some (.string (resWords.getD k ByteArray.empty)) := by
  intro k hk
  match k, hk with
  | 0, _ | 1, _ | 2, _ | 3, _ | 4, _ | 5, _ | 6, _ | 7, _ | 8, _ | 9, _ | 10, _ | 11, _ | 12, _ => exact ⟨by decide, rfl⟩

theorem memB_rev (s : ByteArray) (L : List ByteArray) : memB s L.reverse = memB s L := by
  rw [Bool.eq_iff_iff, memB_iff, memB_iff, List.mem_reverse]

theorem zero_bool (w : World) : (zeroValue 4).run Tryd.prog w = .ok (.bool false) w := by kernel_rfl
end Go.Proofs.YtlgddglhnnagpabDoor
