/-
  The first elements of a list of strings, joined: what a loop over them has when it comes to the next.
-/
import Derived.Test.YtjlcbbaicengbaaDoorStrs
import Derived.Lib.Join
namespace Go.Proofs.YtjlcbbaicengbaaDoor
open Go.ChangeShapes Go.WideShapes Go.ChangeAt Go.RowKit
open Go.Lib

/-- The first k elements, joined. -/
def jo (ss : List ByteArray) (by_ : ByteArray) (k : Nat) : List UInt8 := join ((ss.take k).map (·.data.toList)) by_.data.toList

theorem jo_zero (ss : List ByteArray) (b : ByteArray) : jo ss b 0 = [] := rfl
theorem jo_all (ss : List ByteArray) (b : ByteArray) : jo ss b ss.length = join (ss.map (·.data.toList)) b.data.toList := by unfold jo; rw [List.take_length]
theorem jo_one (ss : List ByteArray) (b : ByteArray) (h : 0 < ss.length) : jo ss b 1 = (ss.getD 0 ByteArray.empty).data.toList := by
  cases ss with
  | nil => exact absurd h (Nat.lt_irrefl _)
  | cons x r => simp [jo, join_one]
theorem jo_succ (ss : List ByteArray) (b : ByteArray) (k : Nat) (h : k + 1 < ss.length) : jo ss b (k + 2) = jo ss b (k + 1) ++ b.data.toList ++ (ss.getD (k + 1) ByteArray.empty).data.toList := by
  cases ss with
  | nil => exact absurd h (Nat.not_lt_zero _)
  | cons x r =>
    have hk : k < r.length := by simpa using h
    unfold jo
    rw [List.take_succ_cons, List.take_succ_cons, List.map_cons, List.map_cons, join_cons, join_cons, List.map_take, List.map_take,
      joinTail_take_succ b.data.toList (r.map (·.data.toList)) k (r[k]).data.toList (by rw [List.getElem?_map, List.getElem?_eq_getElem hk]; rfl)]
    simp [hk]
theorem data_length (s : ByteArray) : s.data.toList.length = s.size := by simp
theorem jo_length (ss : List ByteArray) (b : ByteArray) (hb : b.size ≤ 1048576) : ∀ k, k ≤ ss.length → (jo ss b k).length ≤ sumSize (ss.take k) + k * 1048576
  | 0, _ => by rw [jo_zero]; exact Nat.zero_le _
  | 1, h => by
    rw [jo_one ss b h, data_length]
    have hs : sumSize (ss.take 1) = sumSize (ss.take 0) + _ := sumSize_take ss 0 h
    omega
  | k + 2, h => by
    have ih := jo_length ss b hb (k + 1) (by omega)
    have hs : sumSize (ss.take (k + 2)) = sumSize (ss.take (k + 1)) + _ := sumSize_take ss (k + 1) (by omega)
    rw [jo_succ ss b k (by omega), List.length_append, List.length_append, data_length, data_length]
    omega
end Go.Proofs.YtjlcbbaicengbaaDoor
