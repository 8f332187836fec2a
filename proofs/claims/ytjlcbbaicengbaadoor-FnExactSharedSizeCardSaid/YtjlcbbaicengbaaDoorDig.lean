/-
  One digit as a string, as the loops over digits make it.
-/
import Derived.Test.YtjlcbbaicengbaaDoorKit
import Derived.Test.YtjlcbbaicengbaaDoorNum
import Derived.WalkSpells
import Derived.WalkLawsBesides
import Derived.Lib.Hide
namespace Go.Proofs.YtjlcbbaicengbaaDoor
open Go.ChangeShapes Go.WideShapes Go.ChangeAt Go.RowKit
open Go.Lib Num

/-- 'string([]byte{byte(48 + d)})', as the walk comes to it: d is a digit k. -/
theorem digit_string {P : Program} {src dst e : TypeId} (hs : P.underlying src = some (.slice e)) (he : P.underlying e = some (.int .u8)) (hd : P.underlying dst = some .string) (w : World) (d : Int) (k : Nat) (hk : k < 10) (hdk : d = k) :
    ∃ c : UInt8, c = UInt8.ofNat (48 + k) ∧ (convert src dst (.slice (some ⟨w.heap.size, 0, none⟩) 1 1)).run P (w.alloc (.cells #[.int .u8 (48 + d)] e)) = .ok (.string ⟨[c].toArray⟩) (w.alloc (.cells #[.int .u8 (48 + d)] e)) := by
  have hn : ((UInt8.ofNat (48 + k)).toNat : Int) = 48 + d := by rw [digit_toNat k hk]; omega
  refine ⟨_, rfl, run_convert_bytes_back _ src dst e ⟨w.heap.size, 0, none⟩ 1 [UInt8.ofNat (48 + k)] hs he hd ?_⟩
  intro j hj
  match j, hj with
  | 0, _ =>
    show (w.alloc _).cell? ((⟨w.heap.size, 0, none⟩ : Addr).add 0) = _
    rw [add_plain, World.cell?_alloc_new]
    simp only [List.getElem_cons_zero, hn]
    rfl

theorem tail_short {d u : List UInt8} {n : Nat} (h : d ++ u = decDigits n) (hn : n < 10 ^ 20) : (u.length : Int) ≤ 8388608 := by
  have e := congrArg List.length h
  rw [List.length_append, decDigits_length] at e
  have := nDigits_le 20 n (by decide) hn
  omega
end Go.Proofs.YtjlcbbaicengbaaDoor
