/-
  Join of the model (package spec), which appends byte by byte, and of the program (package impl), which calls strings.Join: both yield the elements with the separator between them.
-/
import Derived.Test.YtjlcbbaicengbaaDoorJo
import Derived.Lib.AppendStr
namespace Go.Proofs.YtjlcbbaicengbaaDoor
open Go.ChangeShapes Go.WideShapes Go.ChangeAt Go.RowKit
open Go.Lib

def bytesOf (l : List UInt8) : List Value := l.map fun b => Value.int .u8 b.toNat
theorem bytesOf_append (l : List UInt8) (s : ByteArray) : bytesOf l ++ strCells s = bytesOf (l ++ s.data.toList) := by unfold bytesOf strCells; rw [List.map_append]

theorem info_byte : (Tryd.prog.info? 5).map (fun i => (i.zero, i.size, i.bytes)) = some (some (.int .u8 0), 1, 1) := by kernel_rfl

/-- 'string(out)', out an owned row of bytes. -/
theorem conv_owned {w : World} {base : Nat} {v : Value} {l : List UInt8} (h : w.ownsRow base 5 1 v l.length (bytesOf l)) (hn : v ≠ .slice none 0 0) :
    (convert 63 9 v).run Tryd.prog w = .ok (.string ⟨l.toArray⟩) w := by
  rcases h.2 with ⟨h', _⟩ | ⟨g, cap, cur, rfl, _⟩
  · exact absurd h' hn
  · refine run_convert_bytes_back w 63 9 5 ⟨g, 0, none⟩ cap l Tryd.underlying63 Tryd.underlying5 Tryd.underlying9 fun j hj => ?_
    have e : (⟨g, 0, none⟩ : Addr).add j = ⟨g, j, none⟩ := by rw [WideShapes.add_plain, Nat.zero_add]
    rw [e, h.cellAt j (by omega)]
    unfold bytesOf
    rw [List.getElem?_map, List.getElem?_eq_getElem hj]
    rfl

theorem not_own {w : World} {base : Nat} {e : TypeId} {v : Value} {n : Nat} {xs : List Value} (h : w.ownsRow base e 1 v n xs) {b : Nat} (hb : b < base) : some b ≠ v.ownBlock := fun e =>
  Nat.lt_irrefl _ (Nat.lt_of_lt_of_le hb (h.lt b e.symm).1)
end Go.Proofs.YtjlcbbaicengbaaDoor
