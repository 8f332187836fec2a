/-
  The table impl.notations as the card's list lays it.
-/
import Derived.Test.YtkloeadlhpijdaaDoorLevel
import Derived.OpenShut
import Derived.MakeChecks
namespace Go.Proofs.YtkloeadlhpijdaaDoor
open Go.ChangeShapes Go.WideShapes Go.ChangeAt Go.RowKit

def notD : List (Int × Int × List UInt8) := [(9, 1, [60]), (10, 1, [61, 61]), (1, 2, [43]), (2, 2, [45]), (6, 2, [124]), (8, 2, [92]), (3, 3, [42]), (7, 3, [38]), (4, 4, [109, 97, 120]), (5, 4, [109, 105, 110]), (11, 4, [104, 97, 115]), (12, 4, [119, 105, 116, 104])]
def rowD (x : Int × Int × List UInt8) : DataW Unit := .agg [.lit (.int .i64 x.1), .lit (.int .i64 x.2.1), .lit (.string x.2.2)]
def rowV (x : Int × Int × List UInt8) : List Value := [.int .i64 x.1, .int .i64 x.2.1, .string ⟨x.2.2.toArray⟩]
theorem notV : (notD.map rowV).flatten = notCells.toList := rfl
theorem chunk : ∀ (R : List (List Value)) (cs : List Value), cs.length = R.length * 3 → (∀ i r, R[i]? = some r → (cs.drop (i * 3)).take 3 = r) → cs = R.flatten
  | [], cs, hl, _ => List.length_eq_zero_iff.1 (by simpa using hl)
  | r :: R, cs, hl, h => by
    have h0 := h 0 r rfl
    rw [Nat.zero_mul, List.drop_zero] at h0
    have ih := chunk R (cs.drop 3) (by rw [List.length_drop, hl, List.length_cons]; omega) (fun i r' hr => by
      have h1 := h (i + 1) r' (by simpa using hr)
      rw [List.drop_drop, show 3 + i * 3 = (i + 1) * 3 by omega]
      exact h1)
    rw [List.flatten_cons, ← ih, ← h0, List.take_append_drop]
theorem not_row {W : World} {fuel : Nat} {sp : Nat → Bool} {held : Bool} {cs : List Value} {x : DataW Unit × List MemPlace} {y : Int × Int × List UInt8} (h : DataW.trod (fun _ => ()) Tryd.prog W 0 sp held fuel 53 cs = some x) (hx : x.1 = rowD y) : cs = rowV y := by
  obtain ⟨xs, n, rfl, rfl, hl, hxl, hf⟩ := DataW.trod_struct Tryd.underlying53 h
  have e0 : Tryd.prog.cellsOf 53 = 3 := by kernel_rfl
  have e1 : Tryd.prog.cellsOf 3 = 1 := by kernel_rfl
  have e2 : Tryd.prog.cellsOf 9 = 1 := by kernel_rfl
  have f0 : DataW.trod (fun _ => ()) Tryd.prog W 0 sp held n 3 ((cs.drop 0).take (Tryd.prog.cellsOf 3)) = xs[0]? := hf 0 _ rfl
  have f1 : DataW.trod (fun _ => ()) Tryd.prog W 0 sp held n 3 ((cs.drop 1).take (Tryd.prog.cellsOf 3)) = xs[1]? := hf 1 _ rfl
  have f2 : DataW.trod (fun _ => ()) Tryd.prog W 0 sp held n 9 ((cs.drop 2).take (Tryd.prog.cellsOf 9)) = xs[2]? := hf 2 _ rfl
  rw [e0] at hl
  rw [e1] at f0 f1
  rw [e2] at f2
  have hxl3 : xs.length = 3 := hxl
  match cs, hl, xs, hxl3 with
  | [u0, u1, u2], _, [y0, y1, y2], _ =>
    simp only [List.drop_zero, List.drop_succ_cons, List.take_succ_cons, List.take_zero, List.getElem?_cons_zero, List.getElem?_cons_succ] at f0 f1 f2
    obtain ⟨n0, h0, rfl, _⟩ := DataW.trod_int Tryd.underlying3 f0
    obtain ⟨n1, h1, rfl, _⟩ := DataW.trod_int Tryd.underlying3 f1
    obtain ⟨s2, h2, rfl, _⟩ := DataW.trod_string Tryd.underlying9 f2
    simp only [List.cons.injEq, and_true] at h0 h1 h2
    subst h0 h1 h2
    obtain ⟨ya, yb, yc⟩ := y
    simp only [rowD, List.map_cons, List.map_nil, DataW.agg.injEq, List.cons.injEq, DataW.lit.injEq, Lit.int.injEq, Lit.string.injEq, and_true, true_and] at hx
    obtain ⟨rfl, rfl, rfl⟩ := hx
    rfl
theorem nots_of {rest : List (String × DataW Unit)} {W : World} (h : laidMet Tryd.prog (("loop.example/g00512/impl.notations", .agg (notD.map rowD)) :: rest) W) : Nots W := by
  obtain ⟨ps, ⟨g', t', cs, fuel, p, q, hg', ht', hvar, hd, _, _⟩, _⟩ := h
  obtain rfl := Option.some.inj ((show Tryd.prog.globalNamed "loop.example/g00512/impl.notations" = some 0 by kernel_rfl).symm.trans hg')
  obtain rfl := Option.some.inj ((show (Tryd.prog.globals[0]?).map (·.type) = some 58 by kernel_rfl).symm.trans ht')
  obtain ⟨xs, m, rfl, hx, hl, hxl, hf⟩ := DataW.trod_array Tryd.underlying58 hd
  have e0 : Tryd.prog.cellsOf 58 = 36 := by kernel_rfl
  have e1 : Tryd.prog.cellsOf 53 = 3 := by kernel_rfl
  rw [e0] at hl
  simp only [e1] at hf
  have hxs : xs.map (·.1) = notD.map rowD := by
    have h1 := congrArg Prod.fst hx
    simpa using h1.symm
  have hcs : cs.toList = notCells.toList := by
    rw [← notV]
    refine chunk _ _ (by rw [hl]; rfl) (fun i r hr => ?_)
    rw [List.getElem?_map, Option.map_eq_some_iff] at hr
    obtain ⟨y, hy, rfl⟩ := hr
    have hi : i < 12 := by have := (List.getElem?_eq_some_iff.1 hy).1; exact this
    have h1 := hf i hi
    rw [List.getElem?_eq_getElem (by omega)] at h1
    refine not_row h1 ?_
    have h2 : (xs.map (·.1))[i]? = some (rowD y) := by rw [hxs, List.getElem?_map, hy]; rfl
    rw [List.getElem?_map, List.getElem?_eq_getElem (by omega)] at h2
    exact Option.some.inj h2
  have hcs' : cs = notCells := Array.toList_inj.1 hcs
  subst hcs'
  unfold World.var? at hvar
  rw [hg', Option.bind_some] at hvar
  split at hvar
  · rename_i c t fr hh
    obtain rfl := Option.some.inj hvar
    exact ⟨t, fr, hh⟩
  · cases hvar
end Go.Proofs.YtkloeadlhpijdaaDoor
