/-
  NodeIndex, in the model and in the program.
-/
import Derived.Test.YtnkhjkdocaobpaaTTree
import Derived.Test.YtnkhjkdocaobpaaIdx
namespace Go.Proofs.Ytnkhjkdocaobpaa
open Go.ChangeShapes Go.WideShapes Go.ChangeAt Go.RowKit Go.Deep

def nodeIndex (l : List DNode) (id : Int) : Int := idxI (fun x => x.fId == id) l

set_option maxHeartbeats 1600000 in
set_option maxRecDepth 100000 in
theorem spec_NodeIndex {lo hi : Nat} {a0 : Option Addr} {c0_0 : Nat} (t : DTree) (_ : t.ok) (hsz : t.sz ≤ 1048576) (id : Int) (_ : okI id) (w : World) (hhi : hi ≤ w.heap.size) (hs : Sl lo hi w 6 t.fNodes.length (fun k => DNode.ct (t.fNodes.getD k default)) a0) :
    Calls Try.prog 18 #[.agg #[.slice a0 t.fNodes.length c0_0], .int .i64 id] w fun e w' => e = .returned (.int .i64 (nodeIndex t.fNodes id)) ∧ Below w.heap.size w w' := by
  have hn : t.fNodes.length ≤ 1048576 := by unfold DTree.sz lsz at hsz; omega
  clear hsz
  have HB := Lib.hid ((Below.refl w.heap.size w).alloc (Nat.le_refl _) (.cells #[.slice a0 t.fNodes.length c0_0] 45))
  have HS := Lib.hid (hs.later HB.out hhi)
  clear hs
  generalize t.fNodes = l at *
  go_enter Try.func18, Try.ntmps18
  go_wp2
  go_loop [5] (fun i => ∃ k : Nat, k ≤ l.length ∧ i = .int .i64 (k : Int) ∧ noneBelow (fun x : DNode => x.fId == id) l k) (fun i => l.length - (intOf i).toNat)
  case atStart => exact ⟨0, Nat.zero_le _, rfl, noneBelow_zero _ _⟩
  case round =>
    obtain ⟨k, hk, rfl, hno⟩ := hrel
    have HN := Lib.hid hno
    clear hno
    by_cases hlt : k < l.length
    · obtain ⟨b, off, rfl, _, _, hc⟩ := HS.out.at k hlt
      obtain ⟨a5, c5, hc0, hc1, hc2, hc3, hc4, hc5, hs5⟩ := DNode.open hc
      clear hc hc1 hc2 hc3 hc4 hc5 hs5
      by_cases he : (l.getD k default).fId = id
      · have fin := Lib.hid (idxI_at (p := fun x : DNode => x.fId == id) hlt (by simpa using he) HN.out)
        rw [he] at hc0
        clear he
        go_wp2
        go_ret
        exact ⟨ret_i (by unfold nodeIndex; rw [fin.out]), HB.out⟩
      · have hno := noneBelow_succ HN.out (k := k) (by simpa using he)
        have HN2 := Lib.hid hno
        have hb : ((l.getD k default).fId == id) = false := by simpa using he
        clear hno he
        generalize (l.getD k default).fId = z at *
        go_wp2
        go_round
        case rel => exact ⟨k + 1, by omega, by go_num, HN2.out⟩
        case measure => simp [intOf]; omega
    · obtain rfl : k = l.length := by omega
      have fin := Lib.hid (idxI_none (p := fun x : DNode => x.fId == id) HN.out)
      go_wp2
      go_ret
      exact ⟨ret_i (by unfold nodeIndex; rw [fin.out]), HB.out⟩

set_option maxHeartbeats 1600000 in
set_option maxRecDepth 100000 in
theorem impl_NodeIndex1 {b c5 : Nat} {a5 : Option Addr} (x : DNode) (id : Int) (w : World) (hc : w.cell? ⟨b, 0, none⟩ = some (.int .i64 id)) (hb : b < w.heap.size) :
    Calls Try.prog 41 #[.agg #[.int .i64 x.fId, .int .i64 x.fParent, .int .i64 x.fPlace, .int .i64 x.fLiteral, .string x.fRule, .slice a5 x.fChildren.length c5], .pointer (some ⟨b, 0, none⟩)] w fun e w' => e = .returned (.bool (x.fId == id)) ∧ Below w.heap.size w w' := by
  have HB := Lib.hid ((Below.refl w.heap.size w).alloc (Nat.le_refl _) (.cells #[.int .i64 x.fId, .int .i64 x.fParent, .int .i64 x.fPlace, .int .i64 x.fLiteral, .string x.fRule, .slice a5 x.fChildren.length c5] 85))
  have hc' := (HB.out.cell (p := ⟨b, 0, none⟩) hb).trans hc
  clear hc
  go_enter Try.func41, Try.ntmps41
  go_wp2
  go_ret
  exact ⟨rfl, HB.out⟩

set_option maxHeartbeats 1600000 in
set_option maxRecDepth 100000 in
theorem IndexFunc_NodeIndex {lo hi b cap : Nat} {a0 : Option Addr} (l : List DNode) (hn : l.length ≤ 1048576) (id : Int) (w : World) (hhi : hi ≤ w.heap.size) (hs : Sl lo hi w 6 l.length (fun k => DNode.ct (l.getD k default)) a0) (hc : w.cell? ⟨b, 0, none⟩ = some (.int .i64 id)) (hb : b < w.heap.size) :
    Calls Try.prog 40 #[.slice a0 l.length cap, .func (.func 41) #[] #[.pointer (some ⟨b, 0, none⟩)]] w fun e w' => e = .returned (.int .i64 (nodeIndex l id)) ∧ Below w.heap.size w w' := by
  have HS := Lib.hid hs
  have HC := Lib.hid hc
  clear hs hc
  go_enter Try.func40, Try.ntmps40
  go_wp2
  go_loopw [8] (fun i wr => ∃ k : Nat, k ≤ l.length ∧ i = .int .i64 (k : Int) ∧ noneBelow (fun x : DNode => x.fId == id) l k ∧ Below w.heap.size w wr) (fun i _ => l.length - (intOf i).toNat)
  case atStart => exact ⟨0, Nat.zero_le _, rfl, noneBelow_zero _ _, Below.refl _ _⟩
  case round =>
    obtain ⟨k, hk, rfl, hno, hbl⟩ := hrel
    have HN := Lib.hid hno
    have HB := Lib.hid hbl
    clear hno
    by_cases hlt : k < l.length
    · obtain ⟨b1, off, rfl, _, _, hc⟩ := (HS.out.later (hbl.mono hhi) (Nat.le_refl _)).at k hlt
      obtain ⟨a5, c5, hc0, hc1, hc2, hc3, hc4, hc5, hs5⟩ := DNode.open hc
      have hcl := impl_NodeIndex1 (a5 := a5) (c5 := c5) (l.getD k default) id wr ((hbl.cell (p := ⟨b, 0, none⟩) hb).trans HC.out) (Nat.lt_of_lt_of_le hb hbl.size)
      clear hc hs5 hbl
      by_cases he : (l.getD k default).fId = id
      · have fin := Lib.hid (idxI_at (p := fun x : DNode => x.fId == id) hlt (by simpa using he) HN.out)
        rw [show ((l.getD k default).fId == id) = true by simpa using he] at hcl
        have HCL := Lib.hid hcl
        clear he hcl
        generalize l.getD k default = x at *
        go_wp2_with fail
        refine HCL.out.mono ?_
        rintro e w1 ⟨rfl, hb1⟩
        go_wp2
        go_ret
        exact ⟨ret_i (by unfold nodeIndex; rw [fin.out]), HB.out.trans (hb1.mono HB.out.size)⟩
      · have hno := noneBelow_succ HN.out (k := k) (by simpa using he)
        have HN2 := Lib.hid hno
        rw [show ((l.getD k default).fId == id) = false by simpa using he] at hcl
        have HCL := Lib.hid hcl
        clear hno he hcl
        generalize l.getD k default = x at *
        go_wp2_with fail
        refine HCL.out.mono ?_
        rintro e w1 ⟨rfl, hb1⟩
        have HB1 := Lib.hid hb1
        clear hb1
        go_wp2
        go_roundw
        case rel => exact ⟨k + 1, by omega, by go_num, HN2.out, HB.out.trans (HB1.out.mono HB.out.size)⟩
        case measure => simp [intOf]; omega
    · obtain rfl : k = l.length := by omega
      have fin := Lib.hid (idxI_none (p := fun x : DNode => x.fId == id) HN.out)
      go_wp2
      go_ret
      exact ⟨ret_i (by unfold nodeIndex; rw [fin.out]), HB.out⟩

set_option maxHeartbeats 1600000 in
set_option maxRecDepth 100000 in
theorem impl_NodeIndex {lo hi : Nat} {a0 : Option Addr} {c0_0 : Nat} (t : DTree) (_ : t.ok) (hsz : t.sz ≤ 1048576) (id : Int) (_ : okI id) (w : World) (hhi : hi ≤ w.heap.size) (hs : Sl lo hi w 6 t.fNodes.length (fun k => DNode.ct (t.fNodes.getD k default)) a0) :
    Calls Try.prog 25 #[.agg #[.slice a0 t.fNodes.length c0_0], .int .i64 id] w fun e w' => e = .returned (.int .i64 (nodeIndex t.fNodes id)) ∧ Below w.heap.size w w' := by
  have hn : t.fNodes.length ≤ 1048576 := by unfold DTree.sz lsz at hsz; omega
  clear hsz
  have HB := Lib.hid (((Below.refl w.heap.size w).alloc (Nat.le_refl _) (.cells #[.slice a0 t.fNodes.length c0_0] 45)).alloc (by simp) (.cells #[.int .i64 id] 3))
  have HS := Lib.hid (hs.later HB.out hhi)
  clear hs
  generalize t.fNodes = l at *
  go_enter Try.func25, Try.ntmps25
  go_wp2_with fail
  refine (IndexFunc_NodeIndex l hn id _ (Nat.le_trans hhi HB.out.size) HS.out (by go_simp) (by simp)).mono ?_
  rintro e w1 ⟨rfl, hb1⟩
  have HB1 := Lib.hid (HB.out.trans (hb1.mono HB.out.size))
  clear hb1
  go_wp2
  go_ret
  exact ⟨rfl, HB1.out⟩
end Go.Proofs.Ytnkhjkdocaobpaa
