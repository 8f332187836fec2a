/-
  FindAttribute, in the model and in the program.
-/
import Derived.Test.YticchgfhmfjknaaTSymbol
import Derived.Test.YticchgfhmfjknaaIdx
import Derived.Lib.Strings
namespace Go.Proofs.Yticchgfhmfjknaa
open Go.ChangeShapes Go.WideShapes Go.ChangeAt Go.RowKit Go.Deep

theorem toList_inj' {x y : ByteArray} (h : x.toList = y.toList) : x = y := by
  rw [Lib.toList_data, Lib.toList_data] at h
  cases x; cases y
  simp only at h
  rw [ByteArray.mk.injEq]
  exact Array.toList_inj.1 h

def PAttr (nm : ByteArray) (y : DAttribute) : Bool := y.fName.toList == nm.toList
theorem PAttr_yes {nm : ByteArray} {y : DAttribute} (h : y.fName = nm) : PAttr nm y = true := by unfold PAttr; rw [h]; simp
theorem PAttr_no {nm : ByteArray} {y : DAttribute} (h : y.fName ≠ nm) : PAttr nm y = false := beq_eq_false_iff_ne.2 (fun e => h (toList_inj' e))
def zeroAttr : DAttribute := ⟨⟨#[]⟩, 0, 0, false⟩
/-- The first attribute of the name, and whether there is one. -/
def findAttr (s : DSymbol) (nm : ByteArray) : DAttribute × Bool := if 0 ≤ idxI (PAttr nm) s.fAttributes then (s.fAttributes.getD (idxI (PAttr nm) s.fAttributes).toNat default, true) else (zeroAttr, false)
theorem findAttr_at {s : DSymbol} {nm : ByteArray} {k : Nat} (h : idxI (PAttr nm) s.fAttributes = k) : findAttr s nm = (s.fAttributes.getD k default, true) := by unfold findAttr; rw [h, if_pos (by omega), Int.toNat_natCast]
theorem findAttr_none {s : DSymbol} {nm : ByteArray} (h : idxI (PAttr nm) s.fAttributes = -1) : findAttr s nm = (zeroAttr, false) := by unfold findAttr; rw [h, if_neg (by omega)]
theorem ret_find {v : Value} {x y : DAttribute × Bool} (h : x = y) (hv : v = .tuple #[.agg #[.string y.1.fName, .int .i64 y.1.fType, .int .i64 y.1.fMode, .bool y.1.fCircular], .bool y.2]) : Ending.returned v = .returned (.tuple #[.agg #[.string x.1.fName, .int .i64 x.1.fType, .int .i64 x.1.fMode, .bool x.1.fCircular], .bool x.2]) := by rw [hv, h]

set_option maxHeartbeats 1600000 in
set_option maxRecDepth 100000 in
theorem spec_FindAttributeL {lo hi : Nat} {a1 : Option Addr} {c0_0 : Nat} (s : DSymbol) (hn : s.fAttributes.length ≤ 1048576) (nm : ByteArray) (w : World) (hhi : hi ≤ w.heap.size) (hs : Sl lo hi w 4 s.fAttributes.length (fun k => DAttribute.ct (s.fAttributes.getD k default)) a1) :
    Calls Try.prog 25 #[.agg #[.string s.fName, .slice a1 s.fAttributes.length c0_0], .string nm] w fun e w' => e = .returned (.tuple #[.agg #[.string (findAttr s nm).1.fName, .int .i64 (findAttr s nm).1.fType, .int .i64 (findAttr s nm).1.fMode, .bool (findAttr s nm).1.fCircular], .bool (findAttr s nm).2]) ∧ Below w.heap.size w w' := by
  have HB := Lib.hid (((Below.refl w.heap.size w).alloc (Nat.le_refl _) (.cells #[.string s.fName, .slice a1 s.fAttributes.length c0_0] 59)).alloc (by simp) (.cells #[.string ⟨#[]⟩, .int .i64 0, .int .i64 0, .bool false] 66))
  have HS := Lib.hid (hs.later HB.out hhi)
  clear hs
  go_enter Try.func25, Try.ntmps25
  go_wp2
  go_loop [6] (fun i => ∃ k : Nat, k ≤ s.fAttributes.length ∧ i = .int .i64 (k : Int) ∧ noneBelow (PAttr nm) s.fAttributes k) (fun i => s.fAttributes.length - (intOf i).toNat)
  case atStart => exact ⟨0, Nat.zero_le _, rfl, noneBelow_zero _ _⟩
  case round =>
    obtain ⟨k, hk, rfl, hno⟩ := hrel
    have HN := Lib.hid hno
    clear hno
    by_cases hlt : k < s.fAttributes.length
    · obtain ⟨b, off, rfl, _, _, hc⟩ := HS.out.at k hlt
      obtain ⟨hc0, hc1, hc2, hc3⟩ := DAttribute.open hc
      clear hc
      by_cases he : (s.fAttributes.getD k default).fName = nm
      · have fin := Lib.hid (findAttr_at (idxI_at (p := PAttr nm) hlt (PAttr_yes he) HN.out))
        have hc0' := hc0
        rw [he] at hc0
        have HE := Lib.hid he
        clear he hc0'
        have FR := Lib.hid (fun (v : Value) (hv : v = .tuple #[.agg #[.string (s.fAttributes.getD k default).fName, .int .i64 (s.fAttributes.getD k default).fType, .int .i64 (s.fAttributes.getD k default).fMode, .bool (s.fAttributes.getD k default).fCircular], .bool true]) => ret_find fin.out hv)
        generalize hx : s.fAttributes.getD k default = x at hc1 hc2 hc3 HE FR
        clear fin hx
        go_wp2
        exact bodyPost_ret (v := .tuple #[.agg #[.string nm, .int .i64 x.fType, .int .i64 x.fMode, .bool x.fCircular], .bool true]) (by simp [results, Try.results25, go_sem]) rfl ⟨FR.out _ (by rw [← HE.out]), by
          repeat (first | (with_reducible exact HB.out) | (with_reducible exact Below.refl _ _) | (refine Below.setCell ?_ (by simp <;> omega) _) | (refine Below.alloc ?_ (by simp <;> omega) _))⟩
      · have HN2 := Lib.hid (noneBelow_succ HN.out (k := k) (PAttr_no he))
        have e2 : ((s.fAttributes.getD k default).fName.toList == nm.toList) = false := PAttr_no he
        clear he hc1 hc2 hc3
        generalize (s.fAttributes.getD k default).fName = q at *
        go_wp2
        go_round
        case rel => exact ⟨k + 1, by omega, by go_num, HN2.out⟩
        case measure => simp [intOf]; omega
    · obtain rfl : k = s.fAttributes.length := by omega
      have fin := Lib.hid (findAttr_none (idxI_none (p := PAttr nm) HN.out))
      go_wp2
      exact bodyPost_ret (v := .tuple #[.agg #[.string ⟨#[]⟩, .int .i64 0, .int .i64 0, .bool false], .bool false]) (by simp [results, Try.results25, go_sem]) rfl ⟨ret_find fin.out rfl, by
        repeat (first | (with_reducible exact HB.out) | (with_reducible exact Below.refl _ _) | (refine Below.setCell ?_ (by simp <;> omega) _) | (refine Below.alloc ?_ (by simp <;> omega) _))⟩

set_option maxHeartbeats 1600000 in
set_option maxRecDepth 100000 in
theorem impl_FindAttributeL {lo hi : Nat} {a1 : Option Addr} {c0_0 : Nat} (s : DSymbol) (hn : s.fAttributes.length ≤ 1048576) (nm : ByteArray) (w : World) (hhi : hi ≤ w.heap.size) (hs : Sl lo hi w 4 s.fAttributes.length (fun k => DAttribute.ct (s.fAttributes.getD k default)) a1) :
    Calls Try.prog 58 #[.agg #[.string s.fName, .slice a1 s.fAttributes.length c0_0], .string nm] w fun e w' => e = .returned (.tuple #[.agg #[.string (findAttr s nm).1.fName, .int .i64 (findAttr s nm).1.fType, .int .i64 (findAttr s nm).1.fMode, .bool (findAttr s nm).1.fCircular], .bool (findAttr s nm).2]) ∧ Below w.heap.size w w' := by
  have HB := Lib.hid (((Below.refl w.heap.size w).alloc (Nat.le_refl _) (.cells #[.string s.fName, .slice a1 s.fAttributes.length c0_0] 59)).alloc (by simp) (.cells #[.string ⟨#[]⟩, .int .i64 0, .int .i64 0, .bool false] 66))
  have HBZ := Lib.hid (show w.heap.size + 1 < ((w.alloc (.cells #[.string s.fName, .slice a1 s.fAttributes.length c0_0] 59)).alloc (.cells #[.string ⟨#[]⟩, .int .i64 0, .int .i64 0, .bool false] 66)).heap.size by simp)
  have HG := Lib.hid (show ((w.alloc (.cells #[.string s.fName, .slice a1 s.fAttributes.length c0_0] 59)).alloc (.cells #[.string ⟨#[]⟩, .int .i64 0, .int .i64 0, .bool false] 66)).heap[w.heap.size + 1]? = some (.cells #[.string ⟨#[]⟩, .int .i64 0, .int .i64 0, .bool false] 66) from blk_new (by simp))
  have HS := Lib.hid (hs.later HB.out hhi)
  have HH := Lib.hid (Nat.le_trans hhi HB.out.size)
  clear hs
  go_enter Try.func58, Try.ntmps58
  go_wp2
  go_loopw [11] (fun i wr => ∃ k : Nat, k ≤ s.fAttributes.length ∧ i = .int .i64 (k : Int) ∧ noneBelow (PAttr nm) s.fAttributes k ∧ Below ((w.alloc (.cells #[.string s.fName, .slice a1 s.fAttributes.length c0_0] 59)).alloc (.cells #[.string ⟨#[]⟩, .int .i64 0, .int .i64 0, .bool false] 66)).heap.size ((w.alloc (.cells #[.string s.fName, .slice a1 s.fAttributes.length c0_0] 59)).alloc (.cells #[.string ⟨#[]⟩, .int .i64 0, .int .i64 0, .bool false] 66)) wr) (fun i _ => s.fAttributes.length - (intOf i).toNat)
  case atStart => exact ⟨0, Nat.zero_le _, rfl, noneBelow_zero _ _, Below.refl _ _⟩
  case round =>
    obtain ⟨k, hk, rfl, hno, hbl⟩ := hrel
    have HN := Lib.hid hno
    clear hno
    have HBL := Lib.hid hbl
    have hz : w.heap.size + 1 < wr.heap.size := Nat.lt_of_lt_of_le HBZ.out hbl.size
    have HGR := Lib.hid ((hbl.block _ HBZ.out).trans HG.out)
    have g0 : wr.cell? ⟨w.heap.size + 1, 0, none⟩ = some (.string ⟨#[]⟩) := (hbl.cell (p := ⟨w.heap.size + 1, 0, none⟩) HBZ.out).trans (by go_simp)
    have g1 : wr.cell? ⟨w.heap.size + 1, 1, none⟩ = some (.int .i64 0) := (hbl.cell (p := ⟨w.heap.size + 1, 1, none⟩) HBZ.out).trans (by go_simp)
    have g2 : wr.cell? ⟨w.heap.size + 1, 2, none⟩ = some (.int .i64 0) := (hbl.cell (p := ⟨w.heap.size + 1, 2, none⟩) HBZ.out).trans (by go_simp)
    have g3 : wr.cell? ⟨w.heap.size + 1, 3, none⟩ = some (.bool false) := (hbl.cell (p := ⟨w.heap.size + 1, 3, none⟩) HBZ.out).trans (by go_simp)
    have f0 : wr.frozen? ⟨w.heap.size + 1, 0, none⟩ = false := (hbl.frozen (p := ⟨w.heap.size + 1, 0, none⟩) HBZ.out).trans (by go_simp)
    have f1 : wr.frozen? ⟨w.heap.size + 1, 1, none⟩ = false := (hbl.frozen (p := ⟨w.heap.size + 1, 1, none⟩) HBZ.out).trans (by go_simp)
    have f2 : wr.frozen? ⟨w.heap.size + 1, 2, none⟩ = false := (hbl.frozen (p := ⟨w.heap.size + 1, 2, none⟩) HBZ.out).trans (by go_simp)
    have f3 : wr.frozen? ⟨w.heap.size + 1, 3, none⟩ = false := (hbl.frozen (p := ⟨w.heap.size + 1, 3, none⟩) HBZ.out).trans (by go_simp)
    have HFIN := Lib.hid (HB.out.trans (hbl.mono HB.out.size))
    by_cases hlt : k < s.fAttributes.length
    · obtain ⟨b, off, rfl, _, _, hc⟩ := (HS.out.later hbl HH.out).at k hlt
      obtain ⟨hc0, hc1, hc2, hc3⟩ := DAttribute.open hc
      clear hc hbl
      by_cases he : (s.fAttributes.getD k default).fName = nm
      · have fin := Lib.hid (findAttr_at (idxI_at (p := PAttr nm) hlt (PAttr_yes he) HN.out))
        rw [he] at hc0
        have HE := Lib.hid he
        clear he
        have FR := Lib.hid (fun (v : Value) (hv : v = .tuple #[.agg #[.string (s.fAttributes.getD k default).fName, .int .i64 (s.fAttributes.getD k default).fType, .int .i64 (s.fAttributes.getD k default).fMode, .bool (s.fAttributes.getD k default).fCircular], .bool true]) => ret_find fin.out hv)
        generalize hx : s.fAttributes.getD k default = x at hc1 hc2 hc3 HE FR
        clear fin hx
        go_wp2
        refine bodyPost_ret (v := .tuple #[.agg #[.string nm, .int .i64 x.fType, .int .i64 x.fMode, .bool x.fCircular], .bool true]) (results_cell_tmp Try.results58 _ _ (w.heap.size + 1) 66 #[.string nm, .int .i64 x.fType, .int .i64 x.fMode, .bool x.fCircular] (0, 0) _ rfl (by (repeat (with_reducible refine blk_alloc (by simp [World.setCell]; omega) ?_)); refine Eq.trans (blk_set (cs := #[.string nm, .int .i64 x.fType, .int .i64 x.fMode, .bool false]) (t := 66) (fr := (0, 0)) ?_) rfl; refine Eq.trans (blk_set (cs := #[.string nm, .int .i64 x.fType, .int .i64 0, .bool false]) (t := 66) (fr := (0, 0)) ?_) rfl; refine Eq.trans (blk_set (cs := #[.string nm, .int .i64 0, .int .i64 0, .bool false]) (t := 66) (fr := (0, 0)) ?_) rfl; refine Eq.trans (blk_set (cs := #[.string ⟨#[]⟩, .int .i64 0, .int .i64 0, .bool false]) (t := 66) (fr := (0, 0)) ?_) rfl; exact HGR.out) Try.underlying66 rfl rfl) rfl ⟨FR.out _ (by rw [← HE.out]), ?_⟩
        repeat (first | (with_reducible exact HFIN.out) | (refine Below.setCell ?_ (by simp <;> omega) _) | (refine Below.alloc ?_ (by simp <;> omega) _))
      · have HN2 := Lib.hid (noneBelow_succ HN.out (k := k) (PAttr_no he))
        have e2 : ((s.fAttributes.getD k default).fName.toList == nm.toList) = false := PAttr_no he
        clear he
        generalize s.fAttributes.getD k default = x at *
        go_wp2
        go_roundw
        case rel => exact ⟨k + 1, by omega, by go_num, HN2.out, by
          repeat (first | (with_reducible exact HBL.out) | (refine Below.setCell ?_ (by have := HBL.out.size; simp at this ⊢; omega) _) | (refine Below.alloc ?_ (by have := HBL.out.size; simp at this ⊢; omega) _))⟩
        case measure => simp [intOf]; omega
    · obtain rfl : k = s.fAttributes.length := by omega
      have fin := Lib.hid (findAttr_none (idxI_none (p := PAttr nm) HN.out))
      clear hbl
      go_wp2
      refine bodyPost_ret (v := .tuple #[.agg #[.string ⟨#[]⟩, .int .i64 0, .int .i64 0, .bool false], .bool false]) (results_cell_tmp Try.results58 _ _ (w.heap.size + 1) 66 #[.string ⟨#[]⟩, .int .i64 0, .int .i64 0, .bool false] (0, 0) _ rfl (by (repeat (with_reducible refine blk_alloc (by simp [World.setCell]; omega) ?_)); refine Eq.trans (blk_set (cs := #[.string ⟨#[]⟩, .int .i64 0, .int .i64 0, .bool false]) (t := 66) (fr := (0, 0)) ?_) rfl; refine Eq.trans (blk_set (cs := #[.string ⟨#[]⟩, .int .i64 0, .int .i64 0, .bool false]) (t := 66) (fr := (0, 0)) ?_) rfl; refine Eq.trans (blk_set (cs := #[.string ⟨#[]⟩, .int .i64 0, .int .i64 0, .bool false]) (t := 66) (fr := (0, 0)) ?_) rfl; refine Eq.trans (blk_set (cs := #[.string ⟨#[]⟩, .int .i64 0, .int .i64 0, .bool false]) (t := 66) (fr := (0, 0)) ?_) rfl; exact HGR.out) Try.underlying66 rfl rfl) rfl ⟨ret_find fin.out rfl, ?_⟩
      repeat (first | (with_reducible exact HFIN.out) | (refine Below.setCell ?_ (by simp <;> omega) _) | (refine Below.alloc ?_ (by simp <;> omega) _))

theorem spec_FindAttribute {lo hi : Nat} {a1 : Option Addr} {c0_0 : Nat} (s : DSymbol) (_ : s.ok) (hsz : s.sz ≤ 1048576) (nm : ByteArray) (_ : okS nm) (_ : nm.size ≤ 1048576) (w : World) (hhi : hi ≤ w.heap.size) (hs : Sl lo hi w 4 s.fAttributes.length (fun k => DAttribute.ct (s.fAttributes.getD k default)) a1) :
    Calls Try.prog 25 #[.agg #[.string s.fName, .slice a1 s.fAttributes.length c0_0], .string nm] w fun e w' => e = .returned (.tuple #[.agg #[.string (findAttr s nm).1.fName, .int .i64 (findAttr s nm).1.fType, .int .i64 (findAttr s nm).1.fMode, .bool (findAttr s nm).1.fCircular], .bool (findAttr s nm).2]) ∧ Below w.heap.size w w' :=
  spec_FindAttributeL s (by unfold DSymbol.sz lsz at hsz; omega) nm w hhi hs

theorem impl_FindAttribute {lo hi : Nat} {a1 : Option Addr} {c0_0 : Nat} (s : DSymbol) (_ : s.ok) (hsz : s.sz ≤ 1048576) (nm : ByteArray) (_ : okS nm) (_ : nm.size ≤ 1048576) (w : World) (hhi : hi ≤ w.heap.size) (hs : Sl lo hi w 4 s.fAttributes.length (fun k => DAttribute.ct (s.fAttributes.getD k default)) a1) :
    Calls Try.prog 58 #[.agg #[.string s.fName, .slice a1 s.fAttributes.length c0_0], .string nm] w fun e w' => e = .returned (.tuple #[.agg #[.string (findAttr s nm).1.fName, .int .i64 (findAttr s nm).1.fType, .int .i64 (findAttr s nm).1.fMode, .bool (findAttr s nm).1.fCircular], .bool (findAttr s nm).2]) ∧ Below w.heap.size w w' :=
  impl_FindAttributeL s (by unfold DSymbol.sz lsz at hsz; omega) nm w hhi hs
end Go.Proofs.Yticchgfhmfjknaa
