/-
  SlotValue, in the model and in the program.
-/
import Derived.Test.YthpnghbhfbiljaaTSlot
import Derived.Test.YthpnghbhfbiljaaIdx
import Derived.Lib.Strings
namespace Go.Proofs.Ythpnghbhfbiljaa
open Go.ChangeShapes Go.WideShapes Go.ChangeAt Go.RowKit Go.Deep

theorem toList_inj' {x y : ByteArray} (h : x.toList = y.toList) : x = y := by
  rw [Lib.toList_data, Lib.toList_data] at h
  cases x; cases y
  simp only at h
  rw [ByteArray.mk.injEq]
  exact Array.toList_inj.1 h

def PSlot (x : DOccurrence) (y : DSlot) : Bool := y.fAt.fPos == x.fPos && y.fAt.fName.toList == x.fName.toList
theorem PSlot_yes {x : DOccurrence} {y : DSlot} (h1 : y.fAt.fPos = x.fPos) (h2 : y.fAt.fName = x.fName) : PSlot x y = true := by unfold PSlot; rw [h1, h2]; simp
theorem PSlot_no1 {x : DOccurrence} {y : DSlot} (h1 : y.fAt.fPos ≠ x.fPos) : PSlot x y = false := by unfold PSlot; simp [h1]
theorem PSlot_no2 {x : DOccurrence} {y : DSlot} (h1 : y.fAt.fName ≠ x.fName) : PSlot x y = false := by
  unfold PSlot
  rw [show (y.fAt.fName.toList == x.fName.toList) = false from beq_eq_false_iff_ne.2 (fun e => h1 (toList_inj' e)), Bool.and_false]
/-- The value of the first slot of the occurrence, 0 if there is none. -/
def slotValue (l : List DSlot) (x : DOccurrence) : Int := if 0 ≤ idxI (PSlot x) l then (l.getD (idxI (PSlot x) l).toNat default).fValue else 0
theorem slotValue_at {l : List DSlot} {x : DOccurrence} {k : Nat} (h : idxI (PSlot x) l = k) : slotValue l x = (l.getD k default).fValue := by unfold slotValue; rw [h, if_pos (by omega), Int.toNat_natCast]
theorem slotValue_none {l : List DSlot} {x : DOccurrence} (h : idxI (PSlot x) l = -1) : slotValue l x = 0 := by unfold slotValue; rw [h, if_neg (by omega)]

set_option maxHeartbeats 1600000 in
set_option maxRecDepth 100000 in
theorem spec_SlotValue_of {lo hi : Nat} {a0 : Option Addr} {c0_0 : Nat} (l : List DSlot) (hsz : lsz DSlot.sz l ≤ 1048576) (x : DOccurrence) (w : World) (hhi : hi ≤ w.heap.size) (hs : Sl lo hi w 3 l.length (fun k => DSlot.ct (l.getD k default)) a0) :
    Calls Try.prog 39 #[.slice a0 l.length c0_0, .agg #[.int .i64 x.fPos, .string x.fName]] w fun e w' => e = .returned (.int .i64 (slotValue l x)) ∧ Below w.heap.size w w' := by
  have hn : l.length ≤ 1048576 := by unfold lsz at hsz; omega
  clear hsz
  have HB := Lib.hid ((Below.refl w.heap.size w).alloc (Nat.le_refl _) (.cells #[.int .i64 x.fPos, .string x.fName] 52))
  have HS := Lib.hid (hs.later HB.out hhi)
  clear hs
  go_enter Try.func39, Try.ntmps39
  go_wp2
  go_loopw [5] (fun i wr => ∃ k : Nat, k ≤ l.length ∧ i = .int .i64 (k : Int) ∧ noneBelow (PSlot x) l k ∧ ∃ n, wr = (w.alloc (.cells #[.int .i64 x.fPos, .string x.fName] 52)).drewN n) (fun i _ => l.length - (intOf i).toNat)
  case atStart => exact ⟨0, Nat.zero_le _, rfl, noneBelow_zero _ _, 0, rfl⟩
  case round =>
    obtain ⟨k, hk, rfl, hno, nd, rfl⟩ := hrel
    have HN := Lib.hid hno
    clear hno
    by_cases hlt : k < l.length
    · obtain ⟨b, off, rfl, _, _, hc⟩ := HS.out.at k hlt
      obtain ⟨hc0, hc1, hc2⟩ := DSlot.open hc
      clear hc
      by_cases h1 : (l.getD k default).fAt.fPos = x.fPos
      · by_cases h2 : (l.getD k default).fAt.fName = x.fName
        · have fin := Lib.hid (slotValue_at (idxI_at (p := PSlot x) hlt (PSlot_yes h1 h2) HN.out))
          rw [h1] at hc0
          rw [h2] at hc1
          clear h1 h2
          generalize (l.getD k default).fValue = z at *
          go_wp2
          go_quiet (fail)
          go_wp2
          go_ret
          exact ⟨ret_i (by rw [fin.out]), below_drewN HB.out _⟩
        · have HN2 := Lib.hid (noneBelow_succ HN.out (k := k) (PSlot_no2 h2))
          rw [h1] at hc0
          have e2 : ((l.getD k default).fAt.fName.toList == x.fName.toList) = false := beq_eq_false_iff_ne.2 (fun e => h2 (toList_inj' e))
          clear h1 h2 hc2
          generalize (l.getD k default).fAt.fName = q at *
          go_wp2
          go_quiet (fail)
          go_wp2
          go_roundw
          case rel => exact ⟨k + 1, by omega, by go_num, HN2.out, _, rfl⟩
          case measure => simp [intOf]; omega
      · have HN2 := Lib.hid (noneBelow_succ HN.out (k := k) (PSlot_no1 h1))
        have e2 : ((l.getD k default).fAt.fPos == x.fPos) = false := beq_eq_false_iff_ne.2 h1
        clear h1 hc2
        generalize (l.getD k default).fAt.fPos = z at *
        generalize (l.getD k default).fAt.fName = q at *
        go_wp2
        go_quiet (fail)
        go_wp2
        go_roundw
        case rel => exact ⟨k + 1, by omega, by go_num, HN2.out, _, rfl⟩
        case measure => simp [intOf]; omega
    · obtain rfl : k = l.length := by omega
      have fin := Lib.hid (slotValue_none (idxI_none (p := PSlot x) HN.out))
      go_wp2
      go_ret
      exact ⟨ret_i (by rw [fin.out]), below_drewN HB.out _⟩

set_option maxHeartbeats 1600000 in
set_option maxRecDepth 100000 in
theorem impl_SlotValue1 {b : Nat} (y : DSlot) (x : DOccurrence) (v : Bool) (hv : PSlot x y = v) (w : World) (hc0 : w.cell? ⟨b, 0, none⟩ = some (.int .i64 x.fPos)) (hc1 : w.cell? ⟨b, 1, none⟩ = some (.string x.fName)) (hb : b < w.heap.size) :
    Calls Try.prog 46 #[.agg #[.int .i64 y.fAt.fPos, .string y.fAt.fName, .int .i64 y.fValue], .pointer (some ⟨b, 0, none⟩)] w fun e w' => e = .returned (.bool v) ∧ Below w.heap.size w w' := by
  have HB := Lib.hid ((Below.refl w.heap.size w).alloc (Nat.le_refl _) (.cells #[.int .i64 y.fAt.fPos, .string y.fAt.fName, .int .i64 y.fValue] 54))
  have hd0 := (HB.out.cell (p := ⟨b, 0, none⟩) hb).trans hc0
  have hd1 := (HB.out.cell (p := ⟨b, 1, none⟩) hb).trans hc1
  clear hc0 hc1
  subst hv
  by_cases h1 : y.fAt.fPos = x.fPos
  · by_cases h2 : y.fAt.fName = x.fName
    · have fin := Lib.hid (PSlot_yes h1 h2)
      rw [← h1] at hd0
      rw [← h2] at hd1
      clear h1 h2
      go_enter Try.func46, Try.ntmps46
      go_wp2
      go_ret
      exact ⟨ret_b fin.out.symm, HB.out⟩
    · have fin := Lib.hid (PSlot_no2 h2)
      rw [← h1] at hd0
      have e2 : (y.fAt.fName.toList == x.fName.toList) = false := beq_eq_false_iff_ne.2 (fun e => h2 (toList_inj' e))
      clear h1 h2
      go_enter Try.func46, Try.ntmps46
      go_wp2
      go_ret
      exact ⟨ret_b fin.out.symm, HB.out⟩
  · have fin := Lib.hid (PSlot_no1 h1)
    have e2 : (y.fAt.fPos == x.fPos) = false := beq_eq_false_iff_ne.2 h1
    clear h1
    go_enter Try.func46, Try.ntmps46
    go_wp2
    go_ret
    exact ⟨ret_b fin.out.symm, HB.out⟩

set_option maxHeartbeats 1600000 in
set_option maxRecDepth 100000 in
theorem IndexFunc_SlotValue {lo hi b cap : Nat} {a0 : Option Addr} (l : List DSlot) (hn : l.length ≤ 1048576) (x : DOccurrence) (w : World) (hhi : hi ≤ w.heap.size) (hs : Sl lo hi w 3 l.length (fun k => DSlot.ct (l.getD k default)) a0) (hc0 : w.cell? ⟨b, 0, none⟩ = some (.int .i64 x.fPos)) (hc1 : w.cell? ⟨b, 1, none⟩ = some (.string x.fName)) (hb : b < w.heap.size) :
    Calls Try.prog 45 #[.slice a0 l.length cap, .func (.func 46) #[] #[.pointer (some ⟨b, 0, none⟩)]] w fun e w' => e = .returned (.int .i64 (idxI (PSlot x) l)) ∧ Below w.heap.size w w' := by
  have HS := Lib.hid hs
  have HC0 := Lib.hid hc0
  have HC1 := Lib.hid hc1
  clear hs hc0 hc1
  go_enter Try.func45, Try.ntmps45
  go_wp2
  go_loopw [8] (fun i wr => ∃ k : Nat, k ≤ l.length ∧ i = .int .i64 (k : Int) ∧ noneBelow (PSlot x) l k ∧ Below w.heap.size w wr) (fun i _ => l.length - (intOf i).toNat)
  case atStart => exact ⟨0, Nat.zero_le _, rfl, noneBelow_zero _ _, Below.refl _ _⟩
  case round =>
    obtain ⟨k, hk, rfl, hno, hbl⟩ := hrel
    have HN := Lib.hid hno
    have HB := Lib.hid hbl
    clear hno
    by_cases hlt : k < l.length
    · obtain ⟨b1, off, rfl, _, _, hc⟩ := (HS.out.later (hbl.mono hhi) (Nat.le_refl _)).at k hlt
      obtain ⟨hc0, hc1, hc2⟩ := DSlot.open hc
      have hcl := fun v hv => impl_SlotValue1 (l.getD k default) x v hv wr ((hbl.cell (p := ⟨b, 0, none⟩) hb).trans HC0.out) ((hbl.cell (p := ⟨b, 1, none⟩) hb).trans HC1.out) (Nat.lt_of_lt_of_le hb hbl.size)
      clear hc hbl
      by_cases he : PSlot x (l.getD k default) = true
      · have fin := Lib.hid (idxI_at (p := PSlot x) hlt he HN.out)
        have HCL := Lib.hid (hcl true he)
        clear he hcl
        generalize l.getD k default = y at *
        go_wp2_with fail
        refine HCL.out.mono ?_
        rintro e w1 ⟨rfl, hb1⟩
        go_wp2
        go_ret
        exact ⟨ret_i (by rw [fin.out]), HB.out.trans (hb1.mono HB.out.size)⟩
      · have he' : PSlot x (l.getD k default) = false := by simpa using he
        have HN2 := Lib.hid (noneBelow_succ HN.out (k := k) he')
        have HCL := Lib.hid (hcl false he')
        clear he he' hcl
        generalize l.getD k default = y at *
        go_wp2_with fail
        refine HCL.out.mono ?_
        rintro e w1 ⟨rfl, hb1⟩
        have HB1 := Lib.hid hb1
        clear hb1
        go_wp2
        go_roundw
        case rel => exact ⟨k + 1, by omega, by go_num, HN2.out, HB.out.trans (HB1.out.mono HB.out.size)⟩
        case measure => simp [intOf]; omega
    · obtain rfl : k = l.length := by omega
      have fin := Lib.hid (idxI_none (p := PSlot x) HN.out)
      go_wp2
      go_ret
      exact ⟨ret_i (by rw [fin.out]), HB.out⟩

theorem idxI_cases {α : Type} (p : α → Bool) (l : List α) : idxI p l = -1 ∨ ∃ k : Nat, k < l.length ∧ idxI p l = k := by
  unfold idxI
  cases h : l.findIdx? p with
  | none => exact Or.inl rfl
  | some k => exact Or.inr ⟨k, (List.findIdx?_eq_some_iff_getElem.1 h).1, rfl⟩

set_option maxHeartbeats 1600000 in
set_option maxRecDepth 100000 in
theorem impl_SlotValue_of {lo hi : Nat} {a0 : Option Addr} {c0_0 : Nat} (l : List DSlot) (hsz : lsz DSlot.sz l ≤ 1048576) (x : DOccurrence) (w : World) (hhi : hi ≤ w.heap.size) (hs : Sl lo hi w 3 l.length (fun k => DSlot.ct (l.getD k default)) a0) :
    Calls Try.prog 25 #[.slice a0 l.length c0_0, .agg #[.int .i64 x.fPos, .string x.fName]] w fun e w' => e = .returned (.int .i64 (slotValue l x)) ∧ Below w.heap.size w w' := by
  have hn : l.length ≤ 1048576 := by unfold lsz at hsz; omega
  clear hsz
  have HB := Lib.hid ((Below.refl w.heap.size w).alloc (Nat.le_refl _) (.cells #[.int .i64 x.fPos, .string x.fName] 52))
  have HI := Lib.hid (IndexFunc_SlotValue (b := w.heap.size) (cap := c0_0) l hn x _ (Nat.le_trans hhi HB.out.size) (hs.later HB.out hhi) (by rw [World.cell?_alloc_new]; rfl) (by rw [World.cell?_alloc_new]; rfl) (by simp))
  have HS := Lib.hid hs
  clear hs
  rcases idxI_cases (PSlot x) l with h | ⟨k, hk, h⟩
  · have fin := Lib.hid (slotValue_none h)
    rw [h] at HI
    clear h
    go_enter Try.func25, Try.ntmps25
    go_wp2_with fail
    refine HI.out.mono ?_
    rintro e w1 ⟨rfl, hb1⟩
    have HB1 := Lib.hid (HB.out.trans (hb1.mono HB.out.size))
    clear hb1
    go_wp2
    go_ret
    exact ⟨ret_i (by rw [fin.out]), HB1.out⟩
  · have fin := Lib.hid (slotValue_at h)
    rw [h] at HI
    clear h
    go_enter Try.func25, Try.ntmps25
    go_wp2_with fail
    refine HI.out.mono ?_
    rintro e w1 ⟨rfl, hb1⟩
    have HB1 := Lib.hid (HB.out.trans (hb1.mono HB.out.size))
    clear hb1
    obtain ⟨b, off, rfl, _, _, hc⟩ := (HS.out.later (HB1.out.mono hhi) (Nat.le_refl _)).at k hk
    obtain ⟨hc0, hc1, hc2⟩ := DSlot.open hc
    clear hc hc0 hc1
    generalize (l.getD k default).fValue = z at *
    go_wp2
    go_ret
    exact ⟨ret_i (by rw [fin.out]), HB1.out⟩
theorem spec_SlotValue {lo hi : Nat} {a0 : Option Addr} {c0_0 : Nat} (l : List DSlot) (_ : okL DSlot.ok l) (hsz : lsz DSlot.sz l ≤ 1048576) (x : DOccurrence) (_ : x.ok) (_ : x.sz ≤ 1048576) (w : World) (hhi : hi ≤ w.heap.size) (hs : Sl lo hi w 3 l.length (fun k => DSlot.ct (l.getD k default)) a0) :
    Calls Try.prog 39 #[.slice a0 l.length c0_0, .agg #[.int .i64 x.fPos, .string x.fName]] w fun e w' => e = .returned (.int .i64 (slotValue l x)) ∧ Below w.heap.size w w' := spec_SlotValue_of l hsz x w hhi hs
theorem impl_SlotValue {lo hi : Nat} {a0 : Option Addr} {c0_0 : Nat} (l : List DSlot) (_ : okL DSlot.ok l) (hsz : lsz DSlot.sz l ≤ 1048576) (x : DOccurrence) (_ : x.ok) (_ : x.sz ≤ 1048576) (w : World) (hhi : hi ≤ w.heap.size) (hs : Sl lo hi w 3 l.length (fun k => DSlot.ct (l.getD k default)) a0) :
    Calls Try.prog 25 #[.slice a0 l.length c0_0, .agg #[.int .i64 x.fPos, .string x.fName]] w fun e w' => e = .returned (.int .i64 (slotValue l x)) ∧ Below w.heap.size w w' := impl_SlotValue_of l hsz x w hhi hs
end Go.Proofs.Ythpnghbhfbiljaa
