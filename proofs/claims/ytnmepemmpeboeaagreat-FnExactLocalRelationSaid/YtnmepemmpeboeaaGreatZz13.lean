/-
  Relations: IsValidRelation and HasPair, in the model and in the program.
  HasPair, in the model and in the program.
-/
import Derived.Test.YtnmepemmpeboeaaGreatZz6
import Derived.Test.YtnmepemmpeboeaaGreatZz2
import Derived.Test.YtnmepemmpeboeaaGreatZz7
import Derived.Laws.EntriesVeiled
namespace Go.Proofs.YtnmepemmpeboeaaGreat
open Go.ChangeShapes Go.WideShapes Go.ChangeAt Go.RowKit Go.Deep

theorem pow_in {n : Nat} (hn : n ≤ 16) : (1 : Int) ≤ 2 ^ n ∧ (2 : Int) ^ n ≤ 65536 := by
  have h1 : (2 : Nat) ^ n ≤ 2 ^ 16 := Nat.pow_le_pow_right (by decide) hn
  have h2 : 1 ≤ (2 : Nat) ^ n := Nat.one_le_two_pow
  have e : ((2 ^ n : Nat) : Int) = (2 : Int) ^ n := by push_cast; rfl
  rw [← e]
  omega
theorem wrap_pow {n : Nat} (hn : n ≤ 16) : wrap64 (2 ^ n) = 2 ^ n := by
  have := pow_in hn
  exact IntWalk.wrap64_in _ ⟨by omega, by omega⟩
/-- A row of a relation on n numbers. -/
def rowB (n : Nat) (x : Int) : Bool := decide (0 ≤ x) && decide (x < 2 ^ n)
def rowsB (n : Nat) (l : List Int) : Bool := l.all (rowB n)
def relB (r : DRelation) : Bool := inR r.fN 0 16 && decide ((r.fRows.length : Int) = r.fN) && rowsB r.fN.toNat r.fRows
theorem relB_no1 {r : DRelation} (h : inR r.fN 0 16 = false) : relB r = false := by unfold relB; rw [h]; rfl
theorem relB_no2 {r : DRelation} (h : (r.fRows.length : Int) ≠ r.fN) : relB r = false := by unfold relB; rw [decide_eq_false h, Bool.and_false]; rfl
theorem relB_yes {r : DRelation} {n : Nat} (hn : n ≤ 16) (h : r.fN = n) (hl : r.fRows.length = n) : relB r = rowsB n r.fRows := by
  unfold relB; rw [h, hl, inR_yes (by omega) (by omega), Int.toNat_natCast, decide_eq_true rfl]; rfl
theorem rows_all {n : Nat} {l : List Int} (h : ∀ i, i < l.length → rowB n (l.getD i default) = true) : rowsB n l = true := by
  unfold rowsB
  rw [List.all_eq_true]
  intro x hx
  obtain ⟨i, hi, rfl⟩ := List.getElem_of_mem hx
  have := h i hi
  rw [List.getD_eq_getElem?_getD, List.getElem?_eq_getElem hi] at this
  exact this
theorem rows_not {n : Nat} {l : List Int} {k : Nat} (hk : k < l.length) (h : rowB n (l.getD k default) = false) : rowsB n l = false := by
  unfold rowsB
  rw [List.all_eq_false]
  refine ⟨l[k], List.getElem_mem _, ?_⟩
  rw [List.getD_eq_getElem?_getD, List.getElem?_eq_getElem hk] at h
  simpa using h
theorem rows_idx {n : Nat} {l : List Int} : decide (0 ≤ idxI (fun x => !rowB n x) l) = !rowsB n l := by
  cases h : rowsB n l
  · unfold rowsB at h
    rw [List.all_eq_false] at h
    obtain ⟨x, hx, hr⟩ := h
    unfold idxI
    cases h2 : l.findIdx? (fun x => !rowB n x) with
    | some k => simp
    | none =>
      rw [List.findIdx?_eq_none_iff] at h2
      have := h2 x hx
      simp at this
      exact absurd this hr
  · unfold rowsB at h
    rw [List.all_eq_true] at h
    have : idxI (fun x => !rowB n x) l = -1 := idxI_none fun i hi => by
      rw [List.getD_eq_getElem?_getD, List.getElem?_eq_getElem hi]
      simp [h _ (List.getElem_mem _)]
    rw [this]; rfl

set_option maxHeartbeats 1600000 in
set_option maxRecDepth 100000 in
theorem impl_isRelationSize (n : Int) (w : World) :
    Calls Tryz.prog 67 #[.int .i64 n] w fun e w' => e = .returned (.bool (inR n 0 16)) ∧ w = w' := by
  by_cases h1 : 0 ≤ n
  · have FIN := Lib.hid (show inR n 0 16 = decide (n ≤ 16) by unfold inR; simp [h1])
    go_enter Tryz.func67, Tryz.ntmps67
    go_wp2
    go_ret
    exact ⟨ret_b (by rw [FIN.out]), rfl⟩
  · have FIN := Lib.hid (show inR n 0 16 = false from inR_no (by omega))
    have h1' : n < 0 := by omega
    clear h1
    go_enter Tryz.func67, Tryz.ntmps67
    go_wp2
    go_ret
    exact ⟨ret_b (by rw [FIN.out]), rfl⟩

set_option maxHeartbeats 1600000 in
set_option maxRecDepth 100000 in
theorem impl_IsValidRelation1 {b : Nat} (row : Int) (n : Nat) (hn : n ≤ 16) (v : Bool) (hv : rowB n row = v) (w : World) (hc0 : w.cell? ⟨b, 0, none⟩ = some (.int .i64 (n : Int))) :
    Calls Tryz.prog 103 #[.int .i64 row, .pointer (some ⟨b, 0, none⟩)] w fun e w' => e = .returned (.bool v) ∧ w = w' := by
  have hw := Lib.hid (wrap_pow hn)
  by_cases h0 : 0 ≤ row
  · have FIN := Lib.hid (show decide (row < 2 ^ n) = v by rw [← hv]; unfold rowB; simp [h0])
    clear hv
    go_enter Tryz.func103, Tryz.ntmps103
    go_wp2
    go_ret
    exact ⟨ret_b (by rw [hw.out]; exact FIN.out), rfl⟩
  · have FIN := Lib.hid (show false = v by rw [← hv]; unfold rowB; simp [h0])
    have h0' : row < 0 := by omega
    clear hv h0
    go_enter Tryz.func103, Tryz.ntmps103
    go_wp2
    go_ret
    exact ⟨ret_b FIN.out, rfl⟩

set_option maxHeartbeats 1600000 in
set_option maxRecDepth 100000 in
theorem allValid_int1 {b b2 : Nat} (row : Int) (n : Nat) (hn : n ≤ 16) (v : Bool) (hv : rowB n row = v) (w : World) (hc0 : w.cell? ⟨b, 0, none⟩ = some (.int .i64 (n : Int))) (hc1 : w.cell? ⟨b2, 0, none⟩ = some (.func (.func 103) #[] #[.pointer (some ⟨b, 0, none⟩)])) :
    Calls Tryz.prog 128 #[.int .i64 row, .pointer (some ⟨b2, 0, none⟩)] w fun e w' => e = .returned (.bool !v) ∧ w = w' := by
  have H := Lib.hid (impl_IsValidRelation1 row n hn v hv w hc0)
  clear hv
  go_enter Tryz.func128, Tryz.ntmps128
  go_wp2_with fail
  refine H.out.mono ?_
  rintro e w1 ⟨rfl, rfl⟩
  go_wp2
  go_ret
  exact ⟨rfl, rfl⟩

set_option maxHeartbeats 1600000 in
set_option maxRecDepth 100000 in
theorem IndexFunc_int {lo hi b b2 cap : Nat} {a0 : Option Addr} (l : List Int) (hl : l.length ≤ 1048576) (n : Nat) (hn : n ≤ 16) (w : World) (hs : Sl lo hi w 1 l.length (fun k => ictI (l.getD k default)) a0) (hc0 : w.cell? ⟨b, 0, none⟩ = some (.int .i64 (n : Int))) (hc1 : w.cell? ⟨b2, 0, none⟩ = some (.func (.func 103) #[] #[.pointer (some ⟨b, 0, none⟩)])) :
    Calls Tryz.prog 136 #[.slice a0 l.length cap, .func (.func 128) #[] #[.pointer (some ⟨b2, 0, none⟩)]] w fun e w' => e = .returned (.int .i64 (idxI (fun x => !rowB n x) l)) ∧ w = w' := by
  have HS := Lib.hid hs
  clear hs
  have HC := Lib.hid (fun row v hv => allValid_int1 (b := b) (b2 := b2) row n hn v hv w hc0 hc1)
  clear hc0 hc1
  go_enter Tryz.func136, Tryz.ntmps136
  go_wp2
  go_loop [8] (fun i => ∃ k : Nat, k ≤ l.length ∧ i = .int .i64 (k : Int) ∧ noneBelow (fun x => !rowB n x) l k) (fun i => l.length - (intOf i).toNat)
  case atStart => exact ⟨0, Nat.zero_le _, rfl, noneBelow_zero _ _⟩
  case round =>
    obtain ⟨k, hk, rfl, hno⟩ := hrel
    have HN := Lib.hid hno
    clear hno
    by_cases hlt : k < l.length
    · obtain ⟨b1, off, rfl, _, _, hc⟩ := HS.out.at k hlt
      rw [Nat.mul_one] at hc
      have hc0 := open_Int hc
      clear hc
      by_cases he : rowB n (l.getD k default) = false
      · have fin := Lib.hid (idxI_at (p := fun x => !rowB n x) hlt (by simpa using he) HN.out)
        have HCL := Lib.hid (HC.out _ _ he)
        clear he
        generalize l.getD k default = y at *
        go_wp2_with fail
        refine HCL.out.mono ?_
        rintro e w1 ⟨rfl, rfl⟩
        go_wp2
        go_ret
        exact ⟨ret_i (by rw [fin.out]), rfl⟩
      · have he' : rowB n (l.getD k default) = true := by simpa using he
        have HN2 := Lib.hid (noneBelow_succ HN.out (k := k) (by simpa using he'))
        have HCL := Lib.hid (HC.out _ _ he')
        clear he he'
        generalize l.getD k default = y at *
        go_wp2_with fail
        refine HCL.out.mono ?_
        rintro e w1 ⟨rfl, rfl⟩
        go_wp2
        go_round
        case rel => exact ⟨k + 1, by omega, by go_num, HN2.out⟩
        case measure => simp [intOf]; omega
    · obtain rfl : k = l.length := by omega
      have fin := Lib.hid (idxI_none (p := fun x => !rowB n x) HN.out)
      go_wp2
      go_ret
      exact ⟨ret_i (by rw [fin.out]), rfl⟩

set_option maxHeartbeats 1600000 in
set_option maxRecDepth 100000 in
theorem ContainsFunc_int {lo hi b b2 cap : Nat} {a0 : Option Addr} (l : List Int) (hl : l.length ≤ 1048576) (n : Nat) (hn : n ≤ 16) (w : World) (hs : Sl lo hi w 1 l.length (fun k => ictI (l.getD k default)) a0) (hc0 : w.cell? ⟨b, 0, none⟩ = some (.int .i64 (n : Int))) (hc1 : w.cell? ⟨b2, 0, none⟩ = some (.func (.func 103) #[] #[.pointer (some ⟨b, 0, none⟩)])) :
    Calls Tryz.prog 127 #[.slice a0 l.length cap, .func (.func 128) #[] #[.pointer (some ⟨b2, 0, none⟩)]] w fun e w' => e = .returned (.bool !rowsB n l) ∧ w = w' := by
  have H := Lib.hid (IndexFunc_int (cap := cap) l hl n hn w hs hc0 hc1)
  have hi := rows_idx (n := n) (l := l)
  generalize idxI (fun x => !rowB n x) l = z at *
  have HI := Lib.hid hi
  clear hi hs hc0 hc1
  go_enter Tryz.func127, Tryz.ntmps127
  go_wp2_with fail
  refine H.out.mono ?_
  rintro e w1 ⟨rfl, rfl⟩
  go_wp2
  go_ret
  exact ⟨ret_b (by rw [← HI.out]), rfl⟩

set_option maxHeartbeats 1600000 in
set_option maxRecDepth 100000 in
theorem allValid_int {lo hi b cap : Nat} {a0 : Option Addr} (l : List Int) (hl : l.length ≤ 1048576) (n : Nat) (hn : n ≤ 16) (w : World) (hb : b < w.heap.size) (hhi : hi ≤ w.heap.size) (hs : Sl lo hi w 1 l.length (fun k => ictI (l.getD k default)) a0) (hc0 : w.cell? ⟨b, 0, none⟩ = some (.int .i64 (n : Int))) :
    Calls Tryz.prog 102 #[.slice a0 l.length cap, .func (.func 103) #[] #[.pointer (some ⟨b, 0, none⟩)]] w fun e w' => e = .returned (.bool (rowsB n l)) ∧ Below w.heap.size w w' := by
  have HB := Lib.hid ((Below.refl w.heap.size w).alloc (Nat.le_refl _) (.cells #[.func (.func 103) #[] #[.pointer (some ⟨b, 0, none⟩)]] 122))
  have H := Lib.hid (ContainsFunc_int (cap := cap) (b := b) (b2 := w.heap.size) l hl n hn _ (hs.later HB.out hhi) ((HB.out.cell (p := ⟨b, 0, none⟩) hb).trans hc0) (by rw [World.cell?_alloc_new]; rfl))
  clear hs hc0
  generalize rowsB n l = v at *
  go_enter Tryz.func102, Tryz.ntmps102
  go_wp2_with fail
  refine H.out.mono ?_
  rintro e w1 ⟨rfl, rfl⟩
  go_wp2
  go_ret
  exact ⟨ret_b (by simp), HB.out⟩

set_option maxHeartbeats 1600000 in
set_option maxRecDepth 100000 in
theorem impl_relValid {lo hi c0 : Nat} {a0 : Option Addr} (r : DRelation) (hl : r.fRows.length ≤ 1048576) (v : Bool) (hv : relB r = v) (w : World) (hhi : hi ≤ w.heap.size) (hs : Sl lo hi w 1 r.fRows.length (fun k => ictI (r.fRows.getD k default)) a0) :
    Calls Tryz.prog 73 #[.agg #[.int .i64 r.fN, .slice a0 r.fRows.length c0]] w fun e w' => e = .returned (.bool v) ∧ Below w.heap.size w w' := by
  have HB := Lib.hid ((Below.refl w.heap.size w).alloc (Nat.le_refl _) (.cells #[.int .i64 r.fN, .slice a0 r.fRows.length c0] 35))
  have hz := fun w => impl_isRelationSize r.fN w
  subst hv
  by_cases h1 : 0 ≤ r.fN ∧ r.fN ≤ 16
  · rw [inR_yes h1.1 h1.2] at hz
    have HZ := Lib.hid hz
    clear hz
    by_cases h2 : (r.fRows.length : Int) = r.fN
    · obtain ⟨n, hn⟩ : ∃ n : Nat, r.fN = n := ⟨r.fN.toNat, by omega⟩
      have fin := Lib.hid (relB_yes (n := n) (by omega) hn (by omega))
      have hn16 : n ≤ 16 := by omega
      have hnl : r.fRows.length = n := by omega
      rw [hn] at HB HZ
      have HA := Lib.hid (allValid_int (cap := c0) (b := w.heap.size) r.fRows hl n hn16 (w.alloc (.cells #[.int .i64 (n : Int), .slice a0 r.fRows.length c0] 35)) (by simp) (Nat.le_trans hhi HB.out.size) (hs.later HB.out hhi) (by rw [World.cell?_alloc_new]; rfl))
      rw [hn]
      clear hs hn h1 h2
      have HL := Lib.hid hnl
      generalize r.fRows.length = ln at *
      obtain rfl : ln = n := HL.out
      go_enter Tryz.func73, Tryz.ntmps73
      go_wp2_with fail
      refine (HZ.out _).mono ?_
      rintro e w1 ⟨rfl, rfl⟩
      go_wp2_with fail
      refine HA.out.mono ?_
      rintro e w1 ⟨rfl, hb1⟩
      have HB1 := Lib.hid (HB.out.trans (hb1.mono HB.out.size))
      clear hb1
      go_wp2
      go_ret
      exact ⟨ret_b (by rw [fin.out]), HB1.out⟩
    · have fin := Lib.hid (relB_no2 h2)
      have h2' : ((r.fRows.length : Int) == r.fN) = false := beq_eq_false_iff_ne.2 h2
      have h2'' : ((r.fRows.length : Int) != r.fN) = true := by simp [bne, h2']
      clear hs h2 h1
      go_enter Tryz.func73, Tryz.ntmps73
      go_wp2_with fail
      refine (HZ.out _).mono ?_
      rintro e w1 ⟨rfl, rfl⟩
      go_wp2
      go_ret
      exact ⟨ret_b (by rw [fin.out]), HB.out⟩
  · have h1' := inR_no (n := r.fN) (a := 0) (b := 16) (by omega)
    have fin := Lib.hid (relB_no1 h1')
    rw [h1'] at hz
    have HZ := Lib.hid hz
    clear hz h1' hs h1
    go_enter Tryz.func73, Tryz.ntmps73
    go_wp2_with fail
    refine (HZ.out _).mono ?_
    rintro e w1 ⟨rfl, rfl⟩
    go_wp2
    go_ret
    exact ⟨ret_b (by rw [fin.out]), HB.out⟩

theorem spec_l1In_q (n a b : Int) (v : Bool) (hv : inR n a b = v) (w : World) :
    Calls Tryz.prog 57 #[.int .i64 n, .int .i64 a, .int .i64 b] w fun e w' => e = .returned (.bool v) ∧ w' = w := (spec_l1In n a b w).mono fun _ _ ⟨h1, h2⟩ => ⟨by rw [h1, hv], h2.symm⟩
theorem inR_row {n : Nat} {x q : Int} (hq : (2 : Int) ^ n = q) : inR x 0 (q - 1) = rowB n x := by
  unfold inR rowB
  rw [hq]
  congr 1
  exact decide_eq_decide.2 (by omega)

set_option maxHeartbeats 1600000 in
set_option maxRecDepth 100000 in
theorem spec_relValid {lo hi c0 : Nat} {a0 : Option Addr} (r : DRelation) (hl : r.fRows.length ≤ 1048576) (v : Bool) (hv : relB r = v) (w : World) (hhi : hi ≤ w.heap.size) (hs : Sl lo hi w 1 r.fRows.length (fun k => ictI (r.fRows.getD k default)) a0) :
    Calls Tryz.prog 61 #[.agg #[.int .i64 r.fN, .slice a0 r.fRows.length c0]] w fun e w' => e = .returned (.bool v) ∧ Below w.heap.size w w' := by
  have HB := Lib.hid ((Below.refl w.heap.size w).alloc (Nat.le_refl _) (.cells #[.int .i64 r.fN, .slice a0 r.fRows.length c0] 35))
  have hz := fun w => spec_l1In r.fN 0 16 w
  subst hv
  by_cases h1 : 0 ≤ r.fN ∧ r.fN ≤ 16
  · rw [inR_yes h1.1 h1.2] at hz
    have HZ := Lib.hid hz
    clear hz
    by_cases h2 : (r.fRows.length : Int) = r.fN
    · obtain ⟨n, hn⟩ : ∃ n : Nat, r.fN = n := ⟨r.fN.toNat, by omega⟩
      have fin := Lib.hid (relB_yes (n := n) (by omega) hn (by omega))
      have hn16 : n ≤ 16 := by omega
      have hnl : r.fRows.length = n := by omega
      have HS := Lib.hid (hs.later HB.out hhi)
      rw [hn] at HB HZ HS
      rw [hn]
      clear hs hn h1 h2
      generalize r.fRows = l at *
      subst hnl
      obtain ⟨q, hq⟩ : ∃ q : Int, (2 : Int) ^ l.length = q := ⟨_, rfl⟩
      have hq1 : 1 ≤ q ∧ q ≤ 65536 := by rw [← hq]; exact pow_in hn16
      have HQ := Lib.hid hq
      have hlow : 1 ≤ q := hq1.1
      have hhigh : q ≤ 65536 := hq1.2
      have hw1 : wrap64 q = q := IntWalk.wrap64_in _ ⟨by omega, by omega⟩
      have hw2 : wrap64 (q - 1) = q - 1 := IntWalk.wrap64_in _ ⟨by omega, by omega⟩
      have hw3 : IntKind.i64.wrap (q - 1) = q - 1 := IntWalk.i64_in _ (by omega)
      clear hq1
      go_enter Tryz.func61, Tryz.ntmps61
      go_wp2_with fail
      refine (HZ.out _).mono ?_
      rintro e w1 ⟨rfl, rfl⟩
      go_wp2
      go_loopw [3] (fun i wr => ∃ k : Nat, k ≤ l.length ∧ i = .int .i64 (k : Int) ∧ (∀ j, j < k → rowB l.length (l.getD j default) = true) ∧ ∃ m, wr = (w.alloc (.cells #[.int .i64 (l.length : Int), .slice a0 l.length c0] 35)).drewN m) (fun i _ => l.length - (intOf i).toNat)
      case atStart => exact ⟨0, Nat.zero_le _, rfl, fun j hj => absurd hj (Nat.not_lt_zero _), 0, rfl⟩
      case round =>
        obtain ⟨k, hk, rfl, hall, m, rfl⟩ := hrel
        have HALL := Lib.hid hall
        clear hall
        by_cases hlt : k < l.length
        · obtain ⟨b1, off, rfl, _, _, hc⟩ := HS.out.at k hlt
          rw [Nat.mul_one] at hc
          have hc0 := open_Int hc
          clear hc
          have hin := fun (v : Bool) (hv : rowB l.length (l.getD k default) = v) w => spec_l1In_q (l.getD k default) 0 (q - 1) v ((inR_row HQ.out).trans hv) w
          by_cases he : rowB l.length (l.getD k default) = false
          · have fin2 := Lib.hid (rows_not hlt he)
            have HCL := Lib.hid (hin _ he)
            clear he hin
            generalize l.getD k default = y at *
            go_wp2
            go_quiet ((go_at_call 57; exact quiet_add_same (HCL.out _)))
            go_wp2
            go_ret
            exact ⟨ret_b (by rw [fin.out, fin2.out]), below_drewN (below_drewN HB.out _) _⟩
          · have he' : rowB l.length (l.getD k default) = true := by simpa using he
            have HA2 := Lib.hid (show ∀ j, j < k + 1 → rowB l.length (l.getD j default) = true from fun j hj => by
              by_cases hjk : j = k
              · rw [hjk]; exact he'
              · exact HALL.out j (by omega))
            have HCL := Lib.hid (hin _ he')
            clear he he' hin
            generalize l.getD k default = y at *
            go_wp2
            go_quiet ((go_at_call 57; exact quiet_add_same (HCL.out _)))
            go_wp2
            go_roundw
            case rel => exact ⟨k + 1, by omega, by go_num, HA2.out, _, rfl⟩
            case measure => simp [intOf]; omega
        · obtain rfl : k = l.length := by omega
          have fin2 := Lib.hid (rows_all HALL.out)
          go_wp2
          go_ret
          exact ⟨ret_b (by rw [fin.out, fin2.out]), below_drewN HB.out _⟩
    · have fin := Lib.hid (relB_no2 h2)
      have h2' : ((r.fRows.length : Int) == r.fN) = false := beq_eq_false_iff_ne.2 h2
      have h2'' : ((r.fRows.length : Int) != r.fN) = true := by simp [bne, h2']
      clear hs h2 h1
      go_enter Tryz.func61, Tryz.ntmps61
      go_wp2_with fail
      refine (HZ.out _).mono ?_
      rintro e w1 ⟨rfl, rfl⟩
      go_wp2
      go_ret
      exact ⟨ret_b (by rw [fin.out]), HB.out⟩
  · have h1' := inR_no (n := r.fN) (a := 0) (b := 16) (by omega)
    have fin := Lib.hid (relB_no1 h1')
    rw [h1'] at hz
    have HZ := Lib.hid hz
    clear hz h1' hs h1
    go_enter Tryz.func61, Tryz.ntmps61
    go_wp2_with fail
    refine (HZ.out _).mono ?_
    rintro e w1 ⟨rfl, rfl⟩
    go_wp2
    go_ret
    exact ⟨ret_b (by rw [fin.out]), HB.out⟩

theorem rel_len {r : DRelation} (h : r.sz ≤ 1048576) : r.fRows.length ≤ 1048576 := by unfold DRelation.sz at h; rw [lsz_zero] at h; exact h
end Go.Proofs.YtnmepemmpeboeaaGreat
namespace Go.Proofs.YtnmepemmpeboeaaGreat
open Go.ChangeShapes Go.WideShapes Go.ChangeAt Go.RowKit Go.Deep

theorem relB_parts {r : DRelation} (h : relB r = true) : ∃ n : Nat, n ≤ 16 ∧ r.fN = n ∧ r.fRows.length = n ∧ ∀ j, j < n → 0 ≤ r.fRows.getD j default ∧ r.fRows.getD j default < 2 ^ n := by
  unfold relB inR at h
  simp only [Bool.and_eq_true, decide_eq_true_eq] at h
  obtain ⟨⟨⟨h1, h2⟩, h3⟩, h4⟩ := h
  refine ⟨r.fN.toNat, by omega, by omega, by omega, fun j hj => ?_⟩
  unfold rowsB at h4
  rw [List.all_eq_true] at h4
  have := h4 (r.fRows[j]'(by omega)) (List.getElem_mem _)
  unfold rowB at this
  simp only [Bool.and_eq_true, decide_eq_true_eq] at this
  rw [List.getD_eq_getElem?_getD, List.getElem?_eq_getElem (by omega)]
  exact this
theorem inR_nat {n i : Int} (h : inR i 0 n = true) : ∃ j : Nat, i = j ∧ (j : Int) ≤ n := by
  unfold inR at h
  simp only [Bool.and_eq_true, decide_eq_true_eq] at h
  exact ⟨i.toNat, by omega, by omega⟩

set_option maxHeartbeats 1600000 in
set_option maxRecDepth 100000 in
theorem impl_isNumber {a0 : Option Addr} {c0_0 : Nat} (r : DRelation) (i : Int) (v : Bool) (hv : inR i 0 (r.fN - 1) = v) (w : World) :
    Calls Tryz.prog 74 #[.agg #[.int .i64 r.fN, .slice a0 r.fRows.length c0_0], .int .i64 i] w fun e w' => e = .returned (.bool v) ∧ Below w.heap.size w w' := by
  have HB := Lib.hid ((Below.refl w.heap.size w).alloc (Nat.le_refl _) (.cells #[.int .i64 r.fN, .slice a0 r.fRows.length c0_0] 35))
  by_cases h0 : 0 ≤ i
  · have FIN := Lib.hid (show decide (i < r.fN) = v by rw [← hv]; unfold inR; simp [h0]; omega)
    clear hv
    go_enter Tryz.func74, Tryz.ntmps74
    go_wp2
    go_ret
    exact ⟨ret_b (by rw [← FIN.out]), HB.out⟩
  · have FIN := Lib.hid (show false = v by rw [← hv]; exact (inR_no (by omega)).symm)
    have h0' : i < 0 := by omega
    clear hv h0
    go_enter Tryz.func74, Tryz.ntmps74
    go_wp2
    go_ret
    exact ⟨ret_b FIN.out, HB.out⟩

theorem spec_l1In_b (n a b : Int) (v : Bool) (hv : inR n a b = v) (w : World) :
    Calls Tryz.prog 57 #[.int .i64 n, .int .i64 a, .int .i64 b] w fun e w' => e = .returned (.bool v) ∧ Below w.heap.size w w' := (spec_l1In n a b w).mono fun _ _ ⟨h1, h2⟩ => ⟨by rw [h1, hv], by subst h2; exact Below.refl _ _⟩
end Go.Proofs.YtnmepemmpeboeaaGreat
