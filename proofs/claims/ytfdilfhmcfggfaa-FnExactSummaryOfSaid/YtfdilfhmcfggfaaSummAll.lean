/-
  Relations: IsValidRelation and HasPair, in the model and in the program.
  EmptyRelation, in the model and in the program.
  Copies of relations, in the model and in the program.
  The model's copy of a relation.
  HasPair, in the model and in the program.
  AddPair in the model and in the program.
  The summary of a rule: what SummaryOf computes.
  SummaryOf of the model and of the program.
-/
import Derived.Test.YtfdilfhmcfggfaaTRelation
import Derived.Test.YtfdilfhmcfggfaaIdx
import Derived.Test.YtfdilfhmcfggfaaInR
import Derived.Laws.EntriesVeiled
import Derived.Test.YtfdilfhmcfggfaaMkInt
import Derived.Test.YtfdilfhmcfggfaaShelfCl
import Derived.Deep.RegionLaw
import Derived.Deep.AppendLies
import Derived.Laws.AppendOwnNone
import Derived.Test.YtfdilfhmcfggfaaPosIdx
import Derived.Test.YtfdilfhmcfggfaaFreeA
import Derived.Deep.QuietTactic
import Derived.BigQuiet
namespace Go.Proofs.Ytfdilfhmcfggfaa
open Go.ChangeShapes Go.WideShapes Go.ChangeAt Go.RowKit Go.Deep


theorem pow_in {n : Nat} (hn : n ≤ 16) : (1 : Int) ≤ 2 ^ n ∧ (2 : Int) ^ n ≤ 65536 := by
  have h1 : (2 : Nat) ^ n ≤ 2 ^ 16 := Nat.pow_le_pow_right (by decide) hn
  have h2 : 1 ≤ (2 : Nat) ^ n := Nat.one_le_two_pow
  have e : ((2 ^ n : Nat) : Int) = (2 : Int) ^ n := by push_cast; rfl
  rw [← e]
  omega
theorem wrap_pow {n : Nat} (hn : n ≤ 16) : wrap64 (2 ^ n) = 2 ^ n := by
  have := pow_in hn
  exact IntWalk.wrap64_in _ ⟨by omega, by omega⟩
/-- A row of a relation on n numbers. -/
def rowB (n : Nat) (x : Int) : Bool := decide (0 ≤ x) && decide (x < 2 ^ n)
def rowsB (n : Nat) (l : List Int) : Bool := l.all (rowB n)
def relB (r : DRelation) : Bool := inR r.fN 0 16 && decide ((r.fRows.length : Int) = r.fN) && rowsB r.fN.toNat r.fRows
theorem relB_no1 {r : DRelation} (h : inR r.fN 0 16 = false) : relB r = false := by unfold relB; rw [h]; rfl
theorem relB_no2 {r : DRelation} (h : (r.fRows.length : Int) ≠ r.fN) : relB r = false := by unfold relB; rw [decide_eq_false h, Bool.and_false]; rfl
theorem relB_yes {r : DRelation} {n : Nat} (hn : n ≤ 16) (h : r.fN = n) (hl : r.fRows.length = n) : relB r = rowsB n r.fRows := by
  unfold relB; rw [h, hl, inR_yes (by omega) (by omega), Int.toNat_natCast, decide_eq_true rfl]; rfl
theorem rows_all {n : Nat} {l : List Int} (h : ∀ i, i < l.length → rowB n (l.getD i default) = true) : rowsB n l = true := by
  unfold rowsB
  rw [List.all_eq_true]
  intro x hx
  obtain ⟨i, hi, rfl⟩ := List.getElem_of_mem hx
  have := h i hi
  rw [List.getD_eq_getElem?_getD, List.getElem?_eq_getElem hi] at this
  exact this
theorem rows_not {n : Nat} {l : List Int} {k : Nat} (hk : k < l.length) (h : rowB n (l.getD k default) = false) : rowsB n l = false := by
  unfold rowsB
  rw [List.all_eq_false]
  refine ⟨l[k], List.getElem_mem _, ?_⟩
  rw [List.getD_eq_getElem?_getD, List.getElem?_eq_getElem hk] at h
  simpa using h
theorem rows_idx {n : Nat} {l : List Int} : decide (0 ≤ idxI (fun x => !rowB n x) l) = !rowsB n l := by
  cases h : rowsB n l
  · unfold rowsB at h
    rw [List.all_eq_false] at h
    obtain ⟨x, hx, hr⟩ := h
    unfold idxI
    cases h2 : l.findIdx? (fun x => !rowB n x) with
    | some k => simp
    | none =>
      rw [List.findIdx?_eq_none_iff] at h2
      have := h2 x hx
      simp at this
      exact absurd this hr
  · unfold rowsB at h
    rw [List.all_eq_true] at h
    have : idxI (fun x => !rowB n x) l = -1 := idxI_none fun i hi => by
      rw [List.getD_eq_getElem?_getD, List.getElem?_eq_getElem hi]
      simp [h _ (List.getElem_mem _)]
    rw [this]; rfl

set_option maxHeartbeats 1600000 in
set_option maxRecDepth 100000 in
theorem impl_isRelationSize (n : Int) (w : World) :
    Calls Try.prog 69 #[.int .i64 n] w fun e w' => e = .returned (.bool (inR n 0 16)) ∧ w = w' := by
  by_cases h1 : 0 ≤ n
  · have FIN := Lib.hid (show inR n 0 16 = decide (n ≤ 16) by unfold inR; simp [h1])
    go_enter Try.func69, Try.ntmps69
    go_wp2
    go_ret
    exact ⟨ret_b (by rw [FIN.out]), rfl⟩
  · have FIN := Lib.hid (show inR n 0 16 = false from inR_no (by omega))
    have h1' : n < 0 := by omega
    clear h1
    go_enter Try.func69, Try.ntmps69
    go_wp2
    go_ret
    exact ⟨ret_b (by rw [FIN.out]), rfl⟩

set_option maxHeartbeats 1600000 in
set_option maxRecDepth 100000 in
theorem impl_IsValidRelation1 {b : Nat} (row : Int) (n : Nat) (hn : n ≤ 16) (v : Bool) (hv : rowB n row = v) (w : World) (hc0 : w.cell? ⟨b, 0, none⟩ = some (.int .i64 (n : Int))) :
    Calls Try.prog 88 #[.int .i64 row, .pointer (some ⟨b, 0, none⟩)] w fun e w' => e = .returned (.bool v) ∧ w = w' := by
  have hw := Lib.hid (wrap_pow hn)
  by_cases h0 : 0 ≤ row
  · have FIN := Lib.hid (show decide (row < 2 ^ n) = v by rw [← hv]; unfold rowB; simp [h0])
    clear hv
    go_enter Try.func88, Try.ntmps88
    go_wp2
    go_ret
    exact ⟨ret_b (by rw [hw.out]; exact FIN.out), rfl⟩
  · have FIN := Lib.hid (show false = v by rw [← hv]; unfold rowB; simp [h0])
    have h0' : row < 0 := by omega
    clear hv h0
    go_enter Try.func88, Try.ntmps88
    go_wp2
    go_ret
    exact ⟨ret_b FIN.out, rfl⟩

set_option maxHeartbeats 1600000 in
set_option maxRecDepth 100000 in
theorem allValid_int1 {b b2 : Nat} (row : Int) (n : Nat) (hn : n ≤ 16) (v : Bool) (hv : rowB n row = v) (w : World) (hc0 : w.cell? ⟨b, 0, none⟩ = some (.int .i64 (n : Int))) (hc1 : w.cell? ⟨b2, 0, none⟩ = some (.func (.func 88) #[] #[.pointer (some ⟨b, 0, none⟩)])) :
    Calls Try.prog 99 #[.int .i64 row, .pointer (some ⟨b2, 0, none⟩)] w fun e w' => e = .returned (.bool !v) ∧ w = w' := by
  have H := Lib.hid (impl_IsValidRelation1 row n hn v hv w hc0)
  clear hv
  go_enter Try.func99, Try.ntmps99
  go_wp2_with fail
  refine H.out.mono ?_
  rintro e w1 ⟨rfl, rfl⟩
  go_wp2
  go_ret
  exact ⟨rfl, rfl⟩

set_option maxHeartbeats 1600000 in
set_option maxRecDepth 100000 in
theorem IndexFunc_int {lo hi b b2 cap : Nat} {a0 : Option Addr} (l : List Int) (hl : l.length ≤ 1048576) (n : Nat) (hn : n ≤ 16) (w : World) (hs : Sl lo hi w 1 l.length (fun k => ictI (l.getD k default)) a0) (hc0 : w.cell? ⟨b, 0, none⟩ = some (.int .i64 (n : Int))) (hc1 : w.cell? ⟨b2, 0, none⟩ = some (.func (.func 88) #[] #[.pointer (some ⟨b, 0, none⟩)])) :
    Calls Try.prog 102 #[.slice a0 l.length cap, .func (.func 99) #[] #[.pointer (some ⟨b2, 0, none⟩)]] w fun e w' => e = .returned (.int .i64 (idxI (fun x => !rowB n x) l)) ∧ w = w' := by
  have HS := Lib.hid hs
  clear hs
  have HC := Lib.hid (fun row v hv => allValid_int1 (b := b) (b2 := b2) row n hn v hv w hc0 hc1)
  clear hc0 hc1
  go_enter Try.func102, Try.ntmps102
  go_wp2
  go_loop [8] (fun i => ∃ k : Nat, k ≤ l.length ∧ i = .int .i64 (k : Int) ∧ noneBelow (fun x => !rowB n x) l k) (fun i => l.length - (intOf i).toNat)
  case atStart => exact ⟨0, Nat.zero_le _, rfl, noneBelow_zero _ _⟩
  case round =>
    obtain ⟨k, hk, rfl, hno⟩ := hrel
    have HN := Lib.hid hno
    clear hno
    by_cases hlt : k < l.length
    · obtain ⟨b1, off, rfl, _, _, hc⟩ := HS.out.at k hlt
      rw [Nat.mul_one] at hc
      have hc0 := open_Int hc
      clear hc
      by_cases he : rowB n (l.getD k default) = false
      · have fin := Lib.hid (idxI_at (p := fun x => !rowB n x) hlt (by simpa using he) HN.out)
        have HCL := Lib.hid (HC.out _ _ he)
        clear he
        generalize l.getD k default = y at *
        go_wp2_with fail
        refine HCL.out.mono ?_
        rintro e w1 ⟨rfl, rfl⟩
        go_wp2
        go_ret
        exact ⟨ret_i (by rw [fin.out]), rfl⟩
      · have he' : rowB n (l.getD k default) = true := by simpa using he
        have HN2 := Lib.hid (noneBelow_succ HN.out (k := k) (by simpa using he'))
        have HCL := Lib.hid (HC.out _ _ he')
        clear he he'
        generalize l.getD k default = y at *
        go_wp2_with fail
        refine HCL.out.mono ?_
        rintro e w1 ⟨rfl, rfl⟩
        go_wp2
        go_round
        case rel => exact ⟨k + 1, by omega, by go_num, HN2.out⟩
        case measure => simp [intOf]; omega
    · obtain rfl : k = l.length := by omega
      have fin := Lib.hid (idxI_none (p := fun x => !rowB n x) HN.out)
      go_wp2
      go_ret
      exact ⟨ret_i (by rw [fin.out]), rfl⟩

set_option maxHeartbeats 1600000 in
set_option maxRecDepth 100000 in
theorem ContainsFunc_int {lo hi b b2 cap : Nat} {a0 : Option Addr} (l : List Int) (hl : l.length ≤ 1048576) (n : Nat) (hn : n ≤ 16) (w : World) (hs : Sl lo hi w 1 l.length (fun k => ictI (l.getD k default)) a0) (hc0 : w.cell? ⟨b, 0, none⟩ = some (.int .i64 (n : Int))) (hc1 : w.cell? ⟨b2, 0, none⟩ = some (.func (.func 88) #[] #[.pointer (some ⟨b, 0, none⟩)])) :
    Calls Try.prog 98 #[.slice a0 l.length cap, .func (.func 99) #[] #[.pointer (some ⟨b2, 0, none⟩)]] w fun e w' => e = .returned (.bool !rowsB n l) ∧ w = w' := by
  have H := Lib.hid (IndexFunc_int (cap := cap) l hl n hn w hs hc0 hc1)
  have hi := rows_idx (n := n) (l := l)
  generalize idxI (fun x => !rowB n x) l = z at *
  have HI := Lib.hid hi
  clear hi hs hc0 hc1
  go_enter Try.func98, Try.ntmps98
  go_wp2_with fail
  refine H.out.mono ?_
  rintro e w1 ⟨rfl, rfl⟩
  go_wp2
  go_ret
  exact ⟨ret_b (by rw [← HI.out]), rfl⟩

set_option maxHeartbeats 1600000 in
set_option maxRecDepth 100000 in
theorem allValid_int {lo hi b cap : Nat} {a0 : Option Addr} (l : List Int) (hl : l.length ≤ 1048576) (n : Nat) (hn : n ≤ 16) (w : World) (hb : b < w.heap.size) (hhi : hi ≤ w.heap.size) (hs : Sl lo hi w 1 l.length (fun k => ictI (l.getD k default)) a0) (hc0 : w.cell? ⟨b, 0, none⟩ = some (.int .i64 (n : Int))) :
    Calls Try.prog 87 #[.slice a0 l.length cap, .func (.func 88) #[] #[.pointer (some ⟨b, 0, none⟩)]] w fun e w' => e = .returned (.bool (rowsB n l)) ∧ Below w.heap.size w w' := by
  have HB := Lib.hid ((Below.refl w.heap.size w).alloc (Nat.le_refl _) (.cells #[.func (.func 88) #[] #[.pointer (some ⟨b, 0, none⟩)]] 127))
  have H := Lib.hid (ContainsFunc_int (cap := cap) (b := b) (b2 := w.heap.size) l hl n hn _ (hs.later HB.out hhi) ((HB.out.cell (p := ⟨b, 0, none⟩) hb).trans hc0) (by rw [World.cell?_alloc_new]; rfl))
  clear hs hc0
  generalize rowsB n l = v at *
  go_enter Try.func87, Try.ntmps87
  go_wp2_with fail
  refine H.out.mono ?_
  rintro e w1 ⟨rfl, rfl⟩
  go_wp2
  go_ret
  exact ⟨ret_b (by simp), HB.out⟩

set_option maxHeartbeats 1600000 in
set_option maxRecDepth 100000 in
theorem impl_relValid {lo hi c0 : Nat} {a0 : Option Addr} (r : DRelation) (hl : r.fRows.length ≤ 1048576) (v : Bool) (hv : relB r = v) (w : World) (hhi : hi ≤ w.heap.size) (hs : Sl lo hi w 1 r.fRows.length (fun k => ictI (r.fRows.getD k default)) a0) :
    Calls Try.prog 70 #[.agg #[.int .i64 r.fN, .slice a0 r.fRows.length c0]] w fun e w' => e = .returned (.bool v) ∧ Below w.heap.size w w' := by
  have HB := Lib.hid ((Below.refl w.heap.size w).alloc (Nat.le_refl _) (.cells #[.int .i64 r.fN, .slice a0 r.fRows.length c0] 37))
  have hz := fun w => impl_isRelationSize r.fN w
  subst hv
  by_cases h1 : 0 ≤ r.fN ∧ r.fN ≤ 16
  · rw [inR_yes h1.1 h1.2] at hz
    have HZ := Lib.hid hz
    clear hz
    by_cases h2 : (r.fRows.length : Int) = r.fN
    · obtain ⟨n, hn⟩ : ∃ n : Nat, r.fN = n := ⟨r.fN.toNat, by omega⟩
      have fin := Lib.hid (relB_yes (n := n) (by omega) hn (by omega))
      have hn16 : n ≤ 16 := by omega
      have hnl : r.fRows.length = n := by omega
      rw [hn] at HB HZ
      have HA := Lib.hid (allValid_int (cap := c0) (b := w.heap.size) r.fRows hl n hn16 (w.alloc (.cells #[.int .i64 (n : Int), .slice a0 r.fRows.length c0] 37)) (by simp) (Nat.le_trans hhi HB.out.size) (hs.later HB.out hhi) (by rw [World.cell?_alloc_new]; rfl))
      rw [hn]
      clear hs hn h1 h2
      have HL := Lib.hid hnl
      generalize r.fRows.length = ln at *
      obtain rfl : ln = n := HL.out
      go_enter Try.func70, Try.ntmps70
      go_wp2_with fail
      refine (HZ.out _).mono ?_
      rintro e w1 ⟨rfl, rfl⟩
      go_wp2_with fail
      refine HA.out.mono ?_
      rintro e w1 ⟨rfl, hb1⟩
      have HB1 := Lib.hid (HB.out.trans (hb1.mono HB.out.size))
      clear hb1
      go_wp2
      go_ret
      exact ⟨ret_b (by rw [fin.out]), HB1.out⟩
    · have fin := Lib.hid (relB_no2 h2)
      have h2' : ((r.fRows.length : Int) == r.fN) = false := beq_eq_false_iff_ne.2 h2
      have h2'' : ((r.fRows.length : Int) != r.fN) = true := by simp [bne, h2']
      clear hs h2 h1
      go_enter Try.func70, Try.ntmps70
      go_wp2_with fail
      refine (HZ.out _).mono ?_
      rintro e w1 ⟨rfl, rfl⟩
      go_wp2
      go_ret
      exact ⟨ret_b (by rw [fin.out]), HB.out⟩
  · have h1' := inR_no (n := r.fN) (a := 0) (b := 16) (by omega)
    have fin := Lib.hid (relB_no1 h1')
    rw [h1'] at hz
    have HZ := Lib.hid hz
    clear hz h1' hs h1
    go_enter Try.func70, Try.ntmps70
    go_wp2_with fail
    refine (HZ.out _).mono ?_
    rintro e w1 ⟨rfl, rfl⟩
    go_wp2
    go_ret
    exact ⟨ret_b (by rw [fin.out]), HB.out⟩

theorem spec_l1In_q (n a b : Int) (v : Bool) (hv : inR n a b = v) (w : World) :
    Calls Try.prog 57 #[.int .i64 n, .int .i64 a, .int .i64 b] w fun e w' => e = .returned (.bool v) ∧ w' = w := (spec_l1In n a b w).mono fun _ _ ⟨h1, h2⟩ => ⟨by rw [h1, hv], h2.symm⟩
theorem inR_row {n : Nat} {x q : Int} (hq : (2 : Int) ^ n = q) : inR x 0 (q - 1) = rowB n x := by
  unfold inR rowB
  rw [hq]
  congr 1
  exact decide_eq_decide.2 (by omega)

set_option maxHeartbeats 1600000 in
set_option maxRecDepth 100000 in
theorem spec_relValid {lo hi c0 : Nat} {a0 : Option Addr} (r : DRelation) (hl : r.fRows.length ≤ 1048576) (v : Bool) (hv : relB r = v) (w : World) (hhi : hi ≤ w.heap.size) (hs : Sl lo hi w 1 r.fRows.length (fun k => ictI (r.fRows.getD k default)) a0) :
    Calls Try.prog 58 #[.agg #[.int .i64 r.fN, .slice a0 r.fRows.length c0]] w fun e w' => e = .returned (.bool v) ∧ Below w.heap.size w w' := by
  have HB := Lib.hid ((Below.refl w.heap.size w).alloc (Nat.le_refl _) (.cells #[.int .i64 r.fN, .slice a0 r.fRows.length c0] 37))
  have hz := fun w => spec_l1In r.fN 0 16 w
  subst hv
  by_cases h1 : 0 ≤ r.fN ∧ r.fN ≤ 16
  · rw [inR_yes h1.1 h1.2] at hz
    have HZ := Lib.hid hz
    clear hz
    by_cases h2 : (r.fRows.length : Int) = r.fN
    · obtain ⟨n, hn⟩ : ∃ n : Nat, r.fN = n := ⟨r.fN.toNat, by omega⟩
      have fin := Lib.hid (relB_yes (n := n) (by omega) hn (by omega))
      have hn16 : n ≤ 16 := by omega
      have hnl : r.fRows.length = n := by omega
      have HS := Lib.hid (hs.later HB.out hhi)
      rw [hn] at HB HZ HS
      rw [hn]
      clear hs hn h1 h2
      generalize r.fRows = l at *
      subst hnl
      obtain ⟨q, hq⟩ : ∃ q : Int, (2 : Int) ^ l.length = q := ⟨_, rfl⟩
      have hq1 : 1 ≤ q ∧ q ≤ 65536 := by rw [← hq]; exact pow_in hn16
      have HQ := Lib.hid hq
      have hlow : 1 ≤ q := hq1.1
      have hhigh : q ≤ 65536 := hq1.2
      have hw1 : wrap64 q = q := IntWalk.wrap64_in _ ⟨by omega, by omega⟩
      have hw2 : wrap64 (q - 1) = q - 1 := IntWalk.wrap64_in _ ⟨by omega, by omega⟩
      have hw3 : IntKind.i64.wrap (q - 1) = q - 1 := IntWalk.i64_in _ (by omega)
      clear hq1
      go_enter Try.func58, Try.ntmps58
      go_wp2_with fail
      refine (HZ.out _).mono ?_
      rintro e w1 ⟨rfl, rfl⟩
      go_wp2
      go_loopw [3] (fun i wr => ∃ k : Nat, k ≤ l.length ∧ i = .int .i64 (k : Int) ∧ (∀ j, j < k → rowB l.length (l.getD j default) = true) ∧ ∃ m, wr = (w.alloc (.cells #[.int .i64 (l.length : Int), .slice a0 l.length c0] 37)).drewN m) (fun i _ => l.length - (intOf i).toNat)
      case atStart => exact ⟨0, Nat.zero_le _, rfl, fun j hj => absurd hj (Nat.not_lt_zero _), 0, rfl⟩
      case round =>
        obtain ⟨k, hk, rfl, hall, m, rfl⟩ := hrel
        have HALL := Lib.hid hall
        clear hall
        by_cases hlt : k < l.length
        · obtain ⟨b1, off, rfl, _, _, hc⟩ := HS.out.at k hlt
          rw [Nat.mul_one] at hc
          have hc0 := open_Int hc
          clear hc
          have hin := fun (v : Bool) (hv : rowB l.length (l.getD k default) = v) w => spec_l1In_q (l.getD k default) 0 (q - 1) v ((inR_row HQ.out).trans hv) w
          by_cases he : rowB l.length (l.getD k default) = false
          · have fin2 := Lib.hid (rows_not hlt he)
            have HCL := Lib.hid (hin _ he)
            clear he hin
            generalize l.getD k default = y at *
            go_wp2
            go_quiet ((go_at_call 57; exact quiet_add_same (HCL.out _)))
            go_wp2
            go_ret
            exact ⟨ret_b (by rw [fin.out, fin2.out]), below_drewN (below_drewN HB.out _) _⟩
          · have he' : rowB l.length (l.getD k default) = true := by simpa using he
            have HA2 := Lib.hid (show ∀ j, j < k + 1 → rowB l.length (l.getD j default) = true from fun j hj => by
              by_cases hjk : j = k
              · rw [hjk]; exact he'
              · exact HALL.out j (by omega))
            have HCL := Lib.hid (hin _ he')
            clear he he' hin
            generalize l.getD k default = y at *
            go_wp2
            go_quiet ((go_at_call 57; exact quiet_add_same (HCL.out _)))
            go_wp2
            go_roundw
            case rel => exact ⟨k + 1, by omega, by go_num, HA2.out, _, rfl⟩
            case measure => simp [intOf]; omega
        · obtain rfl : k = l.length := by omega
          have fin2 := Lib.hid (rows_all HALL.out)
          go_wp2
          go_ret
          exact ⟨ret_b (by rw [fin.out, fin2.out]), below_drewN HB.out _⟩
    · have fin := Lib.hid (relB_no2 h2)
      have h2' : ((r.fRows.length : Int) == r.fN) = false := beq_eq_false_iff_ne.2 h2
      have h2'' : ((r.fRows.length : Int) != r.fN) = true := by simp [bne, h2']
      clear hs h2 h1
      go_enter Try.func58, Try.ntmps58
      go_wp2_with fail
      refine (HZ.out _).mono ?_
      rintro e w1 ⟨rfl, rfl⟩
      go_wp2
      go_ret
      exact ⟨ret_b (by rw [fin.out]), HB.out⟩
  · have h1' := inR_no (n := r.fN) (a := 0) (b := 16) (by omega)
    have fin := Lib.hid (relB_no1 h1')
    rw [h1'] at hz
    have HZ := Lib.hid hz
    clear hz h1' hs h1
    go_enter Try.func58, Try.ntmps58
    go_wp2_with fail
    refine (HZ.out _).mono ?_
    rintro e w1 ⟨rfl, rfl⟩
    go_wp2
    go_ret
    exact ⟨ret_b (by rw [fin.out]), HB.out⟩

theorem rel_len {r : DRelation} (h : r.sz ≤ 1048576) : r.fRows.length ≤ 1048576 := by unfold DRelation.sz at h; rw [lsz_zero] at h; exact h
theorem spec_IsValidRelation {lo hi c0_0 : Nat} {a0 : Option Addr} (r : DRelation) (_ : r.ok) (hsz : r.sz ≤ 1048576) (w : World) (hhi : hi ≤ w.heap.size) (hs : Sl lo hi w 1 r.fRows.length (fun k => ictI (r.fRows.getD k default)) a0) :
    Calls Try.prog 58 #[.agg #[.int .i64 r.fN, .slice a0 r.fRows.length c0_0]] w fun e w' => e = .returned (.bool (relB r)) ∧ Below w.heap.size w w' :=
  spec_relValid r (rel_len hsz) _ rfl w hhi hs
theorem impl_IsValidRelation {lo hi c0_0 : Nat} {a0 : Option Addr} (r : DRelation) (_ : r.ok) (hsz : r.sz ≤ 1048576) (w : World) (hhi : hi ≤ w.heap.size) (hs : Sl lo hi w 1 r.fRows.length (fun k => ictI (r.fRows.getD k default)) a0) :
    Calls Try.prog 70 #[.agg #[.int .i64 r.fN, .slice a0 r.fRows.length c0_0]] w fun e w' => e = .returned (.bool (relB r)) ∧ Below w.heap.size w w' :=
  impl_relValid r (rel_len hsz) _ rfl w hhi hs

end Go.Proofs.Ytfdilfhmcfggfaa

namespace Go.Proofs.Ytfdilfhmcfggfaa
open Go.ChangeShapes Go.WideShapes Go.ChangeAt Go.RowKit Go.Deep


def emptyRel (n : Int) : DRelation := if 0 ≤ n ∧ n ≤ 16 then ⟨n, List.replicate n.toNat 0⟩ else ⟨0, []⟩
theorem emptyRel_nat {n : Nat} (h : n ≤ 16) : emptyRel n = ⟨n, List.replicate n 0⟩ := by unfold emptyRel; rw [if_pos (by omega), Int.toNat_natCast]
theorem emptyRel_no {n : Int} (h : ¬ (0 ≤ n ∧ n ≤ 16)) : emptyRel n = ⟨0, []⟩ := by unfold emptyRel; rw [if_neg h]
theorem emptyRel_len (n : Int) : (emptyRel n).fRows.length ≤ 16 := by
  unfold emptyRel
  split <;> simp <;> omega
theorem emptyRel_sz (n : Int) : (emptyRel n).sz ≤ 1048576 := by
  have := emptyRel_len n
  unfold DRelation.sz
  rw [lsz_zero]
  omega
/-- A relation that a call has made. -/
def RelOut (r : DRelation) (w : World) (e : Ending) (w' : World) : Prop :=
  ∃ (a : Option Addr) (c : Nat), e = .returned (.agg #[.int .i64 r.fN, .slice a r.fRows.length c]) ∧ Own w' (fun y => w.heap.size ≤ y ∧ y < w'.heap.size) (.sl 1 r.fRows.length (fun k => ictI (r.fRows.getD k default))) (.slice a r.fRows.length c) ∧ Below w.heap.size w w'
theorem made_ints {n k : Nat} (h : k < n) : (madeCells (Value.cells (.int .i64 0)) (n * 1)).toList.getD k .nilFunc = .int .i64 0 := by
  unfold madeCells
  simp [Value.cells, List.getD, h, Nat.mod_one]
theorem cell_zero {w : World} {b : Nat} (k : Nat) : w.cell? ⟨b, 0 + k, none⟩ = w.cell? ⟨b, k, none⟩ := by rw [Nat.zero_add]
theorem rep_get {n k : Nat} (h : k < n) : (List.replicate n (0 : Int)).getD k default = 0 := by
  rw [List.getD_eq_getElem?_getD, List.getElem?_replicate, if_pos h]; rfl
theorem made_own {w : World} {B n : Nat} {e : TypeId} (h : w.ownsRow B e 1 (.slice (some ⟨B, 0, none⟩) n n) n (madeCells (Value.cells (.int .i64 0)) (n * 1)).toList) :
    Own w (fun y => B ≤ y ∧ y < w.heap.size) (.sl 1 n (fun k => ictI ((List.replicate n (0 : Int)).getD k default))) (.slice (some ⟨B, 0, none⟩) n n) := by
  have hblk := ownsRow_block h
  refine ints_own ⟨Nat.le_refl _, hblk.1⟩ hblk.1 (fun k hk => ⟨.int .i64 0, ?_, ?_⟩) hblk.2.2.2
  · show Ct.lit _ = _
    rw [rep_get hk]
  · rw [Nat.zero_add, hblk.2.2.1 k (by omega), made_ints hk]
theorem ict_rep {n k : Nat} (h : k < n) : ictI ((List.replicate n (0 : Int)).getD k default) 0 = .lit (.int .i64 0) := by unfold ictI; rw [rep_get h]

set_option maxHeartbeats 1600000 in
set_option maxRecDepth 100000 in
theorem spec_EmptyRelation (n : Int) (hn : okI n) (w : World) : Calls Try.prog 26 #[.int .i64 n] w (RelOut (emptyRel n) w) := by
  have hn1 : -9223372036854775808 ≤ n ∧ n ≤ 9223372036854775807 := hn
  clear hn
  have HZ := Lib.hid (fun w => spec_l1In n 0 16 w)
  by_cases h : 0 ≤ n ∧ n ≤ 16
  · obtain ⟨n, rfl⟩ : ∃ m : Nat, n = m := ⟨n.toNat, by omega⟩
    have hn16 : n ≤ 16 := by omega
    rw [inR_yes (by omega) (by omega)] at HZ
    rw [emptyRel_nat hn16]
    clear h hn1
    obtain ⟨i0, hi', hz0, hz1, hz2⟩ := info_parts info_Int
    have HB := Lib.hid ((Below.refl w.heap.size w).alloc (Nat.le_refl _) (.cells #[.int .i64 0, .slice none 0 0] 37))
    have HG := Lib.hid (show (w.alloc (.cells #[.int .i64 0, .slice none 0 0] 37)).heap[w.heap.size]? = some (.cells #[.int .i64 0, .slice none 0 0] 37) from blk_new rfl)
    have HSZ := Lib.hid (show w.heap.size < (w.alloc (.cells #[.int .i64 0, .slice none 0 0] 37)).heap.size by simp)
    have HC0 := Lib.hid (show (w.alloc (.cells #[.int .i64 0, .slice none 0 0] 37)).cell? ⟨w.heap.size, 0, none⟩ = some (.int .i64 0) by rw [World.cell?_alloc_new]; rfl)
    have HC1 := Lib.hid (show (w.alloc (.cells #[.int .i64 0, .slice none 0 0] 37)).cell? ⟨w.heap.size, 1, none⟩ = some (.slice none 0 0) by rw [World.cell?_alloc_new]; rfl)
    have HF0 := Lib.hid (show (w.alloc (.cells #[.int .i64 0, .slice none 0 0] 37)).frozen? ⟨w.heap.size, 0, none⟩ = false by go_simp)
    have HF1 := Lib.hid (show (w.alloc (.cells #[.int .i64 0, .slice none 0 0] 37)).frozen? ⟨w.heap.size, 1, none⟩ = false by go_simp)
    go_enter Try.func26, Try.ntmps26
    go_wp2_with fail
    refine (HZ.out _).mono ?_
    rintro e w' ⟨rfl, rfl⟩
    go_wp2_with (at_make; refine wpList_make_full _ rfl (.tmp 8) (.tmp 8) 31 rfl (w.alloc (.cells #[.int .i64 0, .slice none 0 0] 37)).heap.size 3 i0 (.int .i64 0) 1 Try.underlying31 hi' hz0 hz1 .i64 .i64 (n : Int) (n : Int) n rfl rfl rfl rfl (by rw [hz2]; omega) (by unfold maxLen; omega) (Nat.le_refl _) ?_; intro w1 hown hgrow; have hb1 : Below (w.alloc (.cells #[.int .i64 0, .slice none 0 0] 37)).heap.size (w.alloc (.cells #[.int .i64 0, .slice none 0 0] 37)) w1 := (Below.refl _ _).grown hgrow (Nat.le_refl _) (fun k hk => by cases hk); have hmo := made_own hown; rw [show (w.alloc (.cells #[.int .i64 0, .slice none 0 0] 37)).heap.size = w.heap.size + 1 by simp] at hmo; have HO := Lib.hid hmo; clear hown hgrow hmo; have x0 := (hb1.cell (p := ⟨w.heap.size, 0, none⟩) HSZ.out).trans HC0.out; have x1 := (hb1.cell (p := ⟨w.heap.size, 1, none⟩) HSZ.out).trans HC1.out; have z0 := (hb1.frozen (p := ⟨w.heap.size, 0, none⟩) HSZ.out).trans HF0.out; have z1 := (hb1.frozen (p := ⟨w.heap.size, 1, none⟩) HSZ.out).trans HF1.out; have HG1 := Lib.hid ((hb1.block _ HSZ.out).trans HG.out); have HB1 := Lib.hid (HB.out.trans (hb1.mono HB.out.size)); have hsz := Nat.lt_of_lt_of_le HSZ.out hb1.size; clear hb1)
    refine bodyPost_ret (v := .agg #[.int .i64 (n : Int), .slice (some ⟨w.heap.size + 1, 0, none⟩) n n]) (results_cell_row Try.results26 _ _ w.heap.size 37 #[.int .i64 (n : Int), .slice (some ⟨w.heap.size + 1, 0, none⟩) n n] (0, 0) _ rfl (by refine Eq.trans (blk_set (cs := #[.int .i64 (n : Int), .slice none 0 0]) (t := 37) (fr := (0, 0)) ?_) rfl; refine Eq.trans (blk_set (cs := #[.int .i64 0, .slice none 0 0]) (t := 37) (fr := (0, 0)) ?_) rfl; exact HG1.out) Try.underlying37 rfl rfl) rfl ?_
    refine ⟨some ⟨w.heap.size + 1, 0, none⟩, n, by simp, ?_, ?_⟩
    · rw [List.length_replicate]
      refine Own.sub (F := fun y => w.heap.size + 1 ≤ y ∧ y < w1.heap.size) (HO.out.kept (Kept.put (Kept.put Kept.refl ?_) ?_)) (fun y hy => ⟨Nat.le_trans (Nat.le_succ _) hy.1, Nat.lt_of_lt_of_le hy.2 (by simp)⟩)
      · intro h; exact absurd h.1 (Nat.not_succ_le_self _)
      · intro h; exact absurd h.1 (Nat.not_succ_le_self _)
    · exact (HB1.out.setCell (p := ⟨w.heap.size, 0, none⟩) (Nat.le_refl _) _).setCell (p := ⟨w.heap.size, 1, none⟩) (Nat.le_refl _) _
  · rw [inR_no (by omega)] at HZ
    rw [emptyRel_no h]
    clear h
    go_enter Try.func26, Try.ntmps26
    go_wp2_with fail
    refine (HZ.out _).mono ?_
    rintro e w' ⟨rfl, rfl⟩
    go_wp2
    refine bodyPost_ret (v := .agg #[.int .i64 0, .slice none 0 0]) (by simp [results, Try.results26, go_sem]) rfl ⟨none, 0, rfl, .nil _ _ _ _ _, by
      repeat (first | (with_reducible exact Below.refl _ _) | (refine Below.setCell ?_ (by simp <;> omega) _) | (refine Below.alloc ?_ (by simp <;> omega) _))⟩

set_option maxHeartbeats 1600000 in
set_option maxRecDepth 100000 in
theorem impl_EmptyRelation (n : Int) (hn : okI n) (w : World) : Calls Try.prog 37 #[.int .i64 n] w (RelOut (emptyRel n) w) := by
  have hn1 : -9223372036854775808 ≤ n ∧ n ≤ 9223372036854775807 := hn
  clear hn
  have HZ := Lib.hid (fun w => impl_isRelationSize n w)
  by_cases h : 0 ≤ n ∧ n ≤ 16
  · obtain ⟨n, rfl⟩ : ∃ m : Nat, n = m := ⟨n.toNat, by omega⟩
    have hn16 : n ≤ 16 := by omega
    rw [inR_yes (by omega) (by omega)] at HZ
    rw [emptyRel_nat hn16]
    clear h hn1
    obtain ⟨i0, hi', hz0, hz1, hz2⟩ := info_parts info_Int
    have HB := Lib.hid ((Below.refl w.heap.size w).alloc (Nat.le_refl _) (.cells #[.int .i64 0, .slice none 0 0] 37))
    have HG := Lib.hid (show (w.alloc (.cells #[.int .i64 0, .slice none 0 0] 37)).heap[w.heap.size]? = some (.cells #[.int .i64 0, .slice none 0 0] 37) from blk_new rfl)
    have HSZ := Lib.hid (show w.heap.size < (w.alloc (.cells #[.int .i64 0, .slice none 0 0] 37)).heap.size by simp)
    have HC0 := Lib.hid (show (w.alloc (.cells #[.int .i64 0, .slice none 0 0] 37)).cell? ⟨w.heap.size, 0, none⟩ = some (.int .i64 0) by rw [World.cell?_alloc_new]; rfl)
    have HC1 := Lib.hid (show (w.alloc (.cells #[.int .i64 0, .slice none 0 0] 37)).cell? ⟨w.heap.size, 1, none⟩ = some (.slice none 0 0) by rw [World.cell?_alloc_new]; rfl)
    have HF0 := Lib.hid (show (w.alloc (.cells #[.int .i64 0, .slice none 0 0] 37)).frozen? ⟨w.heap.size, 0, none⟩ = false by go_simp)
    have HF1 := Lib.hid (show (w.alloc (.cells #[.int .i64 0, .slice none 0 0] 37)).frozen? ⟨w.heap.size, 1, none⟩ = false by go_simp)
    go_enter Try.func37, Try.ntmps37
    go_wp2_with fail
    refine (HZ.out _).mono ?_
    rintro e w' ⟨rfl, rfl⟩
    go_wp2_with (at_make; refine wpList_make_full _ rfl (.tmp 8) (.tmp 8) 31 rfl (w.alloc (.cells #[.int .i64 0, .slice none 0 0] 37)).heap.size 3 i0 (.int .i64 0) 1 Try.underlying31 hi' hz0 hz1 .i64 .i64 (n : Int) (n : Int) n rfl rfl rfl rfl (by rw [hz2]; omega) (by unfold maxLen; omega) (Nat.le_refl _) ?_; intro w1 hown hgrow; have hb1 : Below (w.alloc (.cells #[.int .i64 0, .slice none 0 0] 37)).heap.size (w.alloc (.cells #[.int .i64 0, .slice none 0 0] 37)) w1 := (Below.refl _ _).grown hgrow (Nat.le_refl _) (fun k hk => by cases hk); have hmo := made_own hown; rw [show (w.alloc (.cells #[.int .i64 0, .slice none 0 0] 37)).heap.size = w.heap.size + 1 by simp] at hmo; have HO := Lib.hid hmo; clear hown hgrow hmo; have x0 := (hb1.cell (p := ⟨w.heap.size, 0, none⟩) HSZ.out).trans HC0.out; have x1 := (hb1.cell (p := ⟨w.heap.size, 1, none⟩) HSZ.out).trans HC1.out; have z0 := (hb1.frozen (p := ⟨w.heap.size, 0, none⟩) HSZ.out).trans HF0.out; have z1 := (hb1.frozen (p := ⟨w.heap.size, 1, none⟩) HSZ.out).trans HF1.out; have HG1 := Lib.hid ((hb1.block _ HSZ.out).trans HG.out); have HB1 := Lib.hid (HB.out.trans (hb1.mono HB.out.size)); have hsz := Nat.lt_of_lt_of_le HSZ.out hb1.size; clear hb1)
    refine bodyPost_ret (v := .agg #[.int .i64 (n : Int), .slice (some ⟨w.heap.size + 1, 0, none⟩) n n]) (results_cell_row Try.results37 _ _ w.heap.size 37 #[.int .i64 (n : Int), .slice (some ⟨w.heap.size + 1, 0, none⟩) n n] (0, 0) _ rfl (by refine Eq.trans (blk_set (cs := #[.int .i64 (n : Int), .slice none 0 0]) (t := 37) (fr := (0, 0)) ?_) rfl; refine Eq.trans (blk_set (cs := #[.int .i64 0, .slice none 0 0]) (t := 37) (fr := (0, 0)) ?_) rfl; exact HG1.out) Try.underlying37 rfl rfl) rfl ?_
    refine ⟨some ⟨w.heap.size + 1, 0, none⟩, n, by simp, ?_, ?_⟩
    · rw [List.length_replicate]
      refine Own.sub (F := fun y => w.heap.size + 1 ≤ y ∧ y < w1.heap.size) (HO.out.kept (Kept.put (Kept.put Kept.refl ?_) ?_)) (fun y hy => ⟨Nat.le_trans (Nat.le_succ _) hy.1, Nat.lt_of_lt_of_le hy.2 (by simp)⟩)
      · intro h; exact absurd h.1 (Nat.not_succ_le_self _)
      · intro h; exact absurd h.1 (Nat.not_succ_le_self _)
    · exact (HB1.out.setCell (p := ⟨w.heap.size, 0, none⟩) (Nat.le_refl _) _).setCell (p := ⟨w.heap.size, 1, none⟩) (Nat.le_refl _) _
  · rw [inR_no (by omega)] at HZ
    rw [emptyRel_no h]
    clear h
    go_enter Try.func37, Try.ntmps37
    go_wp2_with fail
    refine (HZ.out _).mono ?_
    rintro e w' ⟨rfl, rfl⟩
    go_wp2
    refine bodyPost_ret (v := .agg #[.int .i64 0, .slice none 0 0]) (by simp [results, Try.results37, go_sem]) rfl ⟨none, 0, rfl, .nil _ _ _ _ _, by
      repeat (first | (with_reducible exact Below.refl _ _) | (refine Below.setCell ?_ (by simp <;> omega) _) | (refine Below.alloc ?_ (by simp <;> omega) _))⟩

end Go.Proofs.Ytfdilfhmcfggfaa

namespace Go.Proofs.Ytfdilfhmcfggfaa
open Go.ChangeShapes Go.WideShapes Go.ChangeAt Go.RowKit Go.Deep


abbrev rowsI (l : List Int) : Nat → Nat → Ct := fun k => ictI (l.getD k default)
/-- A slice of numbers that a call has made. -/
def IntsOut (l : List Int) (w : World) (e : Ending) (w' : World) : Prop :=
  ∃ (a : Option Addr) (c : Nat), e = .returned (.slice a l.length c) ∧ Own w' (fun y => w.heap.size ≤ y ∧ y < w'.heap.size) (.sl 1 l.length (rowsI l)) (.slice a l.length c) ∧ Below w.heap.size w w'
theorem own_of_row {w : World} {B : Nat} {e : TypeId} {v : Value} {l : List Int} (h : w.ownsRow B e 1 v l.length (l.map (Value.int .i64))) :
    ∃ a c, v = .slice a l.length c ∧ Own w (fun y => B ≤ y ∧ y < w.heap.size) (.sl 1 l.length (rowsI l)) (.slice a l.length c) := by
  have h0 := h
  rcases h.2 with ⟨rfl, hn⟩ | ⟨g, cap, cur, rfl, hB, hg, _⟩
  · rw [hn]; exact ⟨none, 0, rfl, .nil _ _ _ _ _⟩
  · have hblk := ownsRow_block h0
    refine ⟨_, cap, rfl, ints_own ⟨hB, hblk.1⟩ hblk.1 (fun k hk => ⟨.int .i64 (l.getD k default), rfl, ?_⟩) hblk.2.2.2⟩
    rw [Nat.zero_add, hblk.2.2.1 k (by omega), List.getD_eq_getElem?_getD, List.getElem?_map, List.getD_eq_getElem?_getD, List.getElem?_eq_getElem hk]
    rfl
theorem cells_of_sl {lo hi : Nat} {w : World} {l : List Int} {b off : Nat} (h : Sl lo hi w 1 l.length (rowsI l) (some ⟨b, off, none⟩)) : ∀ j, j < l.length → w.cell? ⟨b, off + j, none⟩ = some (.int .i64 (l.getD j 0)) := by
  intro j hj
  obtain ⟨b', off', hbo, _, _, hc⟩ := h.at j hj
  simp only [Option.some.injEq, Addr.mk.injEq, and_true] at hbo
  obtain ⟨rfl, rfl⟩ := hbo
  rw [Nat.mul_one] at hc
  exact open_Int hc
theorem clone_ints {lo hi c : Nat} {a : Option Addr} (l : List Int) (hl : l.length ≤ 1048576) (w : World) (hs : Sl lo hi w 1 l.length (rowsI l) a) :
    Calls Try.prog 89 #[.slice a l.length c] w (IntsOut l w) := by
  cases a with
  | none =>
    have h0 : l = [] := by
      rcases Nat.eq_zero_or_pos l.length with h | h
      · exact List.length_eq_zero_iff.1 h
      · obtain ⟨b, off, hb, _⟩ := hs.at 0 h
        cases hb
    subst h0
    exact (Try.slices_Clone_int_nil 0 c w).mono fun e w' ⟨he, hw⟩ => ⟨none, 0, he, .nil _ _ _ _ _, by subst hw; exact Below.refl _ _⟩
  | some p =>
    rcases Nat.eq_zero_or_pos l.length with h | h
    · have h0 : l = [] := List.length_eq_zero_iff.1 h
      subst h0
      refine (Try.slices_Clone_int_zero p c w).mono fun e w' ⟨v', he, hown, _, hb⟩ => ?_
      obtain ⟨a', c', rfl, ho⟩ := own_of_row (l := []) hown
      exact ⟨a', c', he, ho, hb⟩
    · obtain ⟨b, off, hb, _⟩ := hs.at 0 h
      obtain rfl : p = ⟨b, off, none⟩ := Option.some.inj hb
      refine (Try.slices_Clone_int b off l.length c l w (Nat.le_refl _) (by omega) (cells_of_sl hs)).mono fun e w' ⟨v', he, hown, _, hb⟩ => ?_
      rw [List.take_length] at hown
      obtain ⟨a', c', rfl, ho⟩ := own_of_row hown
      exact ⟨a', c', he, ho, hb⟩

set_option maxHeartbeats 1600000 in
set_option maxRecDepth 100000 in
theorem impl_copyRelation {lo hi c0 : Nat} {a0 : Option Addr} (r : DRelation) (hl : r.fRows.length ≤ 1048576) (w : World) (hhi : hi ≤ w.heap.size) (hs : Sl lo hi w 1 r.fRows.length (rowsI r.fRows) a0) :
    Calls Try.prog 72 #[.agg #[.int .i64 r.fN, .slice a0 r.fRows.length c0]] w (RelOut r w) := by
  have HB := Lib.hid (((Below.refl w.heap.size w).alloc (Nat.le_refl _) (.cells #[.int .i64 r.fN, .slice a0 r.fRows.length c0] 37)).alloc (by simp) (.cells #[.int .i64 0, .slice none 0 0] 37))
  have HG := Lib.hid (show ((w.alloc (.cells #[.int .i64 r.fN, .slice a0 r.fRows.length c0] 37)).alloc (.cells #[.int .i64 0, .slice none 0 0] 37)).heap[w.heap.size + 1]? = some (.cells #[.int .i64 0, .slice none 0 0] 37) from blk_new (by simp))
  have HSZ := Lib.hid (show w.heap.size + 1 < ((w.alloc (.cells #[.int .i64 r.fN, .slice a0 r.fRows.length c0] 37)).alloc (.cells #[.int .i64 0, .slice none 0 0] 37)).heap.size by simp)
  have HZ2 := Lib.hid (show ((w.alloc (.cells #[.int .i64 r.fN, .slice a0 r.fRows.length c0] 37)).alloc (.cells #[.int .i64 0, .slice none 0 0] 37)).heap.size = w.heap.size + 2 by simp)
  have hS := hs.later HB.out hhi
  clear hs
  have HCL := Lib.hid (fun (w' : World) (hb : Below ((w.alloc (.cells #[.int .i64 r.fN, .slice a0 r.fRows.length c0] 37)).alloc (.cells #[.int .i64 0, .slice none 0 0] 37)).heap.size ((w.alloc (.cells #[.int .i64 r.fN, .slice a0 r.fRows.length c0] 37)).alloc (.cells #[.int .i64 0, .slice none 0 0] 37)) w') => clone_ints (c := c0) r.fRows hl w' (hS.later hb (Nat.le_trans hhi HB.out.size)))
  clear hS
  have HC0 := Lib.hid (show ((w.alloc (.cells #[.int .i64 r.fN, .slice a0 r.fRows.length c0] 37)).alloc (.cells #[.int .i64 0, .slice none 0 0] 37)).cell? ⟨w.heap.size, 0, none⟩ = some (.int .i64 r.fN) by go_simp)
  have HC1 := Lib.hid (show ((w.alloc (.cells #[.int .i64 r.fN, .slice a0 r.fRows.length c0] 37)).alloc (.cells #[.int .i64 0, .slice none 0 0] 37)).cell? ⟨w.heap.size + 1, 0, none⟩ = some (.int .i64 0) by go_simp)
  have HC2 := Lib.hid (show ((w.alloc (.cells #[.int .i64 r.fN, .slice a0 r.fRows.length c0] 37)).alloc (.cells #[.int .i64 0, .slice none 0 0] 37)).cell? ⟨w.heap.size + 1, 1, none⟩ = some (.slice none 0 0) by go_simp)
  have HF1 := Lib.hid (show ((w.alloc (.cells #[.int .i64 r.fN, .slice a0 r.fRows.length c0] 37)).alloc (.cells #[.int .i64 0, .slice none 0 0] 37)).frozen? ⟨w.heap.size + 1, 0, none⟩ = false by go_simp)
  have HF2 := Lib.hid (show ((w.alloc (.cells #[.int .i64 r.fN, .slice a0 r.fRows.length c0] 37)).alloc (.cells #[.int .i64 0, .slice none 0 0] 37)).frozen? ⟨w.heap.size + 1, 1, none⟩ = false by go_simp)
  go_enter Try.func72, Try.ntmps72
  go_wp2_with fail
  go_region_with ((go_at_call 89; refine (HCL.out _ (by first | exact Below.refl _ _ | exact (Below.refl _ _).drew | exact below_drewN (Below.refl _ _) _)).mono ?_; rintro e w1 ⟨a1, c1, rfl, ho1, hb1⟩; have hst : Below ((w.alloc (.cells #[.int .i64 r.fN, .slice a0 r.fRows.length c0] 37)).alloc (.cells #[.int .i64 0, .slice none 0 0] 37)).heap.size ((w.alloc (.cells #[.int .i64 r.fN, .slice a0 r.fRows.length c0] 37)).alloc (.cells #[.int .i64 0, .slice none 0 0] 37)) w1 := ⟨hb1.os, hb1.tape, hb1.output, hb1.size, hb1.block⟩; have x0 := (hst.cell (p := ⟨w.heap.size, 0, none⟩) (by show w.heap.size < _; have := HSZ.out; omega)).trans HC0.out; have x1 := (hst.cell (p := ⟨w.heap.size + 1, 0, none⟩) HSZ.out).trans HC1.out; have x2 := (hst.cell (p := ⟨w.heap.size + 1, 1, none⟩) HSZ.out).trans HC2.out; have z1 := (hst.frozen (p := ⟨w.heap.size + 1, 0, none⟩) HSZ.out).trans HF1.out; have z2 := (hst.frozen (p := ⟨w.heap.size + 1, 1, none⟩) HSZ.out).trans HF2.out; have HG1 := Lib.hid ((hst.block _ HSZ.out).trans HG.out); have HO := Lib.hid (ho1.sub (F' := fun y => w.heap.size + 2 ≤ y ∧ y < w1.heap.size) (fun y hy => ⟨Nat.le_trans (Nat.le_of_eq HZ2.out.symm) hy.1, hy.2⟩)); have HB1 := Lib.hid (HB.out.trans (hst.mono HB.out.size)); clear hb1 ho1 hst))
  all_goals
    go_wp2
    refine bodyPost_ret (v := .agg #[.int .i64 r.fN, .slice a1 r.fRows.length c1]) (results_cell_row Try.results72 _ _ (w.heap.size + 1) 37 #[.int .i64 r.fN, .slice a1 r.fRows.length c1] (0, 0) _ rfl (by refine Eq.trans (blk_set (cs := #[.int .i64 r.fN, .slice none 0 0]) (t := 37) (fr := (0, 0)) ?_) rfl; refine Eq.trans (blk_set (cs := #[.int .i64 0, .slice none 0 0]) (t := 37) (fr := (0, 0)) ?_) rfl; exact HG1.out) Try.underlying37 rfl rfl) rfl ⟨a1, c1, rfl, ?_, ?_⟩
    · refine Own.sub (F := fun y => w.heap.size + 2 ≤ y ∧ y < w1.heap.size) (HO.out.kept ?_) (fun y hy => ⟨Nat.le_trans (by omega) hy.1, Nat.lt_of_lt_of_le hy.2 (by simp)⟩)
      repeat (first | (with_reducible exact Kept.refl) | (refine Kept.put ?_ (by intro h; have h1 := h.1; dsimp only at h1; omega)))
    · repeat (first | (with_reducible exact HB1.out) | (with_reducible apply Below.drew) | (with_reducible refine below_drewN ?_ _) | (refine Below.setCell ?_ (by simp <;> omega) _))

end Go.Proofs.Ytfdilfhmcfggfaa

namespace Go.Proofs.Ytfdilfhmcfggfaa
open Go.ChangeShapes Go.WideShapes Go.ChangeAt Go.RowKit Go.Deep



theorem some_cells {lo hi : Nat} {w W : World} {l : List Int} {p : Addr} (hs : Sl lo hi w 1 l.length (rowsI l) (some p)) (hhi : hi ≤ w.heap.size) (hW : Below w.heap.size w W) {j : Nat} {u : Value} (hu : (l.map (Value.int .i64))[j]? = some u) : W.cell? (p.add j) = some u := by
  have hj : j < l.length := by have := (List.getElem?_eq_some_iff.1 hu).1; simpa using this
  obtain ⟨b, off, hb, _, hbh, _⟩ := hs.at j hj
  obtain rfl : p = ⟨b, off, none⟩ := Option.some.inj hb
  have hc := cells_of_sl hs j hj
  rw [WideShapes.add_plain, hW.cell (p := ⟨b, off + j, none⟩) (by show b < _; omega), hc]
  rw [List.getElem?_map, List.getElem?_eq_getElem hj] at hu
  rw [← hu, List.getD_eq_getElem?_getD, List.getElem?_eq_getElem hj]
  rfl

set_option maxHeartbeats 1600000 in
set_option maxRecDepth 100000 in
theorem spec_l22Copy {lo hi c0 : Nat} {p : Addr} (r : DRelation) (hl : r.fRows.length ≤ 1048576) (w : World) (hhi : hi ≤ w.heap.size) (hs : Sl lo hi w 1 r.fRows.length (rowsI r.fRows) (some p)) :
    Calls Try.prog 59 #[.agg #[.int .i64 r.fN, .slice (some p) r.fRows.length c0]] w (RelOut r w) := by
  obtain ⟨i0, hi', hz0, hz1, hz2⟩ := info_parts info_Int
  have HB := Lib.hid (((Below.refl w.heap.size w).alloc (Nat.le_refl _) (.cells #[.int .i64 r.fN, .slice (some p) r.fRows.length c0] 37)).alloc (by simp) (.cells #[.int .i64 0, .slice none 0 0] 37))
  have HG := Lib.hid (show ((w.alloc (.cells #[.int .i64 r.fN, .slice (some p) r.fRows.length c0] 37)).alloc (.cells #[.int .i64 0, .slice none 0 0] 37)).heap[w.heap.size + 1]? = some (.cells #[.int .i64 0, .slice none 0 0] 37) from blk_new (by simp))
  have HC0 := Lib.hid (show ((w.alloc (.cells #[.int .i64 r.fN, .slice (some p) r.fRows.length c0] 37)).alloc (.cells #[.int .i64 0, .slice none 0 0] 37)).cell? ⟨w.heap.size, 0, none⟩ = some (.int .i64 r.fN) by go_simp)
  have HC1 := Lib.hid (show ((w.alloc (.cells #[.int .i64 r.fN, .slice (some p) r.fRows.length c0] 37)).alloc (.cells #[.int .i64 0, .slice none 0 0] 37)).cell? ⟨w.heap.size + 1, 0, none⟩ = some (.int .i64 0) by go_simp)
  have HC2 := Lib.hid (show ((w.alloc (.cells #[.int .i64 r.fN, .slice (some p) r.fRows.length c0] 37)).alloc (.cells #[.int .i64 0, .slice none 0 0] 37)).cell? ⟨w.heap.size + 1, 1, none⟩ = some (.slice none 0 0) by go_simp)
  have HF1 := Lib.hid (show ((w.alloc (.cells #[.int .i64 r.fN, .slice (some p) r.fRows.length c0] 37)).alloc (.cells #[.int .i64 0, .slice none 0 0] 37)).frozen? ⟨w.heap.size + 1, 0, none⟩ = false by go_simp)
  have HF2 := Lib.hid (show ((w.alloc (.cells #[.int .i64 r.fN, .slice (some p) r.fRows.length c0] 37)).alloc (.cells #[.int .i64 0, .slice none 0 0] 37)).frozen? ⟨w.heap.size + 1, 1, none⟩ = false by go_simp)
  have hnews := Lib.hid (fun (W : World) (hW : Below w.heap.size w W) (j : Nat) (u : Value) (hu : (r.fRows.map (Value.int .i64))[j]? = some u) => some_cells hs hhi hW hu)
  have HLN := Lib.hid (show (r.fRows.map (Value.int .i64)).length = r.fRows.length * 1 by simp)
  have HON := Lib.hid (show ∀ u ∈ r.fRows.map (Value.int .i64), u.oneCell' = true from fun u hu => by obtain ⟨z, _, rfl⟩ := List.mem_map.1 hu; rfl)
  clear hs
  go_enter Try.func59, Try.ntmps59
  go_wp2_with fail
  go_region_law ((refine step_append_own _ rfl (.tmp 5) (.tmp 7) 31 rfl (w.heap.size + 2) 3 i0 (.int .i64 0) 1 8 Try.underlying31 hi' hz0 hz1 hz2 rfl (by decide) _ 0 [] (by simp [Act.eval]) (World.ownsRow_made _ #[] 0 (by simp) (Nat.zero_le _) rfl) p r.fRows.length c0 (r.fRows.map (Value.int .i64)) (by simp [Act.eval]) HLN.out (hnews.out _ (by repeat (first | (with_reducible exact HB.out) | (with_reducible apply Below.drew) | (with_reducible refine below_drewN ?_ _) | (refine Below.alloc ?_ (by simp <;> omega) _)))) HON.out (by unfold maxLen; omega) (by omega) (by simp) ?_; intro v1 w1 hown1 hgrow1 hnil1; rw [Nat.zero_add, List.nil_append] at hown1; have hst : Below (w.heap.size + 2) ((w.alloc (.cells #[.int .i64 r.fN, .slice (some p) r.fRows.length c0] 37)).alloc (.cells #[.int .i64 0, .slice none 0 0] 37)) w1 := Below.trans (by repeat (first | (with_reducible exact Below.refl _ _) | (with_reducible apply Below.drew) | (with_reducible refine below_drewN ?_ _) | (refine Below.alloc ?_ (by simp <;> omega) _))) (grown_below hgrow1 (by simp) (fun k hk => by simp [Value.ownBlock] at hk; omega)); skip; have x0 := (hst.cell (p := ⟨w.heap.size, 0, none⟩) (by show w.heap.size < w.heap.size + 2; omega)).trans HC0.out; have x1 := (hst.cell (p := ⟨w.heap.size + 1, 0, none⟩) (by show w.heap.size + 1 < w.heap.size + 2; omega)).trans HC1.out; have x2 := (hst.cell (p := ⟨w.heap.size + 1, 1, none⟩) (by show w.heap.size + 1 < w.heap.size + 2; omega)).trans HC2.out; have z1 := (hst.frozen (p := ⟨w.heap.size + 1, 0, none⟩) (by show w.heap.size + 1 < w.heap.size + 2; omega)).trans HF1.out; have z2 := (hst.frozen (p := ⟨w.heap.size + 1, 1, none⟩) (by show w.heap.size + 1 < w.heap.size + 2; omega)).trans HF2.out; have HG1 := Lib.hid ((hst.block (w.heap.size + 1) (by omega)).trans HG.out); have HB1 := Lib.hid (HB.out.trans (hst.mono (by omega))); have hor := own_of_row hown1; obtain ⟨a1, c1, rfl, ho1⟩ := hor; have HO := Lib.hid ho1; clear hown1 hgrow1 hnil1 hst ho1))
  all_goals
    go_wp2
    refine bodyPost_ret (v := .agg #[.int .i64 r.fN, .slice a1 r.fRows.length c1]) (results_cell_row Try.results59 _ _ (w.heap.size + 1) 37 #[.int .i64 r.fN, .slice a1 r.fRows.length c1] (0, 0) _ rfl (by refine Eq.trans (blk_set (cs := #[.int .i64 r.fN, .slice none 0 0]) (t := 37) (fr := (0, 0)) ?_) rfl; refine Eq.trans (blk_set (cs := #[.int .i64 0, .slice none 0 0]) (t := 37) (fr := (0, 0)) ?_) rfl; exact HG1.out) Try.underlying37 rfl rfl) rfl ⟨a1, c1, rfl, ?_, ?_⟩
    · refine Own.sub (F := fun y => w.heap.size + 2 ≤ y ∧ y < w1.heap.size) (HO.out.kept ?_) (fun y hy => ⟨Nat.le_trans (by omega) hy.1, Nat.lt_of_lt_of_le hy.2 (by simp)⟩)
      repeat (first | (with_reducible exact Kept.refl) | (refine Kept.put ?_ (by intro h; have h1 := h.1; dsimp only at h1; omega)))
    · repeat (first | (with_reducible exact HB1.out) | (with_reducible apply Below.drew) | (with_reducible refine below_drewN ?_ _) | (refine Below.setCell ?_ (by simp <;> omega) _))

set_option maxHeartbeats 1600000 in
set_option maxRecDepth 100000 in
theorem spec_l22Copy_none {c0 : Nat} (N : Int) (w : World) :
    Calls Try.prog 59 #[.agg #[.int .i64 N, .slice none 0 c0]] w (RelOut ⟨N, []⟩ w) := by
  obtain ⟨i0, hi', hz0, hz1, hz2⟩ := info_parts info_Int
  have HB := Lib.hid (((Below.refl w.heap.size w).alloc (Nat.le_refl _) (.cells #[.int .i64 N, .slice none 0 c0] 37)).alloc (by simp) (.cells #[.int .i64 0, .slice none 0 0] 37))
  have HG := Lib.hid (show ((w.alloc (.cells #[.int .i64 N, .slice none 0 c0] 37)).alloc (.cells #[.int .i64 0, .slice none 0 0] 37)).heap[w.heap.size + 1]? = some (.cells #[.int .i64 0, .slice none 0 0] 37) from blk_new (by simp))
  have HC0 := Lib.hid (show ((w.alloc (.cells #[.int .i64 N, .slice none 0 c0] 37)).alloc (.cells #[.int .i64 0, .slice none 0 0] 37)).cell? ⟨w.heap.size, 0, none⟩ = some (.int .i64 N) by go_simp)
  have HC1 := Lib.hid (show ((w.alloc (.cells #[.int .i64 N, .slice none 0 c0] 37)).alloc (.cells #[.int .i64 0, .slice none 0 0] 37)).cell? ⟨w.heap.size + 1, 0, none⟩ = some (.int .i64 0) by go_simp)
  have HC2 := Lib.hid (show ((w.alloc (.cells #[.int .i64 N, .slice none 0 c0] 37)).alloc (.cells #[.int .i64 0, .slice none 0 0] 37)).cell? ⟨w.heap.size + 1, 1, none⟩ = some (.slice none 0 0) by go_simp)
  have HF1 := Lib.hid (show ((w.alloc (.cells #[.int .i64 N, .slice none 0 c0] 37)).alloc (.cells #[.int .i64 0, .slice none 0 0] 37)).frozen? ⟨w.heap.size + 1, 0, none⟩ = false by go_simp)
  have HF2 := Lib.hid (show ((w.alloc (.cells #[.int .i64 N, .slice none 0 c0] 37)).alloc (.cells #[.int .i64 0, .slice none 0 0] 37)).frozen? ⟨w.heap.size + 1, 1, none⟩ = false by go_simp)
  go_enter Try.func59, Try.ntmps59
  go_wp2_with fail
  go_region_law ((refine step_append_none _ rfl (.tmp 5) (.tmp 7) 31 rfl (w.heap.size + 2) 3 i0 1 Try.underlying31 hi' _ 0 [] (by simp [Act.eval]) (World.ownsRow_made _ #[] 0 (by simp) (Nat.zero_le _) rfl) c0 (by simp [Act.eval]) ?_))
  all_goals
    go_wp2
    refine bodyPost_ret (v := .agg #[.int .i64 N, .slice (some ⟨w.heap.size + 2, 0, none⟩) 0 0]) (by simp [results, Try.results59, go_sem]) rfl ⟨some ⟨w.heap.size + 2, 0, none⟩, 0, rfl, .nil _ _ _ _ _, ?_⟩
    repeat (first | (with_reducible exact HB.out) | (with_reducible apply Below.drew) | (with_reducible refine below_drewN ?_ _) | (refine Below.setCell ?_ (by simp <;> omega) _) | (refine Below.alloc ?_ (by simp <;> omega) _) | (with_reducible exact Below.refl _ _))

theorem spec_copy {lo hi c0 : Nat} {a0 : Option Addr} (r : DRelation) (hl : r.fRows.length ≤ 1048576) (w : World) (hhi : hi ≤ w.heap.size) (hs : Sl lo hi w 1 r.fRows.length (rowsI r.fRows) a0) :
    Calls Try.prog 59 #[.agg #[.int .i64 r.fN, .slice a0 r.fRows.length c0]] w (RelOut r w) := by
  cases a0 with
  | some p => exact spec_l22Copy r hl w hhi hs
  | none =>
    obtain ⟨N, l⟩ := r
    have h0 : l = [] := by
      rcases Nat.eq_zero_or_pos l.length with h | h
      · exact List.length_eq_zero_iff.1 h
      · obtain ⟨b, off, hb, _⟩ := hs.at 0 h
        cases hb
    subst h0
    exact spec_l22Copy_none N w

end Go.Proofs.Ytfdilfhmcfggfaa

namespace Go.Proofs.Ytfdilfhmcfggfaa
open Go.ChangeShapes Go.WideShapes Go.ChangeAt Go.RowKit Go.Deep


/-- Bit k of a row. -/
def bitB (row : Int) (k : Nat) : Bool := bits BinOp.and IntKind.i64 (row / 2 ^ k) 1 == 1
def hasPair (r : DRelation) (i k : Int) : Bool := relB r && inR i 0 (r.fN - 1) && inR k 0 (r.fN - 1) && bitB (r.fRows.getD i.toNat default) k.toNat
theorem hasPair_no1 {r : DRelation} {i k : Int} (h : relB r = false) : hasPair r i k = false := by unfold hasPair; rw [h]; rfl
theorem hasPair_no2 {r : DRelation} {i k : Int} (h : inR i 0 (r.fN - 1) = false) : hasPair r i k = false := by unfold hasPair; rw [h, Bool.and_false]; rfl
theorem hasPair_no3 {r : DRelation} {i k : Int} (h : inR k 0 (r.fN - 1) = false) : hasPair r i k = false := by unfold hasPair; rw [h, Bool.and_false]; rfl
theorem hasPair_yes {r : DRelation} {i k : Nat} (h : relB r = true) (h1 : inR i 0 (r.fN - 1) = true) (h2 : inR k 0 (r.fN - 1) = true) : hasPair r i k = bitB (r.fRows.getD i default) k := by
  unfold hasPair; rw [h, h1, h2, Int.toNat_natCast, Int.toNat_natCast]; rfl
theorem relB_parts {r : DRelation} (h : relB r = true) : ∃ n : Nat, n ≤ 16 ∧ r.fN = n ∧ r.fRows.length = n ∧ ∀ j, j < n → 0 ≤ r.fRows.getD j default ∧ r.fRows.getD j default < 2 ^ n := by
  unfold relB inR at h
  simp only [Bool.and_eq_true, decide_eq_true_eq] at h
  obtain ⟨⟨⟨h1, h2⟩, h3⟩, h4⟩ := h
  refine ⟨r.fN.toNat, by omega, by omega, by omega, fun j hj => ?_⟩
  unfold rowsB at h4
  rw [List.all_eq_true] at h4
  have := h4 (r.fRows[j]'(by omega)) (List.getElem_mem _)
  unfold rowB at this
  simp only [Bool.and_eq_true, decide_eq_true_eq] at this
  rw [List.getD_eq_getElem?_getD, List.getElem?_eq_getElem (by omega)]
  exact this
theorem inR_nat {n i : Int} (h : inR i 0 n = true) : ∃ j : Nat, i = j ∧ (j : Int) ≤ n := by
  unfold inR at h
  simp only [Bool.and_eq_true, decide_eq_true_eq] at h
  exact ⟨i.toNat, by omega, by omega⟩

set_option maxHeartbeats 1600000 in
set_option maxRecDepth 100000 in
theorem impl_isNumber {a0 : Option Addr} {c0_0 : Nat} (r : DRelation) (i : Int) (v : Bool) (hv : inR i 0 (r.fN - 1) = v) (w : World) :
    Calls Try.prog 71 #[.agg #[.int .i64 r.fN, .slice a0 r.fRows.length c0_0], .int .i64 i] w fun e w' => e = .returned (.bool v) ∧ Below w.heap.size w w' := by
  have HB := Lib.hid ((Below.refl w.heap.size w).alloc (Nat.le_refl _) (.cells #[.int .i64 r.fN, .slice a0 r.fRows.length c0_0] 37))
  by_cases h0 : 0 ≤ i
  · have FIN := Lib.hid (show decide (i < r.fN) = v by rw [← hv]; unfold inR; simp [h0]; omega)
    clear hv
    go_enter Try.func71, Try.ntmps71
    go_wp2
    go_ret
    exact ⟨ret_b (by rw [← FIN.out]), HB.out⟩
  · have FIN := Lib.hid (show false = v by rw [← hv]; exact (inR_no (by omega)).symm)
    have h0' : i < 0 := by omega
    clear hv h0
    go_enter Try.func71, Try.ntmps71
    go_wp2
    go_ret
    exact ⟨ret_b FIN.out, HB.out⟩

theorem spec_l1In_b (n a b : Int) (v : Bool) (hv : inR n a b = v) (w : World) :
    Calls Try.prog 57 #[.int .i64 n, .int .i64 a, .int .i64 b] w fun e w' => e = .returned (.bool v) ∧ Below w.heap.size w w' := (spec_l1In n a b w).mono fun _ _ ⟨h1, h2⟩ => ⟨by rw [h1, hv], by subst h2; exact Below.refl _ _⟩

set_option maxHeartbeats 1600000 in
set_option maxRecDepth 100000 in
theorem spec_HasPair {lo hi c0_0 : Nat} {a0 : Option Addr} (r : DRelation) (_ : r.ok) (hsz : r.sz ≤ 1048576) (i : Int) (_ : okI i) (k : Int) (_ : okI k) (w : World) (hhi : hi ≤ w.heap.size) (hs : Sl lo hi w 1 r.fRows.length (fun k => ictI (r.fRows.getD k default)) a0) :
    Calls Try.prog 27 #[.agg #[.int .i64 r.fN, .slice a0 r.fRows.length c0_0], .int .i64 i, .int .i64 k] w fun e w' => e = .returned (.bool (hasPair r i k)) ∧ Below w.heap.size w w' := by
  have HL := Lib.hid (rel_len hsz)
  have HB := Lib.hid ((Below.refl w.heap.size w).alloc (Nat.le_refl _) (.cells #[.int .i64 r.fN, .slice a0 r.fRows.length c0_0] 37))
  have HS := Lib.hid (hs.later HB.out hhi)
  have HH := Lib.hid (Nat.le_trans hhi HB.out.size)
  have hsz0 := Lib.hid (show w.heap.size < (w.alloc (.cells #[.int .i64 r.fN, .slice a0 r.fRows.length c0_0] 37)).heap.size by simp)
  have hx0 := Lib.hid (show (w.alloc (.cells #[.int .i64 r.fN, .slice a0 r.fRows.length c0_0] 37)).cell? ⟨w.heap.size, 0, none⟩ = some (.int .i64 r.fN) by rw [World.cell?_alloc_new]; rfl)
  have hx1 := Lib.hid (show (w.alloc (.cells #[.int .i64 r.fN, .slice a0 r.fRows.length c0_0] 37)).cell? ⟨w.heap.size, 1, none⟩ = some (.slice a0 r.fRows.length c0_0) by rw [World.cell?_alloc_new]; rfl)
  clear hs hhi hsz
  cases hv : relB r with
  | false =>
    have fin := Lib.hid (hasPair_no1 (i := i) (k := k) hv)
    have HV := Lib.hid (spec_relValid (c0 := c0_0) r HL.out false hv _ HH.out HS.out)
    clear hv
    go_enter Try.func27, Try.ntmps27
    go_wp2_with fail
    refine HV.out.mono ?_
    rintro e w1 ⟨rfl, hb1⟩
    have HB1 := Lib.hid (HB.out.trans (hb1.mono HB.out.size))
    clear hb1
    go_wp2
    go_ret
    exact ⟨ret_b fin.out.symm, HB1.out⟩
  | true =>
    have HV := Lib.hid (spec_relValid (c0 := c0_0) r HL.out true hv _ HH.out HS.out)
    have HP := Lib.hid (relB_parts hv)
    have HVT := Lib.hid hv
    clear hv
    have hN1 : 0 ≤ r.fN ∧ r.fN ≤ 16 := by
      obtain ⟨n, h1, h2, _⟩ := HP.out
      rw [h2]; omega
    cases hi1 : inR i 0 (r.fN - 1) with
    | false =>
      have fin := Lib.hid (hasPair_no2 (k := k) hi1)
      have HI := Lib.hid (fun w => spec_l1In_b i 0 (r.fN - 1) false hi1 w)
      clear hi1
      go_enter Try.func27, Try.ntmps27
      go_wp2_with fail
      refine HV.out.mono ?_
      rintro e w1 ⟨rfl, hb1⟩
      have HS1 := Lib.hid (HS.out.later hb1 HH.out)
      have HH1 := Lib.hid (Nat.le_trans HH.out hb1.size)
      have x1_0 := (hb1.cell (p := ⟨w.heap.size, 0, none⟩) hsz0.out).trans hx0.out
      have x1_1 := (hb1.cell (p := ⟨w.heap.size, 1, none⟩) hsz0.out).trans hx1.out
      have hsz1 := Lib.hid (Nat.lt_of_lt_of_le hsz0.out hb1.size)
      have HB1 := Lib.hid (HB.out.trans (hb1.mono HB.out.size))
      clear hb1
      go_wp2_with fail
      refine (HI.out _).mono ?_
      rintro e w2 ⟨rfl, hb2⟩
      have HB2 := Lib.hid (HB1.out.trans (hb2.mono HB1.out.size))
      clear hb2
      go_wp2
      go_ret
      exact ⟨ret_b fin.out.symm, HB2.out⟩
    | true =>
      have HI := Lib.hid (fun w => spec_l1In_b i 0 (r.fN - 1) true hi1 w)
      cases hk1 : inR k 0 (r.fN - 1) with
      | false =>
        have fin := Lib.hid (hasPair_no3 (i := i) hk1)
        have HK := Lib.hid (fun w => spec_l1In_b k 0 (r.fN - 1) false hk1 w)
        clear hi1 hk1
        go_enter Try.func27, Try.ntmps27
        go_wp2_with fail
        refine HV.out.mono ?_
        rintro e w1 ⟨rfl, hb1⟩
        have HS1 := Lib.hid (HS.out.later hb1 HH.out)
        have HH1 := Lib.hid (Nat.le_trans HH.out hb1.size)
        have x1_0 := (hb1.cell (p := ⟨w.heap.size, 0, none⟩) hsz0.out).trans hx0.out
        have x1_1 := (hb1.cell (p := ⟨w.heap.size, 1, none⟩) hsz0.out).trans hx1.out
        have hsz1 := Lib.hid (Nat.lt_of_lt_of_le hsz0.out hb1.size)
        have HB1 := Lib.hid (HB.out.trans (hb1.mono HB.out.size))
        clear hb1
        go_wp2_with fail
        refine (HI.out _).mono ?_
        rintro e w2 ⟨rfl, hb2⟩
        have HS2 := Lib.hid (HS1.out.later hb2 HH1.out)
        have HH2 := Lib.hid (Nat.le_trans HH1.out hb2.size)
        have x2_0 := (hb2.cell (p := ⟨w.heap.size, 0, none⟩) hsz1.out).trans x1_0
        have x2_1 := (hb2.cell (p := ⟨w.heap.size, 1, none⟩) hsz1.out).trans x1_1
        have hsz2 := Lib.hid (Nat.lt_of_lt_of_le hsz1.out hb2.size)
        have HB2 := Lib.hid (HB1.out.trans (hb2.mono HB1.out.size))
        clear hb2 x1_0 x1_1
        go_wp2_with fail
        refine (HK.out _).mono ?_
        rintro e w3 ⟨rfl, hb3⟩
        have HB3 := Lib.hid (HB2.out.trans (hb3.mono HB2.out.size))
        clear hb3
        go_wp2
        go_ret
        exact ⟨ret_b fin.out.symm, HB3.out⟩
      | true =>
        have HK := Lib.hid (fun w => spec_l1In_b k 0 (r.fN - 1) true hk1 w)
        obtain ⟨i, rfl, hi2⟩ := inR_nat hi1
        obtain ⟨k, rfl, hk2⟩ := inR_nat hk1
        have fin := Lib.hid (hasPair_yes HVT.out hi1 hk1)
        clear hi1 hk1
        have hil : i < r.fRows.length := by
          obtain ⟨n, h1, h2, h3, _⟩ := HP.out
          omega
        have hrow : 0 ≤ r.fRows.getD i default ∧ r.fRows.getD i default ≤ 65535 := by
          obtain ⟨n, h1, h2, h3, h4⟩ := HP.out
          have h5 := h4 i (by omega)
          have h6 := pow_in h1
          omega
        go_enter Try.func27, Try.ntmps27
        go_wp2_with fail
        refine HV.out.mono ?_
        rintro e w1 ⟨rfl, hb1⟩
        have HS1 := Lib.hid (HS.out.later hb1 HH.out)
        have HH1 := Lib.hid (Nat.le_trans HH.out hb1.size)
        have x1_0 := (hb1.cell (p := ⟨w.heap.size, 0, none⟩) hsz0.out).trans hx0.out
        have x1_1 := (hb1.cell (p := ⟨w.heap.size, 1, none⟩) hsz0.out).trans hx1.out
        have hsz1 := Lib.hid (Nat.lt_of_lt_of_le hsz0.out hb1.size)
        have HB1 := Lib.hid (HB.out.trans (hb1.mono HB.out.size))
        clear hb1
        go_wp2_with fail
        refine (HI.out _).mono ?_
        rintro e w2 ⟨rfl, hb2⟩
        have HS2 := Lib.hid (HS1.out.later hb2 HH1.out)
        have HH2 := Lib.hid (Nat.le_trans HH1.out hb2.size)
        have x2_0 := (hb2.cell (p := ⟨w.heap.size, 0, none⟩) hsz1.out).trans x1_0
        have x2_1 := (hb2.cell (p := ⟨w.heap.size, 1, none⟩) hsz1.out).trans x1_1
        have hsz2 := Lib.hid (Nat.lt_of_lt_of_le hsz1.out hb2.size)
        have HB2 := Lib.hid (HB1.out.trans (hb2.mono HB1.out.size))
        clear hb2 x1_0 x1_1
        go_wp2_with fail
        refine (HK.out _).mono ?_
        rintro e w3 ⟨rfl, hb3⟩
        have HS3 := Lib.hid (HS2.out.later hb3 HH2.out)
        have HH3 := Lib.hid (Nat.le_trans HH2.out hb3.size)
        have x3_0 := (hb3.cell (p := ⟨w.heap.size, 0, none⟩) hsz2.out).trans x2_0
        have x3_1 := (hb3.cell (p := ⟨w.heap.size, 1, none⟩) hsz2.out).trans x2_1
        have hsz3 := Lib.hid (Nat.lt_of_lt_of_le hsz2.out hb3.size)
        have HB3 := Lib.hid (HB2.out.trans (hb3.mono HB2.out.size))
        clear hb3 x2_0 x2_1
        obtain ⟨b1, off, rfl, _, _, hc⟩ := HS3.out.at i hil
        rw [Nat.mul_one] at hc
        have hc0 := open_Int hc
        clear hc
        generalize r.fRows.getD i default = row at *
        go_wp2
        go_ret
        exact ⟨ret_b (by rw [fin.out]; rfl), HB3.out⟩

set_option maxHeartbeats 1600000 in
set_option maxRecDepth 100000 in
theorem impl_HasPair {lo hi c0_0 : Nat} {a0 : Option Addr} (r : DRelation) (_ : r.ok) (hsz : r.sz ≤ 1048576) (i : Int) (_ : okI i) (k : Int) (_ : okI k) (w : World) (hhi : hi ≤ w.heap.size) (hs : Sl lo hi w 1 r.fRows.length (fun k => ictI (r.fRows.getD k default)) a0) :
    Calls Try.prog 38 #[.agg #[.int .i64 r.fN, .slice a0 r.fRows.length c0_0], .int .i64 i, .int .i64 k] w fun e w' => e = .returned (.bool (hasPair r i k)) ∧ Below w.heap.size w w' := by
  have HL := Lib.hid (rel_len hsz)
  have HB := Lib.hid ((Below.refl w.heap.size w).alloc (Nat.le_refl _) (.cells #[.int .i64 r.fN, .slice a0 r.fRows.length c0_0] 37))
  have HS := Lib.hid (hs.later HB.out hhi)
  have HH := Lib.hid (Nat.le_trans hhi HB.out.size)
  have hsz0 := Lib.hid (show w.heap.size < (w.alloc (.cells #[.int .i64 r.fN, .slice a0 r.fRows.length c0_0] 37)).heap.size by simp)
  have hx0 := Lib.hid (show (w.alloc (.cells #[.int .i64 r.fN, .slice a0 r.fRows.length c0_0] 37)).cell? ⟨w.heap.size, 0, none⟩ = some (.int .i64 r.fN) by rw [World.cell?_alloc_new]; rfl)
  have hx1 := Lib.hid (show (w.alloc (.cells #[.int .i64 r.fN, .slice a0 r.fRows.length c0_0] 37)).cell? ⟨w.heap.size, 1, none⟩ = some (.slice a0 r.fRows.length c0_0) by rw [World.cell?_alloc_new]; rfl)
  clear hs hhi hsz
  cases hv : relB r with
  | false =>
    have fin := Lib.hid (hasPair_no1 (i := i) (k := k) hv)
    have HV := Lib.hid (impl_relValid (c0 := c0_0) r HL.out false hv _ HH.out HS.out)
    clear hv
    go_enter Try.func38, Try.ntmps38
    go_wp2_with fail
    refine HV.out.mono ?_
    rintro e w1 ⟨rfl, hb1⟩
    have HB1 := Lib.hid (HB.out.trans (hb1.mono HB.out.size))
    clear hb1
    go_wp2
    go_ret
    exact ⟨ret_b fin.out.symm, HB1.out⟩
  | true =>
    have HV := Lib.hid (impl_relValid (c0 := c0_0) r HL.out true hv _ HH.out HS.out)
    have HP := Lib.hid (relB_parts hv)
    have HVT := Lib.hid hv
    clear hv
    have hN1 : 0 ≤ r.fN ∧ r.fN ≤ 16 := by
      obtain ⟨n, h1, h2, _⟩ := HP.out
      rw [h2]; omega
    cases hi1 : inR i 0 (r.fN - 1) with
    | false =>
      have fin := Lib.hid (hasPair_no2 (k := k) hi1)
      have HI := Lib.hid (fun w => impl_isNumber (a0 := a0) (c0_0 := c0_0) r i false hi1 w)
      clear hi1
      go_enter Try.func38, Try.ntmps38
      go_wp2_with fail
      refine HV.out.mono ?_
      rintro e w1 ⟨rfl, hb1⟩
      have HS1 := Lib.hid (HS.out.later hb1 HH.out)
      have HH1 := Lib.hid (Nat.le_trans HH.out hb1.size)
      have x1_0 := (hb1.cell (p := ⟨w.heap.size, 0, none⟩) hsz0.out).trans hx0.out
      have x1_1 := (hb1.cell (p := ⟨w.heap.size, 1, none⟩) hsz0.out).trans hx1.out
      have hsz1 := Lib.hid (Nat.lt_of_lt_of_le hsz0.out hb1.size)
      have HB1 := Lib.hid (HB.out.trans (hb1.mono HB.out.size))
      clear hb1
      go_wp2_with fail
      refine (HI.out _).mono ?_
      rintro e w2 ⟨rfl, hb2⟩
      have HB2 := Lib.hid (HB1.out.trans (hb2.mono HB1.out.size))
      clear hb2
      go_wp2
      go_ret
      exact ⟨ret_b fin.out.symm, HB2.out⟩
    | true =>
      have HI := Lib.hid (fun w => impl_isNumber (a0 := a0) (c0_0 := c0_0) r i true hi1 w)
      cases hk1 : inR k 0 (r.fN - 1) with
      | false =>
        have fin := Lib.hid (hasPair_no3 (i := i) hk1)
        have HK := Lib.hid (fun w => impl_isNumber (a0 := a0) (c0_0 := c0_0) r k false hk1 w)
        clear hi1 hk1
        go_enter Try.func38, Try.ntmps38
        go_wp2_with fail
        refine HV.out.mono ?_
        rintro e w1 ⟨rfl, hb1⟩
        have HS1 := Lib.hid (HS.out.later hb1 HH.out)
        have HH1 := Lib.hid (Nat.le_trans HH.out hb1.size)
        have x1_0 := (hb1.cell (p := ⟨w.heap.size, 0, none⟩) hsz0.out).trans hx0.out
        have x1_1 := (hb1.cell (p := ⟨w.heap.size, 1, none⟩) hsz0.out).trans hx1.out
        have hsz1 := Lib.hid (Nat.lt_of_lt_of_le hsz0.out hb1.size)
        have HB1 := Lib.hid (HB.out.trans (hb1.mono HB.out.size))
        clear hb1
        go_wp2_with fail
        refine (HI.out _).mono ?_
        rintro e w2 ⟨rfl, hb2⟩
        have HS2 := Lib.hid (HS1.out.later hb2 HH1.out)
        have HH2 := Lib.hid (Nat.le_trans HH1.out hb2.size)
        have x2_0 := (hb2.cell (p := ⟨w.heap.size, 0, none⟩) hsz1.out).trans x1_0
        have x2_1 := (hb2.cell (p := ⟨w.heap.size, 1, none⟩) hsz1.out).trans x1_1
        have hsz2 := Lib.hid (Nat.lt_of_lt_of_le hsz1.out hb2.size)
        have HB2 := Lib.hid (HB1.out.trans (hb2.mono HB1.out.size))
        clear hb2 x1_0 x1_1
        go_wp2_with fail
        refine (HK.out _).mono ?_
        rintro e w3 ⟨rfl, hb3⟩
        have HB3 := Lib.hid (HB2.out.trans (hb3.mono HB2.out.size))
        clear hb3
        go_wp2
        go_ret
        exact ⟨ret_b fin.out.symm, HB3.out⟩
      | true =>
        have HK := Lib.hid (fun w => impl_isNumber (a0 := a0) (c0_0 := c0_0) r k true hk1 w)
        obtain ⟨i, rfl, hi2⟩ := inR_nat hi1
        obtain ⟨k, rfl, hk2⟩ := inR_nat hk1
        have fin := Lib.hid (hasPair_yes HVT.out hi1 hk1)
        clear hi1 hk1
        have hil : i < r.fRows.length := by
          obtain ⟨n, h1, h2, h3, _⟩ := HP.out
          omega
        have hrow : 0 ≤ r.fRows.getD i default ∧ r.fRows.getD i default ≤ 65535 := by
          obtain ⟨n, h1, h2, h3, h4⟩ := HP.out
          have h5 := h4 i (by omega)
          have h6 := pow_in h1
          omega
        go_enter Try.func38, Try.ntmps38
        go_wp2_with fail
        refine HV.out.mono ?_
        rintro e w1 ⟨rfl, hb1⟩
        have HS1 := Lib.hid (HS.out.later hb1 HH.out)
        have HH1 := Lib.hid (Nat.le_trans HH.out hb1.size)
        have x1_0 := (hb1.cell (p := ⟨w.heap.size, 0, none⟩) hsz0.out).trans hx0.out
        have x1_1 := (hb1.cell (p := ⟨w.heap.size, 1, none⟩) hsz0.out).trans hx1.out
        have hsz1 := Lib.hid (Nat.lt_of_lt_of_le hsz0.out hb1.size)
        have HB1 := Lib.hid (HB.out.trans (hb1.mono HB.out.size))
        clear hb1
        go_wp2_with fail
        refine (HI.out _).mono ?_
        rintro e w2 ⟨rfl, hb2⟩
        have HS2 := Lib.hid (HS1.out.later hb2 HH1.out)
        have HH2 := Lib.hid (Nat.le_trans HH1.out hb2.size)
        have x2_0 := (hb2.cell (p := ⟨w.heap.size, 0, none⟩) hsz1.out).trans x1_0
        have x2_1 := (hb2.cell (p := ⟨w.heap.size, 1, none⟩) hsz1.out).trans x1_1
        have hsz2 := Lib.hid (Nat.lt_of_lt_of_le hsz1.out hb2.size)
        have HB2 := Lib.hid (HB1.out.trans (hb2.mono HB1.out.size))
        clear hb2 x1_0 x1_1
        go_wp2_with fail
        refine (HK.out _).mono ?_
        rintro e w3 ⟨rfl, hb3⟩
        have HS3 := Lib.hid (HS2.out.later hb3 HH2.out)
        have HH3 := Lib.hid (Nat.le_trans HH2.out hb3.size)
        have x3_0 := (hb3.cell (p := ⟨w.heap.size, 0, none⟩) hsz2.out).trans x2_0
        have x3_1 := (hb3.cell (p := ⟨w.heap.size, 1, none⟩) hsz2.out).trans x2_1
        have hsz3 := Lib.hid (Nat.lt_of_lt_of_le hsz2.out hb3.size)
        have HB3 := Lib.hid (HB2.out.trans (hb3.mono HB2.out.size))
        clear hb3 x2_0 x2_1
        obtain ⟨b1, off, rfl, _, _, hc⟩ := HS3.out.at i hil
        rw [Nat.mul_one] at hc
        have hc0 := open_Int hc
        clear hc
        generalize r.fRows.getD i default = row at *
        go_wp2
        go_ret
        exact ⟨ret_b (by rw [fin.out]; rfl), HB3.out⟩

end Go.Proofs.Ytfdilfhmcfggfaa

namespace Go.Proofs.Ytfdilfhmcfggfaa
open Go.ChangeShapes Go.WideShapes Go.ChangeAt Go.RowKit Go.Deep


/-- A row with bit k. -/
def orB (row : Int) (k : Nat) : Int := bits BinOp.or IntKind.i64 row (2 ^ k)
def addPair (r : DRelation) (i k : Int) : DRelation := if relB r && inR i 0 (r.fN - 1) && inR k 0 (r.fN - 1) then ⟨r.fN, r.fRows.set i.toNat (orB (r.fRows.getD i.toNat default) k.toNat)⟩ else r
theorem addPair_no1 {r : DRelation} {i k : Int} (h : relB r = false) : addPair r i k = r := by unfold addPair; rw [h]; rfl
theorem addPair_no2 {r : DRelation} {i k : Int} (h : inR i 0 (r.fN - 1) = false) : addPair r i k = r := by unfold addPair; rw [h, Bool.and_false]; rfl
theorem addPair_no3 {r : DRelation} {i k : Int} (h : inR k 0 (r.fN - 1) = false) : addPair r i k = r := by unfold addPair; rw [h, Bool.and_false]; rfl
theorem addPair_yes {r : DRelation} {i k : Nat} (h : relB r = true) (h1 : inR i 0 (r.fN - 1) = true) (h2 : inR k 0 (r.fN - 1) = true) : addPair r i k = ⟨r.fN, r.fRows.set i (orB (r.fRows.getD i default) k)⟩ := by
  unfold addPair; rw [h, h1, h2, Int.toNat_natCast, Int.toNat_natCast]; rfl
theorem addPair_len (r : DRelation) (i k : Int) : (addPair r i k).fRows.length = r.fRows.length := by
  unfold addPair
  split <;> simp
theorem addPair_sz {r : DRelation} (h : r.sz ≤ 1048576) (i k : Int) : (addPair r i k).sz ≤ 1048576 := by
  have h1 := rel_len h
  have h2 := addPair_len r i k
  unfold DRelation.sz
  rw [lsz_zero]
  omega
/-- A number stored into a list of its own. -/
theorem own_at {w : World} {F : Nat → Prop} {l : List Int} {a : Option Addr} {c : Nat} (h : Own w F (.sl 1 l.length (rowsI l)) (.slice a l.length c)) (i : Nat) (hi : i < l.length) :
    ∃ b off, a = some ⟨b, off, none⟩ ∧ F b ∧ b < w.heap.size ∧ (∀ j, j < l.length → w.cell? ⟨b, off + j, none⟩ = some (.int .i64 (l.getD j default))) ∧ ∀ o, w.frozen? ⟨b, o, none⟩ = false := by
  rcases own_ints h (fun k _ => ⟨_, rfl⟩) with h0 | ⟨b, off, ha, hF, hb, hc, hz⟩
  · omega
  · refine ⟨b, off, ha, hF, hb, fun j hj => ?_, hz⟩
    obtain ⟨v, hv, hcell⟩ := hc j hj
    obtain rfl : v = .int .i64 (l.getD j default) := by
      have : Ct.lit v = .lit (.int .i64 (l.getD j default)) := hv.symm
      simpa using this
    exact hcell
theorem own_set {w : World} {F : Nat → Prop} {l : List Int} {b off c : Nat} (h : Own w F (.sl 1 l.length (rowsI l)) (.slice (some ⟨b, off, none⟩) l.length c)) (i : Nat) (hi : i < l.length) (z : Int) :
    Own (w.setCell ⟨b, off + i, none⟩ (.int .i64 z)) F (.sl 1 (l.set i z).length (rowsI (l.set i z))) (.slice (some ⟨b, off, none⟩) (l.set i z).length c) := by
  obtain ⟨b', off', ha, hF, hb, hc, hz⟩ := own_at h i hi
  simp only [Option.some.injEq, Addr.mk.injEq, and_true] at ha
  obtain ⟨rfl, rfl⟩ := ha
  refine ints_own hF (by simpa [World.setCell] using hb) (fun j hj => ⟨_, rfl, ?_⟩) (fun o => by rw [World.frozen?_setCell]; exact hz o)
  rw [List.length_set] at hj
  by_cases hji : j = i
  · subst hji
    rw [World.cell?_setCell_same _ _ _ (hc j hj), List.getD_eq_getElem?_getD, List.getElem?_set_self hj]
    rfl
  · rw [World.cell?_setCell_other _ ⟨b, off + i, none⟩ ⟨b, off + j, none⟩ _ (fun e => by have := congrArg Addr.off e; simp only at this; omega), hc j hj, List.getD_eq_getElem?_getD, List.getD_eq_getElem?_getD, List.getElem?_set_ne (by omega)]
theorem Kept.drew {F : Nat → Prop} {a w : World} (h : Kept F a w) : Kept F a w.drew := h
theorem Kept.drewN {F : Nat → Prop} {a w : World} {n : Nat} (h : Kept F a w) : Kept F a (w.drewN n) := h
/-- The block of the row is none of the others. -/
theorem own_lt {w : World} {L H : Nat} {l : List Int} {b off c : Nat} (h : Own w (fun y => L ≤ y ∧ y < H) (.sl 1 l.length (rowsI l)) (.slice (some ⟨b, off, none⟩) l.length c)) (i : Nat) (hi : i < l.length) : L ≤ b ∧ b < H := by
  obtain ⟨b', off', ha, hF, _⟩ := own_at h i hi
  simp only [Option.some.injEq, Addr.mk.injEq, and_true] at ha
  obtain ⟨rfl, rfl⟩ := ha
  exact hF

set_option maxHeartbeats 1600000 in
set_option maxRecDepth 100000 in
theorem spec_AddPair {lo hi c0_0 : Nat} {a0 : Option Addr} (r : DRelation) (_ : r.ok) (hsz : r.sz ≤ 1048576) (i : Int) (_ : okI i) (k : Int) (_ : okI k) (w : World) (hhi : hi ≤ w.heap.size) (hs : Sl lo hi w 1 r.fRows.length (rowsI r.fRows) a0) :
    Calls Try.prog 28 #[.agg #[.int .i64 r.fN, .slice a0 r.fRows.length c0_0], .int .i64 i, .int .i64 k] w (RelOut (addPair r i k) w) := by
  have HL := Lib.hid (rel_len hsz)
  have HB0 := Lib.hid (((Below.refl w.heap.size w).alloc (Nat.le_refl _) (.cells #[.int .i64 r.fN, .slice a0 r.fRows.length c0_0] 37)).alloc (by simp) (.cells #[.int .i64 0, .slice none 0 0] 37))
  have HS := Lib.hid hs
  have HH := Lib.hid hhi
  have HG0 := Lib.hid (show ((w.alloc (.cells #[.int .i64 r.fN, .slice a0 r.fRows.length c0_0] 37)).alloc (.cells #[.int .i64 0, .slice none 0 0] 37)).heap[w.heap.size + 1]? = some (.cells #[.int .i64 0, .slice none 0 0] 37) from blk_new (by simp))
  clear hs hhi hsz
  cases hv : relB r with
  | false =>
    have HV := Lib.hid hv
    have fin := Lib.hid (addPair_no1 (i := i) (k := k) hv)
    clear hv
    go_enter Try.func28, Try.ntmps28
    go_wp2_with fail
    refine (spec_copy (c0 := c0_0) r HL.out _ (Nat.le_trans HH.out HB0.out.size) (HS.out.later (HB0.out) HH.out)).mono ?_
    rintro e w1 ⟨a1, c1, rfl, ho1, hb1⟩
    have hst1 : Below (w.heap.size + 2) ((w.alloc (.cells #[.int .i64 r.fN, .slice a0 r.fRows.length c0_0] 37)).alloc (.cells #[.int .i64 0, .slice none 0 0] 37)) w1 := hb1.mono (by simp)
    have sz1_r : w.heap.size < w1.heap.size := Nat.lt_of_lt_of_le (by show w.heap.size < w.heap.size + 2; omega) (Nat.le_trans (by simp) hst1.size)
    have bx1_r_0 : w1.cell? ⟨w.heap.size, 0, none⟩ = some (.int .i64 r.fN) := (hst1.cell (p := ⟨w.heap.size, 0, none⟩) (by show w.heap.size < w.heap.size + 2; omega)).trans (by go_simp)
    have bx1_r_1 : w1.cell? ⟨w.heap.size, 1, none⟩ = some (.slice a0 r.fRows.length c0_0) := (hst1.cell (p := ⟨w.heap.size, 1, none⟩) (by show w.heap.size < w.heap.size + 2; omega)).trans (by go_simp)
    have sz1_z : w.heap.size + 1 < w1.heap.size := Nat.lt_of_lt_of_le (by show w.heap.size + 1 < w.heap.size + 2; omega) (Nat.le_trans (by simp) hst1.size)
    have bx1_z_0 : w1.cell? ⟨w.heap.size + 1, 0, none⟩ = some (.int .i64 0) := (hst1.cell (p := ⟨w.heap.size + 1, 0, none⟩) (by show w.heap.size + 1 < w.heap.size + 2; omega)).trans (by go_simp)
    have fz1_z_0 : w1.frozen? ⟨w.heap.size + 1, 0, none⟩ = false := (hst1.frozen (p := ⟨w.heap.size + 1, 0, none⟩) (by show w.heap.size + 1 < w.heap.size + 2; omega)).trans (by go_simp)
    have bx1_z_1 : w1.cell? ⟨w.heap.size + 1, 1, none⟩ = some (.slice none 0 0) := (hst1.cell (p := ⟨w.heap.size + 1, 1, none⟩) (by show w.heap.size + 1 < w.heap.size + 2; omega)).trans (by go_simp)
    have fz1_z_1 : w1.frozen? ⟨w.heap.size + 1, 1, none⟩ = false := (hst1.frozen (p := ⟨w.heap.size + 1, 1, none⟩) (by show w.heap.size + 1 < w.heap.size + 2; omega)).trans (by go_simp)
    have HG1 := Lib.hid ((hst1.block (w.heap.size + 1) (by omega)).trans HG0.out)
    have HO1 := Lib.hid (ho1.sub (F' := fun y => w.heap.size + 2 ≤ y ∧ y < w1.heap.size) (fun y hy => ⟨Nat.le_trans (by simp) hy.1, hy.2⟩))
    clear ho1
    have HB1 := Lib.hid (HB0.out.trans (hb1.mono HB0.out.size))
    clear hb1 hst1
    go_wp2_with fail
    refine (spec_relValid (c0 := c0_0) r HL.out false HV.out _ (Nat.le_trans HH.out (Nat.le_trans HB1.out.size (Below.size (by repeat (first | (with_reducible exact Below.refl _ _) | (with_reducible apply Below.drew) | (with_reducible refine below_drewN ?_ _) | (refine Below.setCell ?_ (by simp <;> omega) _) | (refine Below.alloc ?_ (by simp <;> omega) _)) : Below w1.heap.size w1 _)))) (HS.out.later (HB1.out.trans ((by repeat (first | (with_reducible exact Below.refl _ _) | (with_reducible apply Below.drew) | (with_reducible refine below_drewN ?_ _) | (refine Below.setCell ?_ (by simp <;> omega) _) | (refine Below.alloc ?_ (by simp <;> omega) _)) : Below w1.heap.size w1 _).mono HB1.out.size)) HH.out)).mono ?_
    rintro e w2 ⟨rfl, hb2⟩
    have hst2 : Below w1.heap.size w1 w2 := Below.trans (by repeat (first | (with_reducible exact Below.refl _ _) | (with_reducible apply Below.drew) | (with_reducible refine below_drewN ?_ _) | (refine Below.setCell ?_ (by simp <;> omega) _) | (refine Below.alloc ?_ (by simp <;> omega) _)) : Below w1.heap.size w1 _) (hb2.mono (Below.size (by repeat (first | (with_reducible exact Below.refl _ _) | (with_reducible apply Below.drew) | (with_reducible refine below_drewN ?_ _) | (refine Below.setCell ?_ (by simp <;> omega) _) | (refine Below.alloc ?_ (by simp <;> omega) _)) : Below w1.heap.size w1 _)))
    have sz2_r : w.heap.size < w2.heap.size := Nat.lt_of_lt_of_le sz1_r hst2.size
    have bx2_r_0 : w2.cell? ⟨w.heap.size, 0, none⟩ = some (.int .i64 r.fN) := (hst2.cell (p := ⟨w.heap.size, 0, none⟩) sz1_r).trans bx1_r_0
    have bx2_r_1 : w2.cell? ⟨w.heap.size, 1, none⟩ = some (.slice a0 r.fRows.length c0_0) := (hst2.cell (p := ⟨w.heap.size, 1, none⟩) sz1_r).trans bx1_r_1
    have sz2_z : w.heap.size + 1 < w2.heap.size := Nat.lt_of_lt_of_le sz1_z hst2.size
    have bx2_z_0 : w2.cell? ⟨w.heap.size + 1, 0, none⟩ = some (.int .i64 0) := (hst2.cell (p := ⟨w.heap.size + 1, 0, none⟩) sz1_z).trans bx1_z_0
    have fz2_z_0 : w2.frozen? ⟨w.heap.size + 1, 0, none⟩ = false := (hst2.frozen (p := ⟨w.heap.size + 1, 0, none⟩) sz1_z).trans fz1_z_0
    have bx2_z_1 : w2.cell? ⟨w.heap.size + 1, 1, none⟩ = some (.slice none 0 0) := (hst2.cell (p := ⟨w.heap.size + 1, 1, none⟩) sz1_z).trans bx1_z_1
    have fz2_z_1 : w2.frozen? ⟨w.heap.size + 1, 1, none⟩ = false := (hst2.frozen (p := ⟨w.heap.size + 1, 1, none⟩) sz1_z).trans fz1_z_1
    have sz2_x : w1.heap.size < w2.heap.size := Nat.lt_of_lt_of_le (by first | omega | (simp; done) | (simp; omega) | (simp [World.setCell]; omega)) hb2.size
    have bx2_x_0 : w2.cell? ⟨w1.heap.size, 0, none⟩ = some (.int .i64 r.fN) := (hb2.cell (p := ⟨w1.heap.size, 0, none⟩) (by first | omega | (simp; done) | (simp; omega) | (simp [World.setCell]; omega))).trans (by go_simp)
    have bx2_x_1 : w2.cell? ⟨w1.heap.size, 1, none⟩ = some (.slice a1 r.fRows.length c1) := (hb2.cell (p := ⟨w1.heap.size, 1, none⟩) (by first | omega | (simp; done) | (simp; omega) | (simp [World.setCell]; omega))).trans (by go_simp)
    have HG2 := Lib.hid ((hst2.block (w.heap.size + 1) sz1_z).trans HG1.out)
    have HO2 := Lib.hid (HO1.out.kept (Kept.of_below_all hst2))
    have HB2 := Lib.hid (HB1.out.trans (hst2.mono HB1.out.size))
    have hr2 : w1.heap.size ≤ w2.heap.size := hst2.size
    clear hb2 hst2 bx1_r_0 bx1_r_1 sz1_r bx1_z_0 bx1_z_1 sz1_z fz1_z_0 fz1_z_1
    go_wp2
    refine bodyPost_ret (v := .agg #[.int .i64 r.fN, .slice a1 r.fRows.length c1]) (results_cell_row Try.results28 _ _ (w.heap.size + 1) 37 #[.int .i64 r.fN, .slice a1 r.fRows.length c1] (0, 0) _ rfl (by refine Eq.trans (blk_set (cs := #[.int .i64 r.fN, .slice none 0 0]) (t := 37) (fr := (0, 0)) ?_) rfl; refine Eq.trans (blk_set (cs := #[.int .i64 0, .slice none 0 0]) (t := 37) (fr := (0, 0)) ?_) rfl; repeat (first | (with_reducible exact HG2.out) | (refine blk_other (by dsimp only; omega) ?_))) Try.underlying37 rfl rfl) rfl ?_
    rw [fin.out]
    refine ⟨a1, c1, rfl, ?_, ?_⟩
    · refine Own.sub (F := fun y => w.heap.size + 2 ≤ y ∧ y < w1.heap.size) (HO2.out.kept ?_) (fun y hy => ⟨Nat.le_trans (by omega) hy.1, Nat.lt_of_lt_of_le hy.2 (by first | (simp; done) | (simp; omega))⟩)
      repeat (first | (with_reducible exact Kept.refl) | (refine Kept.put ?_ (by intro h; have h1 := h.1; dsimp only at h1; omega)))
    · repeat (first | (with_reducible exact HB2.out) | (with_reducible apply Below.drew) | (with_reducible refine below_drewN ?_ _) | (refine Below.setCell ?_ (by simp <;> omega) _) | (refine Below.alloc ?_ (by simp <;> omega) _))
  | true =>
    have HV := Lib.hid hv
    have HP := Lib.hid (relB_parts hv)
    clear hv
    have hN1 : 0 ≤ r.fN ∧ r.fN ≤ 16 := by
      obtain ⟨n, h1, h2, _⟩ := HP.out
      rw [h2]; omega
    cases hi1 : inR i 0 (r.fN - 1) with
    | false =>
      have fin := Lib.hid (addPair_no2 (k := k) hi1)
      have HI := Lib.hid (fun w => spec_l1In_b i 0 (r.fN - 1) false hi1 w)
      clear hi1
      go_enter Try.func28, Try.ntmps28
      go_wp2_with fail
      refine (spec_copy (c0 := c0_0) r HL.out _ (Nat.le_trans HH.out HB0.out.size) (HS.out.later (HB0.out) HH.out)).mono ?_
      rintro e w1 ⟨a1, c1, rfl, ho1, hb1⟩
      have hst1 : Below (w.heap.size + 2) ((w.alloc (.cells #[.int .i64 r.fN, .slice a0 r.fRows.length c0_0] 37)).alloc (.cells #[.int .i64 0, .slice none 0 0] 37)) w1 := hb1.mono (by simp)
      have sz1_r : w.heap.size < w1.heap.size := Nat.lt_of_lt_of_le (by show w.heap.size < w.heap.size + 2; omega) (Nat.le_trans (by simp) hst1.size)
      have bx1_r_0 : w1.cell? ⟨w.heap.size, 0, none⟩ = some (.int .i64 r.fN) := (hst1.cell (p := ⟨w.heap.size, 0, none⟩) (by show w.heap.size < w.heap.size + 2; omega)).trans (by go_simp)
      have bx1_r_1 : w1.cell? ⟨w.heap.size, 1, none⟩ = some (.slice a0 r.fRows.length c0_0) := (hst1.cell (p := ⟨w.heap.size, 1, none⟩) (by show w.heap.size < w.heap.size + 2; omega)).trans (by go_simp)
      have sz1_z : w.heap.size + 1 < w1.heap.size := Nat.lt_of_lt_of_le (by show w.heap.size + 1 < w.heap.size + 2; omega) (Nat.le_trans (by simp) hst1.size)
      have bx1_z_0 : w1.cell? ⟨w.heap.size + 1, 0, none⟩ = some (.int .i64 0) := (hst1.cell (p := ⟨w.heap.size + 1, 0, none⟩) (by show w.heap.size + 1 < w.heap.size + 2; omega)).trans (by go_simp)
      have fz1_z_0 : w1.frozen? ⟨w.heap.size + 1, 0, none⟩ = false := (hst1.frozen (p := ⟨w.heap.size + 1, 0, none⟩) (by show w.heap.size + 1 < w.heap.size + 2; omega)).trans (by go_simp)
      have bx1_z_1 : w1.cell? ⟨w.heap.size + 1, 1, none⟩ = some (.slice none 0 0) := (hst1.cell (p := ⟨w.heap.size + 1, 1, none⟩) (by show w.heap.size + 1 < w.heap.size + 2; omega)).trans (by go_simp)
      have fz1_z_1 : w1.frozen? ⟨w.heap.size + 1, 1, none⟩ = false := (hst1.frozen (p := ⟨w.heap.size + 1, 1, none⟩) (by show w.heap.size + 1 < w.heap.size + 2; omega)).trans (by go_simp)
      have HG1 := Lib.hid ((hst1.block (w.heap.size + 1) (by omega)).trans HG0.out)
      have HO1 := Lib.hid (ho1.sub (F' := fun y => w.heap.size + 2 ≤ y ∧ y < w1.heap.size) (fun y hy => ⟨Nat.le_trans (by simp) hy.1, hy.2⟩))
      clear ho1
      have HB1 := Lib.hid (HB0.out.trans (hb1.mono HB0.out.size))
      clear hb1 hst1
      go_wp2_with fail
      refine (spec_relValid (c0 := c0_0) r HL.out true HV.out _ (Nat.le_trans HH.out (Nat.le_trans HB1.out.size (Below.size (by repeat (first | (with_reducible exact Below.refl _ _) | (with_reducible apply Below.drew) | (with_reducible refine below_drewN ?_ _) | (refine Below.setCell ?_ (by simp <;> omega) _) | (refine Below.alloc ?_ (by simp <;> omega) _)) : Below w1.heap.size w1 _)))) (HS.out.later (HB1.out.trans ((by repeat (first | (with_reducible exact Below.refl _ _) | (with_reducible apply Below.drew) | (with_reducible refine below_drewN ?_ _) | (refine Below.setCell ?_ (by simp <;> omega) _) | (refine Below.alloc ?_ (by simp <;> omega) _)) : Below w1.heap.size w1 _).mono HB1.out.size)) HH.out)).mono ?_
      rintro e w2 ⟨rfl, hb2⟩
      have hst2 : Below w1.heap.size w1 w2 := Below.trans (by repeat (first | (with_reducible exact Below.refl _ _) | (with_reducible apply Below.drew) | (with_reducible refine below_drewN ?_ _) | (refine Below.setCell ?_ (by simp <;> omega) _) | (refine Below.alloc ?_ (by simp <;> omega) _)) : Below w1.heap.size w1 _) (hb2.mono (Below.size (by repeat (first | (with_reducible exact Below.refl _ _) | (with_reducible apply Below.drew) | (with_reducible refine below_drewN ?_ _) | (refine Below.setCell ?_ (by simp <;> omega) _) | (refine Below.alloc ?_ (by simp <;> omega) _)) : Below w1.heap.size w1 _)))
      have sz2_r : w.heap.size < w2.heap.size := Nat.lt_of_lt_of_le sz1_r hst2.size
      have bx2_r_0 : w2.cell? ⟨w.heap.size, 0, none⟩ = some (.int .i64 r.fN) := (hst2.cell (p := ⟨w.heap.size, 0, none⟩) sz1_r).trans bx1_r_0
      have bx2_r_1 : w2.cell? ⟨w.heap.size, 1, none⟩ = some (.slice a0 r.fRows.length c0_0) := (hst2.cell (p := ⟨w.heap.size, 1, none⟩) sz1_r).trans bx1_r_1
      have sz2_z : w.heap.size + 1 < w2.heap.size := Nat.lt_of_lt_of_le sz1_z hst2.size
      have bx2_z_0 : w2.cell? ⟨w.heap.size + 1, 0, none⟩ = some (.int .i64 0) := (hst2.cell (p := ⟨w.heap.size + 1, 0, none⟩) sz1_z).trans bx1_z_0
      have fz2_z_0 : w2.frozen? ⟨w.heap.size + 1, 0, none⟩ = false := (hst2.frozen (p := ⟨w.heap.size + 1, 0, none⟩) sz1_z).trans fz1_z_0
      have bx2_z_1 : w2.cell? ⟨w.heap.size + 1, 1, none⟩ = some (.slice none 0 0) := (hst2.cell (p := ⟨w.heap.size + 1, 1, none⟩) sz1_z).trans bx1_z_1
      have fz2_z_1 : w2.frozen? ⟨w.heap.size + 1, 1, none⟩ = false := (hst2.frozen (p := ⟨w.heap.size + 1, 1, none⟩) sz1_z).trans fz1_z_1
      have sz2_x : w1.heap.size < w2.heap.size := Nat.lt_of_lt_of_le (by first | omega | (simp; done) | (simp; omega) | (simp [World.setCell]; omega)) hb2.size
      have bx2_x_0 : w2.cell? ⟨w1.heap.size, 0, none⟩ = some (.int .i64 r.fN) := (hb2.cell (p := ⟨w1.heap.size, 0, none⟩) (by first | omega | (simp; done) | (simp; omega) | (simp [World.setCell]; omega))).trans (by go_simp)
      have bx2_x_1 : w2.cell? ⟨w1.heap.size, 1, none⟩ = some (.slice a1 r.fRows.length c1) := (hb2.cell (p := ⟨w1.heap.size, 1, none⟩) (by first | omega | (simp; done) | (simp; omega) | (simp [World.setCell]; omega))).trans (by go_simp)
      have HG2 := Lib.hid ((hst2.block (w.heap.size + 1) sz1_z).trans HG1.out)
      have HO2 := Lib.hid (HO1.out.kept (Kept.of_below_all hst2))
      have HB2 := Lib.hid (HB1.out.trans (hst2.mono HB1.out.size))
      have hr2 : w1.heap.size ≤ w2.heap.size := hst2.size
      clear hb2 hst2 bx1_r_0 bx1_r_1 sz1_r bx1_z_0 bx1_z_1 sz1_z fz1_z_0 fz1_z_1
      go_wp2_with fail
      refine (HI.out _).mono ?_
      rintro e w3 ⟨rfl, hb3⟩
      have hst3 : Below w2.heap.size w2 w3 := Below.trans (by repeat (first | (with_reducible exact Below.refl _ _) | (with_reducible apply Below.drew) | (with_reducible refine below_drewN ?_ _) | (refine Below.setCell ?_ (by simp <;> omega) _) | (refine Below.alloc ?_ (by simp <;> omega) _)) : Below w2.heap.size w2 _) (hb3.mono (Below.size (by repeat (first | (with_reducible exact Below.refl _ _) | (with_reducible apply Below.drew) | (with_reducible refine below_drewN ?_ _) | (refine Below.setCell ?_ (by simp <;> omega) _) | (refine Below.alloc ?_ (by simp <;> omega) _)) : Below w2.heap.size w2 _)))
      have sz3_r : w.heap.size < w3.heap.size := Nat.lt_of_lt_of_le sz2_r hst3.size
      have bx3_r_0 : w3.cell? ⟨w.heap.size, 0, none⟩ = some (.int .i64 r.fN) := (hst3.cell (p := ⟨w.heap.size, 0, none⟩) sz2_r).trans bx2_r_0
      have bx3_r_1 : w3.cell? ⟨w.heap.size, 1, none⟩ = some (.slice a0 r.fRows.length c0_0) := (hst3.cell (p := ⟨w.heap.size, 1, none⟩) sz2_r).trans bx2_r_1
      have sz3_z : w.heap.size + 1 < w3.heap.size := Nat.lt_of_lt_of_le sz2_z hst3.size
      have bx3_z_0 : w3.cell? ⟨w.heap.size + 1, 0, none⟩ = some (.int .i64 0) := (hst3.cell (p := ⟨w.heap.size + 1, 0, none⟩) sz2_z).trans bx2_z_0
      have fz3_z_0 : w3.frozen? ⟨w.heap.size + 1, 0, none⟩ = false := (hst3.frozen (p := ⟨w.heap.size + 1, 0, none⟩) sz2_z).trans fz2_z_0
      have bx3_z_1 : w3.cell? ⟨w.heap.size + 1, 1, none⟩ = some (.slice none 0 0) := (hst3.cell (p := ⟨w.heap.size + 1, 1, none⟩) sz2_z).trans bx2_z_1
      have fz3_z_1 : w3.frozen? ⟨w.heap.size + 1, 1, none⟩ = false := (hst3.frozen (p := ⟨w.heap.size + 1, 1, none⟩) sz2_z).trans fz2_z_1
      have sz3_x : w1.heap.size < w3.heap.size := Nat.lt_of_lt_of_le sz2_x hst3.size
      have bx3_x_0 : w3.cell? ⟨w1.heap.size, 0, none⟩ = some (.int .i64 r.fN) := (hst3.cell (p := ⟨w1.heap.size, 0, none⟩) sz2_x).trans bx2_x_0
      have bx3_x_1 : w3.cell? ⟨w1.heap.size, 1, none⟩ = some (.slice a1 r.fRows.length c1) := (hst3.cell (p := ⟨w1.heap.size, 1, none⟩) sz2_x).trans bx2_x_1
      have HG3 := Lib.hid ((hst3.block (w.heap.size + 1) sz2_z).trans HG2.out)
      have HO3 := Lib.hid (HO2.out.kept (Kept.of_below_all hst3))
      have HB3 := Lib.hid (HB2.out.trans (hst3.mono HB2.out.size))
      have hr3 : w2.heap.size ≤ w3.heap.size := hst3.size
      clear hb3 hst3 bx2_r_0 bx2_r_1 sz2_r bx2_z_0 bx2_z_1 sz2_z fz2_z_0 fz2_z_1 bx2_x_0 bx2_x_1 sz2_x
      go_wp2
      refine bodyPost_ret (v := .agg #[.int .i64 r.fN, .slice a1 r.fRows.length c1]) (results_cell_row Try.results28 _ _ (w.heap.size + 1) 37 #[.int .i64 r.fN, .slice a1 r.fRows.length c1] (0, 0) _ rfl (by refine Eq.trans (blk_set (cs := #[.int .i64 r.fN, .slice none 0 0]) (t := 37) (fr := (0, 0)) ?_) rfl; refine Eq.trans (blk_set (cs := #[.int .i64 0, .slice none 0 0]) (t := 37) (fr := (0, 0)) ?_) rfl; repeat (first | (with_reducible exact HG3.out) | (refine blk_other (by dsimp only; omega) ?_))) Try.underlying37 rfl rfl) rfl ?_
      rw [fin.out]
      refine ⟨a1, c1, rfl, ?_, ?_⟩
      · refine Own.sub (F := fun y => w.heap.size + 2 ≤ y ∧ y < w1.heap.size) (HO3.out.kept ?_) (fun y hy => ⟨Nat.le_trans (by omega) hy.1, Nat.lt_of_lt_of_le hy.2 (by first | (simp; done) | (simp; omega))⟩)
        repeat (first | (with_reducible exact Kept.refl) | (refine Kept.put ?_ (by intro h; have h1 := h.1; dsimp only at h1; omega)))
      · repeat (first | (with_reducible exact HB3.out) | (with_reducible apply Below.drew) | (with_reducible refine below_drewN ?_ _) | (refine Below.setCell ?_ (by simp <;> omega) _) | (refine Below.alloc ?_ (by simp <;> omega) _))
    | true =>
      have HI := Lib.hid (fun w => spec_l1In_b i 0 (r.fN - 1) true hi1 w)
      cases hk1 : inR k 0 (r.fN - 1) with
      | false =>
        have fin := Lib.hid (addPair_no3 (i := i) hk1)
        have HK := Lib.hid (fun w => spec_l1In_b k 0 (r.fN - 1) false hk1 w)
        clear hi1 hk1
        go_enter Try.func28, Try.ntmps28
        go_wp2_with fail
        refine (spec_copy (c0 := c0_0) r HL.out _ (Nat.le_trans HH.out HB0.out.size) (HS.out.later (HB0.out) HH.out)).mono ?_
        rintro e w1 ⟨a1, c1, rfl, ho1, hb1⟩
        have hst1 : Below (w.heap.size + 2) ((w.alloc (.cells #[.int .i64 r.fN, .slice a0 r.fRows.length c0_0] 37)).alloc (.cells #[.int .i64 0, .slice none 0 0] 37)) w1 := hb1.mono (by simp)
        have sz1_r : w.heap.size < w1.heap.size := Nat.lt_of_lt_of_le (by show w.heap.size < w.heap.size + 2; omega) (Nat.le_trans (by simp) hst1.size)
        have bx1_r_0 : w1.cell? ⟨w.heap.size, 0, none⟩ = some (.int .i64 r.fN) := (hst1.cell (p := ⟨w.heap.size, 0, none⟩) (by show w.heap.size < w.heap.size + 2; omega)).trans (by go_simp)
        have bx1_r_1 : w1.cell? ⟨w.heap.size, 1, none⟩ = some (.slice a0 r.fRows.length c0_0) := (hst1.cell (p := ⟨w.heap.size, 1, none⟩) (by show w.heap.size < w.heap.size + 2; omega)).trans (by go_simp)
        have sz1_z : w.heap.size + 1 < w1.heap.size := Nat.lt_of_lt_of_le (by show w.heap.size + 1 < w.heap.size + 2; omega) (Nat.le_trans (by simp) hst1.size)
        have bx1_z_0 : w1.cell? ⟨w.heap.size + 1, 0, none⟩ = some (.int .i64 0) := (hst1.cell (p := ⟨w.heap.size + 1, 0, none⟩) (by show w.heap.size + 1 < w.heap.size + 2; omega)).trans (by go_simp)
        have fz1_z_0 : w1.frozen? ⟨w.heap.size + 1, 0, none⟩ = false := (hst1.frozen (p := ⟨w.heap.size + 1, 0, none⟩) (by show w.heap.size + 1 < w.heap.size + 2; omega)).trans (by go_simp)
        have bx1_z_1 : w1.cell? ⟨w.heap.size + 1, 1, none⟩ = some (.slice none 0 0) := (hst1.cell (p := ⟨w.heap.size + 1, 1, none⟩) (by show w.heap.size + 1 < w.heap.size + 2; omega)).trans (by go_simp)
        have fz1_z_1 : w1.frozen? ⟨w.heap.size + 1, 1, none⟩ = false := (hst1.frozen (p := ⟨w.heap.size + 1, 1, none⟩) (by show w.heap.size + 1 < w.heap.size + 2; omega)).trans (by go_simp)
        have HG1 := Lib.hid ((hst1.block (w.heap.size + 1) (by omega)).trans HG0.out)
        have HO1 := Lib.hid (ho1.sub (F' := fun y => w.heap.size + 2 ≤ y ∧ y < w1.heap.size) (fun y hy => ⟨Nat.le_trans (by simp) hy.1, hy.2⟩))
        clear ho1
        have HB1 := Lib.hid (HB0.out.trans (hb1.mono HB0.out.size))
        clear hb1 hst1
        go_wp2_with fail
        refine (spec_relValid (c0 := c0_0) r HL.out true HV.out _ (Nat.le_trans HH.out (Nat.le_trans HB1.out.size (Below.size (by repeat (first | (with_reducible exact Below.refl _ _) | (with_reducible apply Below.drew) | (with_reducible refine below_drewN ?_ _) | (refine Below.setCell ?_ (by simp <;> omega) _) | (refine Below.alloc ?_ (by simp <;> omega) _)) : Below w1.heap.size w1 _)))) (HS.out.later (HB1.out.trans ((by repeat (first | (with_reducible exact Below.refl _ _) | (with_reducible apply Below.drew) | (with_reducible refine below_drewN ?_ _) | (refine Below.setCell ?_ (by simp <;> omega) _) | (refine Below.alloc ?_ (by simp <;> omega) _)) : Below w1.heap.size w1 _).mono HB1.out.size)) HH.out)).mono ?_
        rintro e w2 ⟨rfl, hb2⟩
        have hst2 : Below w1.heap.size w1 w2 := Below.trans (by repeat (first | (with_reducible exact Below.refl _ _) | (with_reducible apply Below.drew) | (with_reducible refine below_drewN ?_ _) | (refine Below.setCell ?_ (by simp <;> omega) _) | (refine Below.alloc ?_ (by simp <;> omega) _)) : Below w1.heap.size w1 _) (hb2.mono (Below.size (by repeat (first | (with_reducible exact Below.refl _ _) | (with_reducible apply Below.drew) | (with_reducible refine below_drewN ?_ _) | (refine Below.setCell ?_ (by simp <;> omega) _) | (refine Below.alloc ?_ (by simp <;> omega) _)) : Below w1.heap.size w1 _)))
        have sz2_r : w.heap.size < w2.heap.size := Nat.lt_of_lt_of_le sz1_r hst2.size
        have bx2_r_0 : w2.cell? ⟨w.heap.size, 0, none⟩ = some (.int .i64 r.fN) := (hst2.cell (p := ⟨w.heap.size, 0, none⟩) sz1_r).trans bx1_r_0
        have bx2_r_1 : w2.cell? ⟨w.heap.size, 1, none⟩ = some (.slice a0 r.fRows.length c0_0) := (hst2.cell (p := ⟨w.heap.size, 1, none⟩) sz1_r).trans bx1_r_1
        have sz2_z : w.heap.size + 1 < w2.heap.size := Nat.lt_of_lt_of_le sz1_z hst2.size
        have bx2_z_0 : w2.cell? ⟨w.heap.size + 1, 0, none⟩ = some (.int .i64 0) := (hst2.cell (p := ⟨w.heap.size + 1, 0, none⟩) sz1_z).trans bx1_z_0
        have fz2_z_0 : w2.frozen? ⟨w.heap.size + 1, 0, none⟩ = false := (hst2.frozen (p := ⟨w.heap.size + 1, 0, none⟩) sz1_z).trans fz1_z_0
        have bx2_z_1 : w2.cell? ⟨w.heap.size + 1, 1, none⟩ = some (.slice none 0 0) := (hst2.cell (p := ⟨w.heap.size + 1, 1, none⟩) sz1_z).trans bx1_z_1
        have fz2_z_1 : w2.frozen? ⟨w.heap.size + 1, 1, none⟩ = false := (hst2.frozen (p := ⟨w.heap.size + 1, 1, none⟩) sz1_z).trans fz1_z_1
        have sz2_x : w1.heap.size < w2.heap.size := Nat.lt_of_lt_of_le (by first | omega | (simp; done) | (simp; omega) | (simp [World.setCell]; omega)) hb2.size
        have bx2_x_0 : w2.cell? ⟨w1.heap.size, 0, none⟩ = some (.int .i64 r.fN) := (hb2.cell (p := ⟨w1.heap.size, 0, none⟩) (by first | omega | (simp; done) | (simp; omega) | (simp [World.setCell]; omega))).trans (by go_simp)
        have bx2_x_1 : w2.cell? ⟨w1.heap.size, 1, none⟩ = some (.slice a1 r.fRows.length c1) := (hb2.cell (p := ⟨w1.heap.size, 1, none⟩) (by first | omega | (simp; done) | (simp; omega) | (simp [World.setCell]; omega))).trans (by go_simp)
        have HG2 := Lib.hid ((hst2.block (w.heap.size + 1) sz1_z).trans HG1.out)
        have HO2 := Lib.hid (HO1.out.kept (Kept.of_below_all hst2))
        have HB2 := Lib.hid (HB1.out.trans (hst2.mono HB1.out.size))
        have hr2 : w1.heap.size ≤ w2.heap.size := hst2.size
        clear hb2 hst2 bx1_r_0 bx1_r_1 sz1_r bx1_z_0 bx1_z_1 sz1_z fz1_z_0 fz1_z_1
        go_wp2_with fail
        refine (HI.out _).mono ?_
        rintro e w3 ⟨rfl, hb3⟩
        have hst3 : Below w2.heap.size w2 w3 := Below.trans (by repeat (first | (with_reducible exact Below.refl _ _) | (with_reducible apply Below.drew) | (with_reducible refine below_drewN ?_ _) | (refine Below.setCell ?_ (by simp <;> omega) _) | (refine Below.alloc ?_ (by simp <;> omega) _)) : Below w2.heap.size w2 _) (hb3.mono (Below.size (by repeat (first | (with_reducible exact Below.refl _ _) | (with_reducible apply Below.drew) | (with_reducible refine below_drewN ?_ _) | (refine Below.setCell ?_ (by simp <;> omega) _) | (refine Below.alloc ?_ (by simp <;> omega) _)) : Below w2.heap.size w2 _)))
        have sz3_r : w.heap.size < w3.heap.size := Nat.lt_of_lt_of_le sz2_r hst3.size
        have bx3_r_0 : w3.cell? ⟨w.heap.size, 0, none⟩ = some (.int .i64 r.fN) := (hst3.cell (p := ⟨w.heap.size, 0, none⟩) sz2_r).trans bx2_r_0
        have bx3_r_1 : w3.cell? ⟨w.heap.size, 1, none⟩ = some (.slice a0 r.fRows.length c0_0) := (hst3.cell (p := ⟨w.heap.size, 1, none⟩) sz2_r).trans bx2_r_1
        have sz3_z : w.heap.size + 1 < w3.heap.size := Nat.lt_of_lt_of_le sz2_z hst3.size
        have bx3_z_0 : w3.cell? ⟨w.heap.size + 1, 0, none⟩ = some (.int .i64 0) := (hst3.cell (p := ⟨w.heap.size + 1, 0, none⟩) sz2_z).trans bx2_z_0
        have fz3_z_0 : w3.frozen? ⟨w.heap.size + 1, 0, none⟩ = false := (hst3.frozen (p := ⟨w.heap.size + 1, 0, none⟩) sz2_z).trans fz2_z_0
        have bx3_z_1 : w3.cell? ⟨w.heap.size + 1, 1, none⟩ = some (.slice none 0 0) := (hst3.cell (p := ⟨w.heap.size + 1, 1, none⟩) sz2_z).trans bx2_z_1
        have fz3_z_1 : w3.frozen? ⟨w.heap.size + 1, 1, none⟩ = false := (hst3.frozen (p := ⟨w.heap.size + 1, 1, none⟩) sz2_z).trans fz2_z_1
        have sz3_x : w1.heap.size < w3.heap.size := Nat.lt_of_lt_of_le sz2_x hst3.size
        have bx3_x_0 : w3.cell? ⟨w1.heap.size, 0, none⟩ = some (.int .i64 r.fN) := (hst3.cell (p := ⟨w1.heap.size, 0, none⟩) sz2_x).trans bx2_x_0
        have bx3_x_1 : w3.cell? ⟨w1.heap.size, 1, none⟩ = some (.slice a1 r.fRows.length c1) := (hst3.cell (p := ⟨w1.heap.size, 1, none⟩) sz2_x).trans bx2_x_1
        have HG3 := Lib.hid ((hst3.block (w.heap.size + 1) sz2_z).trans HG2.out)
        have HO3 := Lib.hid (HO2.out.kept (Kept.of_below_all hst3))
        have HB3 := Lib.hid (HB2.out.trans (hst3.mono HB2.out.size))
        have hr3 : w2.heap.size ≤ w3.heap.size := hst3.size
        clear hb3 hst3 bx2_r_0 bx2_r_1 sz2_r bx2_z_0 bx2_z_1 sz2_z fz2_z_0 fz2_z_1 bx2_x_0 bx2_x_1 sz2_x
        go_wp2_with fail
        refine (HK.out _).mono ?_
        rintro e w4 ⟨rfl, hb4⟩
        have hst4 : Below w3.heap.size w3 w4 := Below.trans (by repeat (first | (with_reducible exact Below.refl _ _) | (with_reducible apply Below.drew) | (with_reducible refine below_drewN ?_ _) | (refine Below.setCell ?_ (by simp <;> omega) _) | (refine Below.alloc ?_ (by simp <;> omega) _)) : Below w3.heap.size w3 _) (hb4.mono (Below.size (by repeat (first | (with_reducible exact Below.refl _ _) | (with_reducible apply Below.drew) | (with_reducible refine below_drewN ?_ _) | (refine Below.setCell ?_ (by simp <;> omega) _) | (refine Below.alloc ?_ (by simp <;> omega) _)) : Below w3.heap.size w3 _)))
        have sz4_r : w.heap.size < w4.heap.size := Nat.lt_of_lt_of_le sz3_r hst4.size
        have bx4_r_0 : w4.cell? ⟨w.heap.size, 0, none⟩ = some (.int .i64 r.fN) := (hst4.cell (p := ⟨w.heap.size, 0, none⟩) sz3_r).trans bx3_r_0
        have bx4_r_1 : w4.cell? ⟨w.heap.size, 1, none⟩ = some (.slice a0 r.fRows.length c0_0) := (hst4.cell (p := ⟨w.heap.size, 1, none⟩) sz3_r).trans bx3_r_1
        have sz4_z : w.heap.size + 1 < w4.heap.size := Nat.lt_of_lt_of_le sz3_z hst4.size
        have bx4_z_0 : w4.cell? ⟨w.heap.size + 1, 0, none⟩ = some (.int .i64 0) := (hst4.cell (p := ⟨w.heap.size + 1, 0, none⟩) sz3_z).trans bx3_z_0
        have fz4_z_0 : w4.frozen? ⟨w.heap.size + 1, 0, none⟩ = false := (hst4.frozen (p := ⟨w.heap.size + 1, 0, none⟩) sz3_z).trans fz3_z_0
        have bx4_z_1 : w4.cell? ⟨w.heap.size + 1, 1, none⟩ = some (.slice none 0 0) := (hst4.cell (p := ⟨w.heap.size + 1, 1, none⟩) sz3_z).trans bx3_z_1
        have fz4_z_1 : w4.frozen? ⟨w.heap.size + 1, 1, none⟩ = false := (hst4.frozen (p := ⟨w.heap.size + 1, 1, none⟩) sz3_z).trans fz3_z_1
        have sz4_x : w1.heap.size < w4.heap.size := Nat.lt_of_lt_of_le sz3_x hst4.size
        have bx4_x_0 : w4.cell? ⟨w1.heap.size, 0, none⟩ = some (.int .i64 r.fN) := (hst4.cell (p := ⟨w1.heap.size, 0, none⟩) sz3_x).trans bx3_x_0
        have bx4_x_1 : w4.cell? ⟨w1.heap.size, 1, none⟩ = some (.slice a1 r.fRows.length c1) := (hst4.cell (p := ⟨w1.heap.size, 1, none⟩) sz3_x).trans bx3_x_1
        have HG4 := Lib.hid ((hst4.block (w.heap.size + 1) sz3_z).trans HG3.out)
        have HO4 := Lib.hid (HO3.out.kept (Kept.of_below_all hst4))
        have HB4 := Lib.hid (HB3.out.trans (hst4.mono HB3.out.size))
        have hr4 : w3.heap.size ≤ w4.heap.size := hst4.size
        clear hb4 hst4 bx3_r_0 bx3_r_1 sz3_r bx3_z_0 bx3_z_1 sz3_z fz3_z_0 fz3_z_1 bx3_x_0 bx3_x_1 sz3_x
        go_wp2
        refine bodyPost_ret (v := .agg #[.int .i64 r.fN, .slice a1 r.fRows.length c1]) (results_cell_row Try.results28 _ _ (w.heap.size + 1) 37 #[.int .i64 r.fN, .slice a1 r.fRows.length c1] (0, 0) _ rfl (by refine Eq.trans (blk_set (cs := #[.int .i64 r.fN, .slice none 0 0]) (t := 37) (fr := (0, 0)) ?_) rfl; refine Eq.trans (blk_set (cs := #[.int .i64 0, .slice none 0 0]) (t := 37) (fr := (0, 0)) ?_) rfl; repeat (first | (with_reducible exact HG4.out) | (refine blk_other (by dsimp only; omega) ?_))) Try.underlying37 rfl rfl) rfl ?_
        rw [fin.out]
        refine ⟨a1, c1, rfl, ?_, ?_⟩
        · refine Own.sub (F := fun y => w.heap.size + 2 ≤ y ∧ y < w1.heap.size) (HO4.out.kept ?_) (fun y hy => ⟨Nat.le_trans (by omega) hy.1, Nat.lt_of_lt_of_le hy.2 (by first | (simp; done) | (simp; omega))⟩)
          repeat (first | (with_reducible exact Kept.refl) | (refine Kept.put ?_ (by intro h; have h1 := h.1; dsimp only at h1; omega)))
        · repeat (first | (with_reducible exact HB4.out) | (with_reducible apply Below.drew) | (with_reducible refine below_drewN ?_ _) | (refine Below.setCell ?_ (by simp <;> omega) _) | (refine Below.alloc ?_ (by simp <;> omega) _))
      | true =>
        have HK := Lib.hid (fun w => spec_l1In_b k 0 (r.fN - 1) true hk1 w)
        obtain ⟨i, rfl, hi2⟩ := inR_nat hi1
        obtain ⟨k, rfl, hk2⟩ := inR_nat hk1
        have fin := Lib.hid (addPair_yes HV.out hi1 hk1)
        clear hi1 hk1
        have hil : i < r.fRows.length := by
          obtain ⟨n, h1, h2, h3, _⟩ := HP.out
          omega
        have hk16 : k ≤ 16 := by omega
        obtain ⟨q, hq⟩ : ∃ q : Int, (2 : Int) ^ k = q := ⟨_, rfl⟩
        have hq1 := pow_in hk16
        rw [hq] at hq1
        have hlow : 1 ≤ q := hq1.1
        have hhigh : q ≤ 65536 := hq1.2
        have hw1 : wrap64 q = q := IntWalk.wrap64_in _ ⟨by omega, by omega⟩
        have HQ := Lib.hid hq
        clear hq1
        go_enter Try.func28, Try.ntmps28
        go_wp2_with fail
        refine (spec_copy (c0 := c0_0) r HL.out _ (Nat.le_trans HH.out HB0.out.size) (HS.out.later (HB0.out) HH.out)).mono ?_
        rintro e w1 ⟨a1, c1, rfl, ho1, hb1⟩
        have hst1 : Below (w.heap.size + 2) ((w.alloc (.cells #[.int .i64 r.fN, .slice a0 r.fRows.length c0_0] 37)).alloc (.cells #[.int .i64 0, .slice none 0 0] 37)) w1 := hb1.mono (by simp)
        have sz1_r : w.heap.size < w1.heap.size := Nat.lt_of_lt_of_le (by show w.heap.size < w.heap.size + 2; omega) (Nat.le_trans (by simp) hst1.size)
        have bx1_r_0 : w1.cell? ⟨w.heap.size, 0, none⟩ = some (.int .i64 r.fN) := (hst1.cell (p := ⟨w.heap.size, 0, none⟩) (by show w.heap.size < w.heap.size + 2; omega)).trans (by go_simp)
        have bx1_r_1 : w1.cell? ⟨w.heap.size, 1, none⟩ = some (.slice a0 r.fRows.length c0_0) := (hst1.cell (p := ⟨w.heap.size, 1, none⟩) (by show w.heap.size < w.heap.size + 2; omega)).trans (by go_simp)
        have sz1_z : w.heap.size + 1 < w1.heap.size := Nat.lt_of_lt_of_le (by show w.heap.size + 1 < w.heap.size + 2; omega) (Nat.le_trans (by simp) hst1.size)
        have bx1_z_0 : w1.cell? ⟨w.heap.size + 1, 0, none⟩ = some (.int .i64 0) := (hst1.cell (p := ⟨w.heap.size + 1, 0, none⟩) (by show w.heap.size + 1 < w.heap.size + 2; omega)).trans (by go_simp)
        have fz1_z_0 : w1.frozen? ⟨w.heap.size + 1, 0, none⟩ = false := (hst1.frozen (p := ⟨w.heap.size + 1, 0, none⟩) (by show w.heap.size + 1 < w.heap.size + 2; omega)).trans (by go_simp)
        have bx1_z_1 : w1.cell? ⟨w.heap.size + 1, 1, none⟩ = some (.slice none 0 0) := (hst1.cell (p := ⟨w.heap.size + 1, 1, none⟩) (by show w.heap.size + 1 < w.heap.size + 2; omega)).trans (by go_simp)
        have fz1_z_1 : w1.frozen? ⟨w.heap.size + 1, 1, none⟩ = false := (hst1.frozen (p := ⟨w.heap.size + 1, 1, none⟩) (by show w.heap.size + 1 < w.heap.size + 2; omega)).trans (by go_simp)
        have HG1 := Lib.hid ((hst1.block (w.heap.size + 1) (by omega)).trans HG0.out)
        have HO1 := Lib.hid (ho1.sub (F' := fun y => w.heap.size + 2 ≤ y ∧ y < w1.heap.size) (fun y hy => ⟨Nat.le_trans (by simp) hy.1, hy.2⟩))
        clear ho1
        have HB1 := Lib.hid (HB0.out.trans (hb1.mono HB0.out.size))
        clear hb1 hst1
        go_wp2_with fail
        refine (spec_relValid (c0 := c0_0) r HL.out true HV.out _ (Nat.le_trans HH.out (Nat.le_trans HB1.out.size (Below.size (by repeat (first | (with_reducible exact Below.refl _ _) | (with_reducible apply Below.drew) | (with_reducible refine below_drewN ?_ _) | (refine Below.setCell ?_ (by simp <;> omega) _) | (refine Below.alloc ?_ (by simp <;> omega) _)) : Below w1.heap.size w1 _)))) (HS.out.later (HB1.out.trans ((by repeat (first | (with_reducible exact Below.refl _ _) | (with_reducible apply Below.drew) | (with_reducible refine below_drewN ?_ _) | (refine Below.setCell ?_ (by simp <;> omega) _) | (refine Below.alloc ?_ (by simp <;> omega) _)) : Below w1.heap.size w1 _).mono HB1.out.size)) HH.out)).mono ?_
        rintro e w2 ⟨rfl, hb2⟩
        have hst2 : Below w1.heap.size w1 w2 := Below.trans (by repeat (first | (with_reducible exact Below.refl _ _) | (with_reducible apply Below.drew) | (with_reducible refine below_drewN ?_ _) | (refine Below.setCell ?_ (by simp <;> omega) _) | (refine Below.alloc ?_ (by simp <;> omega) _)) : Below w1.heap.size w1 _) (hb2.mono (Below.size (by repeat (first | (with_reducible exact Below.refl _ _) | (with_reducible apply Below.drew) | (with_reducible refine below_drewN ?_ _) | (refine Below.setCell ?_ (by simp <;> omega) _) | (refine Below.alloc ?_ (by simp <;> omega) _)) : Below w1.heap.size w1 _)))
        have sz2_r : w.heap.size < w2.heap.size := Nat.lt_of_lt_of_le sz1_r hst2.size
        have bx2_r_0 : w2.cell? ⟨w.heap.size, 0, none⟩ = some (.int .i64 r.fN) := (hst2.cell (p := ⟨w.heap.size, 0, none⟩) sz1_r).trans bx1_r_0
        have bx2_r_1 : w2.cell? ⟨w.heap.size, 1, none⟩ = some (.slice a0 r.fRows.length c0_0) := (hst2.cell (p := ⟨w.heap.size, 1, none⟩) sz1_r).trans bx1_r_1
        have sz2_z : w.heap.size + 1 < w2.heap.size := Nat.lt_of_lt_of_le sz1_z hst2.size
        have bx2_z_0 : w2.cell? ⟨w.heap.size + 1, 0, none⟩ = some (.int .i64 0) := (hst2.cell (p := ⟨w.heap.size + 1, 0, none⟩) sz1_z).trans bx1_z_0
        have fz2_z_0 : w2.frozen? ⟨w.heap.size + 1, 0, none⟩ = false := (hst2.frozen (p := ⟨w.heap.size + 1, 0, none⟩) sz1_z).trans fz1_z_0
        have bx2_z_1 : w2.cell? ⟨w.heap.size + 1, 1, none⟩ = some (.slice none 0 0) := (hst2.cell (p := ⟨w.heap.size + 1, 1, none⟩) sz1_z).trans bx1_z_1
        have fz2_z_1 : w2.frozen? ⟨w.heap.size + 1, 1, none⟩ = false := (hst2.frozen (p := ⟨w.heap.size + 1, 1, none⟩) sz1_z).trans fz1_z_1
        have sz2_x : w1.heap.size < w2.heap.size := Nat.lt_of_lt_of_le (by first | omega | (simp; done) | (simp; omega) | (simp [World.setCell]; omega)) hb2.size
        have bx2_x_0 : w2.cell? ⟨w1.heap.size, 0, none⟩ = some (.int .i64 r.fN) := (hb2.cell (p := ⟨w1.heap.size, 0, none⟩) (by first | omega | (simp; done) | (simp; omega) | (simp [World.setCell]; omega))).trans (by go_simp)
        have bx2_x_1 : w2.cell? ⟨w1.heap.size, 1, none⟩ = some (.slice a1 r.fRows.length c1) := (hb2.cell (p := ⟨w1.heap.size, 1, none⟩) (by first | omega | (simp; done) | (simp; omega) | (simp [World.setCell]; omega))).trans (by go_simp)
        have HG2 := Lib.hid ((hst2.block (w.heap.size + 1) sz1_z).trans HG1.out)
        have HO2 := Lib.hid (HO1.out.kept (Kept.of_below_all hst2))
        have HB2 := Lib.hid (HB1.out.trans (hst2.mono HB1.out.size))
        have hr2 : w1.heap.size ≤ w2.heap.size := hst2.size
        clear hb2 hst2 bx1_r_0 bx1_r_1 sz1_r bx1_z_0 bx1_z_1 sz1_z fz1_z_0 fz1_z_1
        go_wp2_with fail
        refine (HI.out _).mono ?_
        rintro e w3 ⟨rfl, hb3⟩
        have hst3 : Below w2.heap.size w2 w3 := Below.trans (by repeat (first | (with_reducible exact Below.refl _ _) | (with_reducible apply Below.drew) | (with_reducible refine below_drewN ?_ _) | (refine Below.setCell ?_ (by simp <;> omega) _) | (refine Below.alloc ?_ (by simp <;> omega) _)) : Below w2.heap.size w2 _) (hb3.mono (Below.size (by repeat (first | (with_reducible exact Below.refl _ _) | (with_reducible apply Below.drew) | (with_reducible refine below_drewN ?_ _) | (refine Below.setCell ?_ (by simp <;> omega) _) | (refine Below.alloc ?_ (by simp <;> omega) _)) : Below w2.heap.size w2 _)))
        have sz3_r : w.heap.size < w3.heap.size := Nat.lt_of_lt_of_le sz2_r hst3.size
        have bx3_r_0 : w3.cell? ⟨w.heap.size, 0, none⟩ = some (.int .i64 r.fN) := (hst3.cell (p := ⟨w.heap.size, 0, none⟩) sz2_r).trans bx2_r_0
        have bx3_r_1 : w3.cell? ⟨w.heap.size, 1, none⟩ = some (.slice a0 r.fRows.length c0_0) := (hst3.cell (p := ⟨w.heap.size, 1, none⟩) sz2_r).trans bx2_r_1
        have sz3_z : w.heap.size + 1 < w3.heap.size := Nat.lt_of_lt_of_le sz2_z hst3.size
        have bx3_z_0 : w3.cell? ⟨w.heap.size + 1, 0, none⟩ = some (.int .i64 0) := (hst3.cell (p := ⟨w.heap.size + 1, 0, none⟩) sz2_z).trans bx2_z_0
        have fz3_z_0 : w3.frozen? ⟨w.heap.size + 1, 0, none⟩ = false := (hst3.frozen (p := ⟨w.heap.size + 1, 0, none⟩) sz2_z).trans fz2_z_0
        have bx3_z_1 : w3.cell? ⟨w.heap.size + 1, 1, none⟩ = some (.slice none 0 0) := (hst3.cell (p := ⟨w.heap.size + 1, 1, none⟩) sz2_z).trans bx2_z_1
        have fz3_z_1 : w3.frozen? ⟨w.heap.size + 1, 1, none⟩ = false := (hst3.frozen (p := ⟨w.heap.size + 1, 1, none⟩) sz2_z).trans fz2_z_1
        have sz3_x : w1.heap.size < w3.heap.size := Nat.lt_of_lt_of_le sz2_x hst3.size
        have bx3_x_0 : w3.cell? ⟨w1.heap.size, 0, none⟩ = some (.int .i64 r.fN) := (hst3.cell (p := ⟨w1.heap.size, 0, none⟩) sz2_x).trans bx2_x_0
        have bx3_x_1 : w3.cell? ⟨w1.heap.size, 1, none⟩ = some (.slice a1 r.fRows.length c1) := (hst3.cell (p := ⟨w1.heap.size, 1, none⟩) sz2_x).trans bx2_x_1
        have HG3 := Lib.hid ((hst3.block (w.heap.size + 1) sz2_z).trans HG2.out)
        have HO3 := Lib.hid (HO2.out.kept (Kept.of_below_all hst3))
        have HB3 := Lib.hid (HB2.out.trans (hst3.mono HB2.out.size))
        have hr3 : w2.heap.size ≤ w3.heap.size := hst3.size
        clear hb3 hst3 bx2_r_0 bx2_r_1 sz2_r bx2_z_0 bx2_z_1 sz2_z fz2_z_0 fz2_z_1 bx2_x_0 bx2_x_1 sz2_x
        go_wp2_with fail
        refine (HK.out _).mono ?_
        rintro e w4 ⟨rfl, hb4⟩
        have hst4 : Below w3.heap.size w3 w4 := Below.trans (by repeat (first | (with_reducible exact Below.refl _ _) | (with_reducible apply Below.drew) | (with_reducible refine below_drewN ?_ _) | (refine Below.setCell ?_ (by simp <;> omega) _) | (refine Below.alloc ?_ (by simp <;> omega) _)) : Below w3.heap.size w3 _) (hb4.mono (Below.size (by repeat (first | (with_reducible exact Below.refl _ _) | (with_reducible apply Below.drew) | (with_reducible refine below_drewN ?_ _) | (refine Below.setCell ?_ (by simp <;> omega) _) | (refine Below.alloc ?_ (by simp <;> omega) _)) : Below w3.heap.size w3 _)))
        have sz4_r : w.heap.size < w4.heap.size := Nat.lt_of_lt_of_le sz3_r hst4.size
        have bx4_r_0 : w4.cell? ⟨w.heap.size, 0, none⟩ = some (.int .i64 r.fN) := (hst4.cell (p := ⟨w.heap.size, 0, none⟩) sz3_r).trans bx3_r_0
        have bx4_r_1 : w4.cell? ⟨w.heap.size, 1, none⟩ = some (.slice a0 r.fRows.length c0_0) := (hst4.cell (p := ⟨w.heap.size, 1, none⟩) sz3_r).trans bx3_r_1
        have sz4_z : w.heap.size + 1 < w4.heap.size := Nat.lt_of_lt_of_le sz3_z hst4.size
        have bx4_z_0 : w4.cell? ⟨w.heap.size + 1, 0, none⟩ = some (.int .i64 0) := (hst4.cell (p := ⟨w.heap.size + 1, 0, none⟩) sz3_z).trans bx3_z_0
        have fz4_z_0 : w4.frozen? ⟨w.heap.size + 1, 0, none⟩ = false := (hst4.frozen (p := ⟨w.heap.size + 1, 0, none⟩) sz3_z).trans fz3_z_0
        have bx4_z_1 : w4.cell? ⟨w.heap.size + 1, 1, none⟩ = some (.slice none 0 0) := (hst4.cell (p := ⟨w.heap.size + 1, 1, none⟩) sz3_z).trans bx3_z_1
        have fz4_z_1 : w4.frozen? ⟨w.heap.size + 1, 1, none⟩ = false := (hst4.frozen (p := ⟨w.heap.size + 1, 1, none⟩) sz3_z).trans fz3_z_1
        have sz4_x : w1.heap.size < w4.heap.size := Nat.lt_of_lt_of_le sz3_x hst4.size
        have bx4_x_0 : w4.cell? ⟨w1.heap.size, 0, none⟩ = some (.int .i64 r.fN) := (hst4.cell (p := ⟨w1.heap.size, 0, none⟩) sz3_x).trans bx3_x_0
        have bx4_x_1 : w4.cell? ⟨w1.heap.size, 1, none⟩ = some (.slice a1 r.fRows.length c1) := (hst4.cell (p := ⟨w1.heap.size, 1, none⟩) sz3_x).trans bx3_x_1
        have HG4 := Lib.hid ((hst4.block (w.heap.size + 1) sz3_z).trans HG3.out)
        have HO4 := Lib.hid (HO3.out.kept (Kept.of_below_all hst4))
        have HB4 := Lib.hid (HB3.out.trans (hst4.mono HB3.out.size))
        have hr4 : w3.heap.size ≤ w4.heap.size := hst4.size
        clear hb4 hst4 bx3_r_0 bx3_r_1 sz3_r bx3_z_0 bx3_z_1 sz3_z fz3_z_0 fz3_z_1 bx3_x_0 bx3_x_1 sz3_x
        obtain ⟨b, off, rfl, hFb, hbl, hcs, hzs⟩ := own_at HO4.out i hil
        have HOB := HO4
        have hFb1 : w.heap.size + 2 ≤ b := hFb.1
        have hFb2 : b < w1.heap.size := hFb.2
        have hrow := hcs i hil
        have hrz := hzs (off + i)
        clear hFb hcs hzs
        generalize hrw : r.fRows.getD i default = row at hrow fin
        have HRW := Lib.hid hrw
        have HFIN := Lib.hid (show addPair r i k = ⟨r.fN, r.fRows.set i (bits BinOp.or IntKind.i64 row q)⟩ from fin.out.trans (by unfold orB; rw [HQ.out]))
        clear hrw
        go_wp2_with fail
        go_region
        all_goals
          go_wp2
          refine bodyPost_ret (v := .agg #[.int .i64 r.fN, .slice (some ⟨b, off, none⟩) r.fRows.length c1]) (results_cell_row Try.results28 _ _ (w.heap.size + 1) 37 #[.int .i64 r.fN, .slice (some ⟨b, off, none⟩) r.fRows.length c1] (0, 0) _ rfl (by refine Eq.trans (blk_set (cs := #[.int .i64 r.fN, .slice none 0 0]) (t := 37) (fr := (0, 0)) ?_) rfl; refine Eq.trans (blk_set (cs := #[.int .i64 0, .slice none 0 0]) (t := 37) (fr := (0, 0)) ?_) rfl; repeat (first | (with_reducible exact HG4.out) | (refine blk_other (by dsimp only; omega) ?_))) Try.underlying37 rfl rfl) rfl ?_
          rw [HFIN.out]
          refine ⟨some ⟨b, off, none⟩, c1, by simp, ?_, ?_⟩
          · refine Own.sub (F := fun y => w.heap.size + 2 ≤ y ∧ y < w1.heap.size) (Own.kept (own_set HOB.out i hil (bits BinOp.or IntKind.i64 row q)) ?_) (fun y hy => ⟨Nat.le_trans (by omega) hy.1, Nat.lt_of_lt_of_le hy.2 (by first | (simp; done) | (simp; omega))⟩)
            repeat (first | (with_reducible exact Kept.refl) | (with_reducible apply Kept.drew) | (with_reducible apply Kept.drewN) | (refine Kept.put ?_ (by intro h; have h1 := h.1; dsimp only at h1; omega)))
          · repeat (first | (with_reducible exact HB4.out) | (with_reducible apply Below.drew) | (with_reducible refine below_drewN ?_ _) | (refine Below.setCell ?_ (by simp <;> omega) _) | (refine Below.alloc ?_ (by simp <;> omega) _))

set_option maxHeartbeats 1600000 in
set_option maxRecDepth 100000 in
theorem impl_AddPair {lo hi c0_0 : Nat} {a0 : Option Addr} (r : DRelation) (_ : r.ok) (hsz : r.sz ≤ 1048576) (i : Int) (_ : okI i) (k : Int) (_ : okI k) (w : World) (hhi : hi ≤ w.heap.size) (hs : Sl lo hi w 1 r.fRows.length (rowsI r.fRows) a0) :
    Calls Try.prog 39 #[.agg #[.int .i64 r.fN, .slice a0 r.fRows.length c0_0], .int .i64 i, .int .i64 k] w (RelOut (addPair r i k) w) := by
  have HL := Lib.hid (rel_len hsz)
  have HB0 := Lib.hid (((Below.refl w.heap.size w).alloc (Nat.le_refl _) (.cells #[.int .i64 r.fN, .slice a0 r.fRows.length c0_0] 37)).alloc (by simp) (.cells #[.int .i64 0, .slice none 0 0] 37))
  have HS := Lib.hid hs
  have HH := Lib.hid hhi
  have HG0 := Lib.hid (show ((w.alloc (.cells #[.int .i64 r.fN, .slice a0 r.fRows.length c0_0] 37)).alloc (.cells #[.int .i64 0, .slice none 0 0] 37)).heap[w.heap.size + 1]? = some (.cells #[.int .i64 0, .slice none 0 0] 37) from blk_new (by simp))
  clear hs hhi hsz
  cases hv : relB r with
  | false =>
    have HV := Lib.hid hv
    have fin := Lib.hid (addPair_no1 (i := i) (k := k) hv)
    clear hv
    go_enter Try.func39, Try.ntmps39
    go_wp2_with fail
    refine (impl_copyRelation (c0 := c0_0) r HL.out _ (Nat.le_trans HH.out HB0.out.size) (HS.out.later (HB0.out) HH.out)).mono ?_
    rintro e w1 ⟨a1, c1, rfl, ho1, hb1⟩
    have hst1 : Below (w.heap.size + 2) ((w.alloc (.cells #[.int .i64 r.fN, .slice a0 r.fRows.length c0_0] 37)).alloc (.cells #[.int .i64 0, .slice none 0 0] 37)) w1 := hb1.mono (by simp)
    have sz1_r : w.heap.size < w1.heap.size := Nat.lt_of_lt_of_le (by show w.heap.size < w.heap.size + 2; omega) (Nat.le_trans (by simp) hst1.size)
    have bx1_r_0 : w1.cell? ⟨w.heap.size, 0, none⟩ = some (.int .i64 r.fN) := (hst1.cell (p := ⟨w.heap.size, 0, none⟩) (by show w.heap.size < w.heap.size + 2; omega)).trans (by go_simp)
    have bx1_r_1 : w1.cell? ⟨w.heap.size, 1, none⟩ = some (.slice a0 r.fRows.length c0_0) := (hst1.cell (p := ⟨w.heap.size, 1, none⟩) (by show w.heap.size < w.heap.size + 2; omega)).trans (by go_simp)
    have sz1_z : w.heap.size + 1 < w1.heap.size := Nat.lt_of_lt_of_le (by show w.heap.size + 1 < w.heap.size + 2; omega) (Nat.le_trans (by simp) hst1.size)
    have bx1_z_0 : w1.cell? ⟨w.heap.size + 1, 0, none⟩ = some (.int .i64 0) := (hst1.cell (p := ⟨w.heap.size + 1, 0, none⟩) (by show w.heap.size + 1 < w.heap.size + 2; omega)).trans (by go_simp)
    have fz1_z_0 : w1.frozen? ⟨w.heap.size + 1, 0, none⟩ = false := (hst1.frozen (p := ⟨w.heap.size + 1, 0, none⟩) (by show w.heap.size + 1 < w.heap.size + 2; omega)).trans (by go_simp)
    have bx1_z_1 : w1.cell? ⟨w.heap.size + 1, 1, none⟩ = some (.slice none 0 0) := (hst1.cell (p := ⟨w.heap.size + 1, 1, none⟩) (by show w.heap.size + 1 < w.heap.size + 2; omega)).trans (by go_simp)
    have fz1_z_1 : w1.frozen? ⟨w.heap.size + 1, 1, none⟩ = false := (hst1.frozen (p := ⟨w.heap.size + 1, 1, none⟩) (by show w.heap.size + 1 < w.heap.size + 2; omega)).trans (by go_simp)
    have HG1 := Lib.hid ((hst1.block (w.heap.size + 1) (by omega)).trans HG0.out)
    have HO1 := Lib.hid (ho1.sub (F' := fun y => w.heap.size + 2 ≤ y ∧ y < w1.heap.size) (fun y hy => ⟨Nat.le_trans (by simp) hy.1, hy.2⟩))
    clear ho1
    have HB1 := Lib.hid (HB0.out.trans (hb1.mono HB0.out.size))
    clear hb1 hst1
    go_wp2_with fail
    refine (impl_relValid (c0 := c0_0) r HL.out false HV.out _ (Nat.le_trans HH.out (Nat.le_trans HB1.out.size (Below.size (by repeat (first | (with_reducible exact Below.refl _ _) | (with_reducible apply Below.drew) | (with_reducible refine below_drewN ?_ _) | (refine Below.setCell ?_ (by simp <;> omega) _) | (refine Below.alloc ?_ (by simp <;> omega) _)) : Below w1.heap.size w1 _)))) (HS.out.later (HB1.out.trans ((by repeat (first | (with_reducible exact Below.refl _ _) | (with_reducible apply Below.drew) | (with_reducible refine below_drewN ?_ _) | (refine Below.setCell ?_ (by simp <;> omega) _) | (refine Below.alloc ?_ (by simp <;> omega) _)) : Below w1.heap.size w1 _).mono HB1.out.size)) HH.out)).mono ?_
    rintro e w2 ⟨rfl, hb2⟩
    have hst2 : Below w1.heap.size w1 w2 := Below.trans (by repeat (first | (with_reducible exact Below.refl _ _) | (with_reducible apply Below.drew) | (with_reducible refine below_drewN ?_ _) | (refine Below.setCell ?_ (by simp <;> omega) _) | (refine Below.alloc ?_ (by simp <;> omega) _)) : Below w1.heap.size w1 _) (hb2.mono (Below.size (by repeat (first | (with_reducible exact Below.refl _ _) | (with_reducible apply Below.drew) | (with_reducible refine below_drewN ?_ _) | (refine Below.setCell ?_ (by simp <;> omega) _) | (refine Below.alloc ?_ (by simp <;> omega) _)) : Below w1.heap.size w1 _)))
    have sz2_r : w.heap.size < w2.heap.size := Nat.lt_of_lt_of_le sz1_r hst2.size
    have bx2_r_0 : w2.cell? ⟨w.heap.size, 0, none⟩ = some (.int .i64 r.fN) := (hst2.cell (p := ⟨w.heap.size, 0, none⟩) sz1_r).trans bx1_r_0
    have bx2_r_1 : w2.cell? ⟨w.heap.size, 1, none⟩ = some (.slice a0 r.fRows.length c0_0) := (hst2.cell (p := ⟨w.heap.size, 1, none⟩) sz1_r).trans bx1_r_1
    have sz2_z : w.heap.size + 1 < w2.heap.size := Nat.lt_of_lt_of_le sz1_z hst2.size
    have bx2_z_0 : w2.cell? ⟨w.heap.size + 1, 0, none⟩ = some (.int .i64 0) := (hst2.cell (p := ⟨w.heap.size + 1, 0, none⟩) sz1_z).trans bx1_z_0
    have fz2_z_0 : w2.frozen? ⟨w.heap.size + 1, 0, none⟩ = false := (hst2.frozen (p := ⟨w.heap.size + 1, 0, none⟩) sz1_z).trans fz1_z_0
    have bx2_z_1 : w2.cell? ⟨w.heap.size + 1, 1, none⟩ = some (.slice none 0 0) := (hst2.cell (p := ⟨w.heap.size + 1, 1, none⟩) sz1_z).trans bx1_z_1
    have fz2_z_1 : w2.frozen? ⟨w.heap.size + 1, 1, none⟩ = false := (hst2.frozen (p := ⟨w.heap.size + 1, 1, none⟩) sz1_z).trans fz1_z_1
    have sz2_x : w1.heap.size < w2.heap.size := Nat.lt_of_lt_of_le (by first | omega | (simp; done) | (simp; omega) | (simp [World.setCell]; omega)) hb2.size
    have bx2_x_0 : w2.cell? ⟨w1.heap.size, 0, none⟩ = some (.int .i64 r.fN) := (hb2.cell (p := ⟨w1.heap.size, 0, none⟩) (by first | omega | (simp; done) | (simp; omega) | (simp [World.setCell]; omega))).trans (by go_simp)
    have bx2_x_1 : w2.cell? ⟨w1.heap.size, 1, none⟩ = some (.slice a1 r.fRows.length c1) := (hb2.cell (p := ⟨w1.heap.size, 1, none⟩) (by first | omega | (simp; done) | (simp; omega) | (simp [World.setCell]; omega))).trans (by go_simp)
    have HG2 := Lib.hid ((hst2.block (w.heap.size + 1) sz1_z).trans HG1.out)
    have HO2 := Lib.hid (HO1.out.kept (Kept.of_below_all hst2))
    have HB2 := Lib.hid (HB1.out.trans (hst2.mono HB1.out.size))
    have hr2 : w1.heap.size ≤ w2.heap.size := hst2.size
    clear hb2 hst2 bx1_r_0 bx1_r_1 sz1_r bx1_z_0 bx1_z_1 sz1_z fz1_z_0 fz1_z_1
    go_wp2
    refine bodyPost_ret (v := .agg #[.int .i64 r.fN, .slice a1 r.fRows.length c1]) (results_cell_row Try.results39 _ _ (w.heap.size + 1) 37 #[.int .i64 r.fN, .slice a1 r.fRows.length c1] (0, 0) _ rfl (by refine Eq.trans (blk_set (cs := #[.int .i64 r.fN, .slice none 0 0]) (t := 37) (fr := (0, 0)) ?_) rfl; refine Eq.trans (blk_set (cs := #[.int .i64 0, .slice none 0 0]) (t := 37) (fr := (0, 0)) ?_) rfl; repeat (first | (with_reducible exact HG2.out) | (refine blk_other (by dsimp only; omega) ?_))) Try.underlying37 rfl rfl) rfl ?_
    rw [fin.out]
    refine ⟨a1, c1, rfl, ?_, ?_⟩
    · refine Own.sub (F := fun y => w.heap.size + 2 ≤ y ∧ y < w1.heap.size) (HO2.out.kept ?_) (fun y hy => ⟨Nat.le_trans (by omega) hy.1, Nat.lt_of_lt_of_le hy.2 (by first | (simp; done) | (simp; omega))⟩)
      repeat (first | (with_reducible exact Kept.refl) | (refine Kept.put ?_ (by intro h; have h1 := h.1; dsimp only at h1; omega)))
    · repeat (first | (with_reducible exact HB2.out) | (with_reducible apply Below.drew) | (with_reducible refine below_drewN ?_ _) | (refine Below.setCell ?_ (by simp <;> omega) _) | (refine Below.alloc ?_ (by simp <;> omega) _))
  | true =>
    have HV := Lib.hid hv
    have HP := Lib.hid (relB_parts hv)
    clear hv
    have hN1 : 0 ≤ r.fN ∧ r.fN ≤ 16 := by
      obtain ⟨n, h1, h2, _⟩ := HP.out
      rw [h2]; omega
    cases hi1 : inR i 0 (r.fN - 1) with
    | false =>
      have fin := Lib.hid (addPair_no2 (k := k) hi1)
      have HI := Lib.hid (fun w => impl_isNumber (a0 := a0) (c0_0 := c0_0) r i false hi1 w)
      clear hi1
      go_enter Try.func39, Try.ntmps39
      go_wp2_with fail
      refine (impl_copyRelation (c0 := c0_0) r HL.out _ (Nat.le_trans HH.out HB0.out.size) (HS.out.later (HB0.out) HH.out)).mono ?_
      rintro e w1 ⟨a1, c1, rfl, ho1, hb1⟩
      have hst1 : Below (w.heap.size + 2) ((w.alloc (.cells #[.int .i64 r.fN, .slice a0 r.fRows.length c0_0] 37)).alloc (.cells #[.int .i64 0, .slice none 0 0] 37)) w1 := hb1.mono (by simp)
      have sz1_r : w.heap.size < w1.heap.size := Nat.lt_of_lt_of_le (by show w.heap.size < w.heap.size + 2; omega) (Nat.le_trans (by simp) hst1.size)
      have bx1_r_0 : w1.cell? ⟨w.heap.size, 0, none⟩ = some (.int .i64 r.fN) := (hst1.cell (p := ⟨w.heap.size, 0, none⟩) (by show w.heap.size < w.heap.size + 2; omega)).trans (by go_simp)
      have bx1_r_1 : w1.cell? ⟨w.heap.size, 1, none⟩ = some (.slice a0 r.fRows.length c0_0) := (hst1.cell (p := ⟨w.heap.size, 1, none⟩) (by show w.heap.size < w.heap.size + 2; omega)).trans (by go_simp)
      have sz1_z : w.heap.size + 1 < w1.heap.size := Nat.lt_of_lt_of_le (by show w.heap.size + 1 < w.heap.size + 2; omega) (Nat.le_trans (by simp) hst1.size)
      have bx1_z_0 : w1.cell? ⟨w.heap.size + 1, 0, none⟩ = some (.int .i64 0) := (hst1.cell (p := ⟨w.heap.size + 1, 0, none⟩) (by show w.heap.size + 1 < w.heap.size + 2; omega)).trans (by go_simp)
      have fz1_z_0 : w1.frozen? ⟨w.heap.size + 1, 0, none⟩ = false := (hst1.frozen (p := ⟨w.heap.size + 1, 0, none⟩) (by show w.heap.size + 1 < w.heap.size + 2; omega)).trans (by go_simp)
      have bx1_z_1 : w1.cell? ⟨w.heap.size + 1, 1, none⟩ = some (.slice none 0 0) := (hst1.cell (p := ⟨w.heap.size + 1, 1, none⟩) (by show w.heap.size + 1 < w.heap.size + 2; omega)).trans (by go_simp)
      have fz1_z_1 : w1.frozen? ⟨w.heap.size + 1, 1, none⟩ = false := (hst1.frozen (p := ⟨w.heap.size + 1, 1, none⟩) (by show w.heap.size + 1 < w.heap.size + 2; omega)).trans (by go_simp)
      have HG1 := Lib.hid ((hst1.block (w.heap.size + 1) (by omega)).trans HG0.out)
      have HO1 := Lib.hid (ho1.sub (F' := fun y => w.heap.size + 2 ≤ y ∧ y < w1.heap.size) (fun y hy => ⟨Nat.le_trans (by simp) hy.1, hy.2⟩))
      clear ho1
      have HB1 := Lib.hid (HB0.out.trans (hb1.mono HB0.out.size))
      clear hb1 hst1
      go_wp2_with fail
      refine (impl_relValid (c0 := c0_0) r HL.out true HV.out _ (Nat.le_trans HH.out (Nat.le_trans HB1.out.size (Below.size (by repeat (first | (with_reducible exact Below.refl _ _) | (with_reducible apply Below.drew) | (with_reducible refine below_drewN ?_ _) | (refine Below.setCell ?_ (by simp <;> omega) _) | (refine Below.alloc ?_ (by simp <;> omega) _)) : Below w1.heap.size w1 _)))) (HS.out.later (HB1.out.trans ((by repeat (first | (with_reducible exact Below.refl _ _) | (with_reducible apply Below.drew) | (with_reducible refine below_drewN ?_ _) | (refine Below.setCell ?_ (by simp <;> omega) _) | (refine Below.alloc ?_ (by simp <;> omega) _)) : Below w1.heap.size w1 _).mono HB1.out.size)) HH.out)).mono ?_
      rintro e w2 ⟨rfl, hb2⟩
      have hst2 : Below w1.heap.size w1 w2 := Below.trans (by repeat (first | (with_reducible exact Below.refl _ _) | (with_reducible apply Below.drew) | (with_reducible refine below_drewN ?_ _) | (refine Below.setCell ?_ (by simp <;> omega) _) | (refine Below.alloc ?_ (by simp <;> omega) _)) : Below w1.heap.size w1 _) (hb2.mono (Below.size (by repeat (first | (with_reducible exact Below.refl _ _) | (with_reducible apply Below.drew) | (with_reducible refine below_drewN ?_ _) | (refine Below.setCell ?_ (by simp <;> omega) _) | (refine Below.alloc ?_ (by simp <;> omega) _)) : Below w1.heap.size w1 _)))
      have sz2_r : w.heap.size < w2.heap.size := Nat.lt_of_lt_of_le sz1_r hst2.size
      have bx2_r_0 : w2.cell? ⟨w.heap.size, 0, none⟩ = some (.int .i64 r.fN) := (hst2.cell (p := ⟨w.heap.size, 0, none⟩) sz1_r).trans bx1_r_0
      have bx2_r_1 : w2.cell? ⟨w.heap.size, 1, none⟩ = some (.slice a0 r.fRows.length c0_0) := (hst2.cell (p := ⟨w.heap.size, 1, none⟩) sz1_r).trans bx1_r_1
      have sz2_z : w.heap.size + 1 < w2.heap.size := Nat.lt_of_lt_of_le sz1_z hst2.size
      have bx2_z_0 : w2.cell? ⟨w.heap.size + 1, 0, none⟩ = some (.int .i64 0) := (hst2.cell (p := ⟨w.heap.size + 1, 0, none⟩) sz1_z).trans bx1_z_0
      have fz2_z_0 : w2.frozen? ⟨w.heap.size + 1, 0, none⟩ = false := (hst2.frozen (p := ⟨w.heap.size + 1, 0, none⟩) sz1_z).trans fz1_z_0
      have bx2_z_1 : w2.cell? ⟨w.heap.size + 1, 1, none⟩ = some (.slice none 0 0) := (hst2.cell (p := ⟨w.heap.size + 1, 1, none⟩) sz1_z).trans bx1_z_1
      have fz2_z_1 : w2.frozen? ⟨w.heap.size + 1, 1, none⟩ = false := (hst2.frozen (p := ⟨w.heap.size + 1, 1, none⟩) sz1_z).trans fz1_z_1
      have sz2_x : w1.heap.size < w2.heap.size := Nat.lt_of_lt_of_le (by first | omega | (simp; done) | (simp; omega) | (simp [World.setCell]; omega)) hb2.size
      have bx2_x_0 : w2.cell? ⟨w1.heap.size, 0, none⟩ = some (.int .i64 r.fN) := (hb2.cell (p := ⟨w1.heap.size, 0, none⟩) (by first | omega | (simp; done) | (simp; omega) | (simp [World.setCell]; omega))).trans (by go_simp)
      have bx2_x_1 : w2.cell? ⟨w1.heap.size, 1, none⟩ = some (.slice a1 r.fRows.length c1) := (hb2.cell (p := ⟨w1.heap.size, 1, none⟩) (by first | omega | (simp; done) | (simp; omega) | (simp [World.setCell]; omega))).trans (by go_simp)
      have HG2 := Lib.hid ((hst2.block (w.heap.size + 1) sz1_z).trans HG1.out)
      have HO2 := Lib.hid (HO1.out.kept (Kept.of_below_all hst2))
      have HB2 := Lib.hid (HB1.out.trans (hst2.mono HB1.out.size))
      have hr2 : w1.heap.size ≤ w2.heap.size := hst2.size
      clear hb2 hst2 bx1_r_0 bx1_r_1 sz1_r bx1_z_0 bx1_z_1 sz1_z fz1_z_0 fz1_z_1
      go_wp2_with fail
      refine (HI.out _).mono ?_
      rintro e w3 ⟨rfl, hb3⟩
      have hst3 : Below w2.heap.size w2 w3 := Below.trans (by repeat (first | (with_reducible exact Below.refl _ _) | (with_reducible apply Below.drew) | (with_reducible refine below_drewN ?_ _) | (refine Below.setCell ?_ (by simp <;> omega) _) | (refine Below.alloc ?_ (by simp <;> omega) _)) : Below w2.heap.size w2 _) (hb3.mono (Below.size (by repeat (first | (with_reducible exact Below.refl _ _) | (with_reducible apply Below.drew) | (with_reducible refine below_drewN ?_ _) | (refine Below.setCell ?_ (by simp <;> omega) _) | (refine Below.alloc ?_ (by simp <;> omega) _)) : Below w2.heap.size w2 _)))
      have sz3_r : w.heap.size < w3.heap.size := Nat.lt_of_lt_of_le sz2_r hst3.size
      have bx3_r_0 : w3.cell? ⟨w.heap.size, 0, none⟩ = some (.int .i64 r.fN) := (hst3.cell (p := ⟨w.heap.size, 0, none⟩) sz2_r).trans bx2_r_0
      have bx3_r_1 : w3.cell? ⟨w.heap.size, 1, none⟩ = some (.slice a0 r.fRows.length c0_0) := (hst3.cell (p := ⟨w.heap.size, 1, none⟩) sz2_r).trans bx2_r_1
      have sz3_z : w.heap.size + 1 < w3.heap.size := Nat.lt_of_lt_of_le sz2_z hst3.size
      have bx3_z_0 : w3.cell? ⟨w.heap.size + 1, 0, none⟩ = some (.int .i64 0) := (hst3.cell (p := ⟨w.heap.size + 1, 0, none⟩) sz2_z).trans bx2_z_0
      have fz3_z_0 : w3.frozen? ⟨w.heap.size + 1, 0, none⟩ = false := (hst3.frozen (p := ⟨w.heap.size + 1, 0, none⟩) sz2_z).trans fz2_z_0
      have bx3_z_1 : w3.cell? ⟨w.heap.size + 1, 1, none⟩ = some (.slice none 0 0) := (hst3.cell (p := ⟨w.heap.size + 1, 1, none⟩) sz2_z).trans bx2_z_1
      have fz3_z_1 : w3.frozen? ⟨w.heap.size + 1, 1, none⟩ = false := (hst3.frozen (p := ⟨w.heap.size + 1, 1, none⟩) sz2_z).trans fz2_z_1
      have sz3_x : w1.heap.size < w3.heap.size := Nat.lt_of_lt_of_le sz2_x hst3.size
      have bx3_x_0 : w3.cell? ⟨w1.heap.size, 0, none⟩ = some (.int .i64 r.fN) := (hst3.cell (p := ⟨w1.heap.size, 0, none⟩) sz2_x).trans bx2_x_0
      have bx3_x_1 : w3.cell? ⟨w1.heap.size, 1, none⟩ = some (.slice a1 r.fRows.length c1) := (hst3.cell (p := ⟨w1.heap.size, 1, none⟩) sz2_x).trans bx2_x_1
      have HG3 := Lib.hid ((hst3.block (w.heap.size + 1) sz2_z).trans HG2.out)
      have HO3 := Lib.hid (HO2.out.kept (Kept.of_below_all hst3))
      have HB3 := Lib.hid (HB2.out.trans (hst3.mono HB2.out.size))
      have hr3 : w2.heap.size ≤ w3.heap.size := hst3.size
      clear hb3 hst3 bx2_r_0 bx2_r_1 sz2_r bx2_z_0 bx2_z_1 sz2_z fz2_z_0 fz2_z_1 bx2_x_0 bx2_x_1 sz2_x
      go_wp2
      refine bodyPost_ret (v := .agg #[.int .i64 r.fN, .slice a1 r.fRows.length c1]) (results_cell_row Try.results39 _ _ (w.heap.size + 1) 37 #[.int .i64 r.fN, .slice a1 r.fRows.length c1] (0, 0) _ rfl (by refine Eq.trans (blk_set (cs := #[.int .i64 r.fN, .slice none 0 0]) (t := 37) (fr := (0, 0)) ?_) rfl; refine Eq.trans (blk_set (cs := #[.int .i64 0, .slice none 0 0]) (t := 37) (fr := (0, 0)) ?_) rfl; repeat (first | (with_reducible exact HG3.out) | (refine blk_other (by dsimp only; omega) ?_))) Try.underlying37 rfl rfl) rfl ?_
      rw [fin.out]
      refine ⟨a1, c1, rfl, ?_, ?_⟩
      · refine Own.sub (F := fun y => w.heap.size + 2 ≤ y ∧ y < w1.heap.size) (HO3.out.kept ?_) (fun y hy => ⟨Nat.le_trans (by omega) hy.1, Nat.lt_of_lt_of_le hy.2 (by first | (simp; done) | (simp; omega))⟩)
        repeat (first | (with_reducible exact Kept.refl) | (refine Kept.put ?_ (by intro h; have h1 := h.1; dsimp only at h1; omega)))
      · repeat (first | (with_reducible exact HB3.out) | (with_reducible apply Below.drew) | (with_reducible refine below_drewN ?_ _) | (refine Below.setCell ?_ (by simp <;> omega) _) | (refine Below.alloc ?_ (by simp <;> omega) _))
    | true =>
      have HI := Lib.hid (fun w => impl_isNumber (a0 := a0) (c0_0 := c0_0) r i true hi1 w)
      cases hk1 : inR k 0 (r.fN - 1) with
      | false =>
        have fin := Lib.hid (addPair_no3 (i := i) hk1)
        have HK := Lib.hid (fun w => impl_isNumber (a0 := a0) (c0_0 := c0_0) r k false hk1 w)
        clear hi1 hk1
        go_enter Try.func39, Try.ntmps39
        go_wp2_with fail
        refine (impl_copyRelation (c0 := c0_0) r HL.out _ (Nat.le_trans HH.out HB0.out.size) (HS.out.later (HB0.out) HH.out)).mono ?_
        rintro e w1 ⟨a1, c1, rfl, ho1, hb1⟩
        have hst1 : Below (w.heap.size + 2) ((w.alloc (.cells #[.int .i64 r.fN, .slice a0 r.fRows.length c0_0] 37)).alloc (.cells #[.int .i64 0, .slice none 0 0] 37)) w1 := hb1.mono (by simp)
        have sz1_r : w.heap.size < w1.heap.size := Nat.lt_of_lt_of_le (by show w.heap.size < w.heap.size + 2; omega) (Nat.le_trans (by simp) hst1.size)
        have bx1_r_0 : w1.cell? ⟨w.heap.size, 0, none⟩ = some (.int .i64 r.fN) := (hst1.cell (p := ⟨w.heap.size, 0, none⟩) (by show w.heap.size < w.heap.size + 2; omega)).trans (by go_simp)
        have bx1_r_1 : w1.cell? ⟨w.heap.size, 1, none⟩ = some (.slice a0 r.fRows.length c0_0) := (hst1.cell (p := ⟨w.heap.size, 1, none⟩) (by show w.heap.size < w.heap.size + 2; omega)).trans (by go_simp)
        have sz1_z : w.heap.size + 1 < w1.heap.size := Nat.lt_of_lt_of_le (by show w.heap.size + 1 < w.heap.size + 2; omega) (Nat.le_trans (by simp) hst1.size)
        have bx1_z_0 : w1.cell? ⟨w.heap.size + 1, 0, none⟩ = some (.int .i64 0) := (hst1.cell (p := ⟨w.heap.size + 1, 0, none⟩) (by show w.heap.size + 1 < w.heap.size + 2; omega)).trans (by go_simp)
        have fz1_z_0 : w1.frozen? ⟨w.heap.size + 1, 0, none⟩ = false := (hst1.frozen (p := ⟨w.heap.size + 1, 0, none⟩) (by show w.heap.size + 1 < w.heap.size + 2; omega)).trans (by go_simp)
        have bx1_z_1 : w1.cell? ⟨w.heap.size + 1, 1, none⟩ = some (.slice none 0 0) := (hst1.cell (p := ⟨w.heap.size + 1, 1, none⟩) (by show w.heap.size + 1 < w.heap.size + 2; omega)).trans (by go_simp)
        have fz1_z_1 : w1.frozen? ⟨w.heap.size + 1, 1, none⟩ = false := (hst1.frozen (p := ⟨w.heap.size + 1, 1, none⟩) (by show w.heap.size + 1 < w.heap.size + 2; omega)).trans (by go_simp)
        have HG1 := Lib.hid ((hst1.block (w.heap.size + 1) (by omega)).trans HG0.out)
        have HO1 := Lib.hid (ho1.sub (F' := fun y => w.heap.size + 2 ≤ y ∧ y < w1.heap.size) (fun y hy => ⟨Nat.le_trans (by simp) hy.1, hy.2⟩))
        clear ho1
        have HB1 := Lib.hid (HB0.out.trans (hb1.mono HB0.out.size))
        clear hb1 hst1
        go_wp2_with fail
        refine (impl_relValid (c0 := c0_0) r HL.out true HV.out _ (Nat.le_trans HH.out (Nat.le_trans HB1.out.size (Below.size (by repeat (first | (with_reducible exact Below.refl _ _) | (with_reducible apply Below.drew) | (with_reducible refine below_drewN ?_ _) | (refine Below.setCell ?_ (by simp <;> omega) _) | (refine Below.alloc ?_ (by simp <;> omega) _)) : Below w1.heap.size w1 _)))) (HS.out.later (HB1.out.trans ((by repeat (first | (with_reducible exact Below.refl _ _) | (with_reducible apply Below.drew) | (with_reducible refine below_drewN ?_ _) | (refine Below.setCell ?_ (by simp <;> omega) _) | (refine Below.alloc ?_ (by simp <;> omega) _)) : Below w1.heap.size w1 _).mono HB1.out.size)) HH.out)).mono ?_
        rintro e w2 ⟨rfl, hb2⟩
        have hst2 : Below w1.heap.size w1 w2 := Below.trans (by repeat (first | (with_reducible exact Below.refl _ _) | (with_reducible apply Below.drew) | (with_reducible refine below_drewN ?_ _) | (refine Below.setCell ?_ (by simp <;> omega) _) | (refine Below.alloc ?_ (by simp <;> omega) _)) : Below w1.heap.size w1 _) (hb2.mono (Below.size (by repeat (first | (with_reducible exact Below.refl _ _) | (with_reducible apply Below.drew) | (with_reducible refine below_drewN ?_ _) | (refine Below.setCell ?_ (by simp <;> omega) _) | (refine Below.alloc ?_ (by simp <;> omega) _)) : Below w1.heap.size w1 _)))
        have sz2_r : w.heap.size < w2.heap.size := Nat.lt_of_lt_of_le sz1_r hst2.size
        have bx2_r_0 : w2.cell? ⟨w.heap.size, 0, none⟩ = some (.int .i64 r.fN) := (hst2.cell (p := ⟨w.heap.size, 0, none⟩) sz1_r).trans bx1_r_0
        have bx2_r_1 : w2.cell? ⟨w.heap.size, 1, none⟩ = some (.slice a0 r.fRows.length c0_0) := (hst2.cell (p := ⟨w.heap.size, 1, none⟩) sz1_r).trans bx1_r_1
        have sz2_z : w.heap.size + 1 < w2.heap.size := Nat.lt_of_lt_of_le sz1_z hst2.size
        have bx2_z_0 : w2.cell? ⟨w.heap.size + 1, 0, none⟩ = some (.int .i64 0) := (hst2.cell (p := ⟨w.heap.size + 1, 0, none⟩) sz1_z).trans bx1_z_0
        have fz2_z_0 : w2.frozen? ⟨w.heap.size + 1, 0, none⟩ = false := (hst2.frozen (p := ⟨w.heap.size + 1, 0, none⟩) sz1_z).trans fz1_z_0
        have bx2_z_1 : w2.cell? ⟨w.heap.size + 1, 1, none⟩ = some (.slice none 0 0) := (hst2.cell (p := ⟨w.heap.size + 1, 1, none⟩) sz1_z).trans bx1_z_1
        have fz2_z_1 : w2.frozen? ⟨w.heap.size + 1, 1, none⟩ = false := (hst2.frozen (p := ⟨w.heap.size + 1, 1, none⟩) sz1_z).trans fz1_z_1
        have sz2_x : w1.heap.size < w2.heap.size := Nat.lt_of_lt_of_le (by first | omega | (simp; done) | (simp; omega) | (simp [World.setCell]; omega)) hb2.size
        have bx2_x_0 : w2.cell? ⟨w1.heap.size, 0, none⟩ = some (.int .i64 r.fN) := (hb2.cell (p := ⟨w1.heap.size, 0, none⟩) (by first | omega | (simp; done) | (simp; omega) | (simp [World.setCell]; omega))).trans (by go_simp)
        have bx2_x_1 : w2.cell? ⟨w1.heap.size, 1, none⟩ = some (.slice a1 r.fRows.length c1) := (hb2.cell (p := ⟨w1.heap.size, 1, none⟩) (by first | omega | (simp; done) | (simp; omega) | (simp [World.setCell]; omega))).trans (by go_simp)
        have HG2 := Lib.hid ((hst2.block (w.heap.size + 1) sz1_z).trans HG1.out)
        have HO2 := Lib.hid (HO1.out.kept (Kept.of_below_all hst2))
        have HB2 := Lib.hid (HB1.out.trans (hst2.mono HB1.out.size))
        have hr2 : w1.heap.size ≤ w2.heap.size := hst2.size
        clear hb2 hst2 bx1_r_0 bx1_r_1 sz1_r bx1_z_0 bx1_z_1 sz1_z fz1_z_0 fz1_z_1
        go_wp2_with fail
        refine (HI.out _).mono ?_
        rintro e w3 ⟨rfl, hb3⟩
        have hst3 : Below w2.heap.size w2 w3 := Below.trans (by repeat (first | (with_reducible exact Below.refl _ _) | (with_reducible apply Below.drew) | (with_reducible refine below_drewN ?_ _) | (refine Below.setCell ?_ (by simp <;> omega) _) | (refine Below.alloc ?_ (by simp <;> omega) _)) : Below w2.heap.size w2 _) (hb3.mono (Below.size (by repeat (first | (with_reducible exact Below.refl _ _) | (with_reducible apply Below.drew) | (with_reducible refine below_drewN ?_ _) | (refine Below.setCell ?_ (by simp <;> omega) _) | (refine Below.alloc ?_ (by simp <;> omega) _)) : Below w2.heap.size w2 _)))
        have sz3_r : w.heap.size < w3.heap.size := Nat.lt_of_lt_of_le sz2_r hst3.size
        have bx3_r_0 : w3.cell? ⟨w.heap.size, 0, none⟩ = some (.int .i64 r.fN) := (hst3.cell (p := ⟨w.heap.size, 0, none⟩) sz2_r).trans bx2_r_0
        have bx3_r_1 : w3.cell? ⟨w.heap.size, 1, none⟩ = some (.slice a0 r.fRows.length c0_0) := (hst3.cell (p := ⟨w.heap.size, 1, none⟩) sz2_r).trans bx2_r_1
        have sz3_z : w.heap.size + 1 < w3.heap.size := Nat.lt_of_lt_of_le sz2_z hst3.size
        have bx3_z_0 : w3.cell? ⟨w.heap.size + 1, 0, none⟩ = some (.int .i64 0) := (hst3.cell (p := ⟨w.heap.size + 1, 0, none⟩) sz2_z).trans bx2_z_0
        have fz3_z_0 : w3.frozen? ⟨w.heap.size + 1, 0, none⟩ = false := (hst3.frozen (p := ⟨w.heap.size + 1, 0, none⟩) sz2_z).trans fz2_z_0
        have bx3_z_1 : w3.cell? ⟨w.heap.size + 1, 1, none⟩ = some (.slice none 0 0) := (hst3.cell (p := ⟨w.heap.size + 1, 1, none⟩) sz2_z).trans bx2_z_1
        have fz3_z_1 : w3.frozen? ⟨w.heap.size + 1, 1, none⟩ = false := (hst3.frozen (p := ⟨w.heap.size + 1, 1, none⟩) sz2_z).trans fz2_z_1
        have sz3_x : w1.heap.size < w3.heap.size := Nat.lt_of_lt_of_le sz2_x hst3.size
        have bx3_x_0 : w3.cell? ⟨w1.heap.size, 0, none⟩ = some (.int .i64 r.fN) := (hst3.cell (p := ⟨w1.heap.size, 0, none⟩) sz2_x).trans bx2_x_0
        have bx3_x_1 : w3.cell? ⟨w1.heap.size, 1, none⟩ = some (.slice a1 r.fRows.length c1) := (hst3.cell (p := ⟨w1.heap.size, 1, none⟩) sz2_x).trans bx2_x_1
        have HG3 := Lib.hid ((hst3.block (w.heap.size + 1) sz2_z).trans HG2.out)
        have HO3 := Lib.hid (HO2.out.kept (Kept.of_below_all hst3))
        have HB3 := Lib.hid (HB2.out.trans (hst3.mono HB2.out.size))
        have hr3 : w2.heap.size ≤ w3.heap.size := hst3.size
        clear hb3 hst3 bx2_r_0 bx2_r_1 sz2_r bx2_z_0 bx2_z_1 sz2_z fz2_z_0 fz2_z_1 bx2_x_0 bx2_x_1 sz2_x
        go_wp2_with fail
        refine (HK.out _).mono ?_
        rintro e w4 ⟨rfl, hb4⟩
        have hst4 : Below w3.heap.size w3 w4 := Below.trans (by repeat (first | (with_reducible exact Below.refl _ _) | (with_reducible apply Below.drew) | (with_reducible refine below_drewN ?_ _) | (refine Below.setCell ?_ (by simp <;> omega) _) | (refine Below.alloc ?_ (by simp <;> omega) _)) : Below w3.heap.size w3 _) (hb4.mono (Below.size (by repeat (first | (with_reducible exact Below.refl _ _) | (with_reducible apply Below.drew) | (with_reducible refine below_drewN ?_ _) | (refine Below.setCell ?_ (by simp <;> omega) _) | (refine Below.alloc ?_ (by simp <;> omega) _)) : Below w3.heap.size w3 _)))
        have sz4_r : w.heap.size < w4.heap.size := Nat.lt_of_lt_of_le sz3_r hst4.size
        have bx4_r_0 : w4.cell? ⟨w.heap.size, 0, none⟩ = some (.int .i64 r.fN) := (hst4.cell (p := ⟨w.heap.size, 0, none⟩) sz3_r).trans bx3_r_0
        have bx4_r_1 : w4.cell? ⟨w.heap.size, 1, none⟩ = some (.slice a0 r.fRows.length c0_0) := (hst4.cell (p := ⟨w.heap.size, 1, none⟩) sz3_r).trans bx3_r_1
        have sz4_z : w.heap.size + 1 < w4.heap.size := Nat.lt_of_lt_of_le sz3_z hst4.size
        have bx4_z_0 : w4.cell? ⟨w.heap.size + 1, 0, none⟩ = some (.int .i64 0) := (hst4.cell (p := ⟨w.heap.size + 1, 0, none⟩) sz3_z).trans bx3_z_0
        have fz4_z_0 : w4.frozen? ⟨w.heap.size + 1, 0, none⟩ = false := (hst4.frozen (p := ⟨w.heap.size + 1, 0, none⟩) sz3_z).trans fz3_z_0
        have bx4_z_1 : w4.cell? ⟨w.heap.size + 1, 1, none⟩ = some (.slice none 0 0) := (hst4.cell (p := ⟨w.heap.size + 1, 1, none⟩) sz3_z).trans bx3_z_1
        have fz4_z_1 : w4.frozen? ⟨w.heap.size + 1, 1, none⟩ = false := (hst4.frozen (p := ⟨w.heap.size + 1, 1, none⟩) sz3_z).trans fz3_z_1
        have sz4_x : w1.heap.size < w4.heap.size := Nat.lt_of_lt_of_le sz3_x hst4.size
        have bx4_x_0 : w4.cell? ⟨w1.heap.size, 0, none⟩ = some (.int .i64 r.fN) := (hst4.cell (p := ⟨w1.heap.size, 0, none⟩) sz3_x).trans bx3_x_0
        have bx4_x_1 : w4.cell? ⟨w1.heap.size, 1, none⟩ = some (.slice a1 r.fRows.length c1) := (hst4.cell (p := ⟨w1.heap.size, 1, none⟩) sz3_x).trans bx3_x_1
        have HG4 := Lib.hid ((hst4.block (w.heap.size + 1) sz3_z).trans HG3.out)
        have HO4 := Lib.hid (HO3.out.kept (Kept.of_below_all hst4))
        have HB4 := Lib.hid (HB3.out.trans (hst4.mono HB3.out.size))
        have hr4 : w3.heap.size ≤ w4.heap.size := hst4.size
        clear hb4 hst4 bx3_r_0 bx3_r_1 sz3_r bx3_z_0 bx3_z_1 sz3_z fz3_z_0 fz3_z_1 bx3_x_0 bx3_x_1 sz3_x
        go_wp2
        refine bodyPost_ret (v := .agg #[.int .i64 r.fN, .slice a1 r.fRows.length c1]) (results_cell_row Try.results39 _ _ (w.heap.size + 1) 37 #[.int .i64 r.fN, .slice a1 r.fRows.length c1] (0, 0) _ rfl (by refine Eq.trans (blk_set (cs := #[.int .i64 r.fN, .slice none 0 0]) (t := 37) (fr := (0, 0)) ?_) rfl; refine Eq.trans (blk_set (cs := #[.int .i64 0, .slice none 0 0]) (t := 37) (fr := (0, 0)) ?_) rfl; repeat (first | (with_reducible exact HG4.out) | (refine blk_other (by dsimp only; omega) ?_))) Try.underlying37 rfl rfl) rfl ?_
        rw [fin.out]
        refine ⟨a1, c1, rfl, ?_, ?_⟩
        · refine Own.sub (F := fun y => w.heap.size + 2 ≤ y ∧ y < w1.heap.size) (HO4.out.kept ?_) (fun y hy => ⟨Nat.le_trans (by omega) hy.1, Nat.lt_of_lt_of_le hy.2 (by first | (simp; done) | (simp; omega))⟩)
          repeat (first | (with_reducible exact Kept.refl) | (refine Kept.put ?_ (by intro h; have h1 := h.1; dsimp only at h1; omega)))
        · repeat (first | (with_reducible exact HB4.out) | (with_reducible apply Below.drew) | (with_reducible refine below_drewN ?_ _) | (refine Below.setCell ?_ (by simp <;> omega) _) | (refine Below.alloc ?_ (by simp <;> omega) _))
      | true =>
        have HK := Lib.hid (fun w => impl_isNumber (a0 := a0) (c0_0 := c0_0) r k true hk1 w)
        obtain ⟨i, rfl, hi2⟩ := inR_nat hi1
        obtain ⟨k, rfl, hk2⟩ := inR_nat hk1
        have fin := Lib.hid (addPair_yes HV.out hi1 hk1)
        clear hi1 hk1
        have hil : i < r.fRows.length := by
          obtain ⟨n, h1, h2, h3, _⟩ := HP.out
          omega
        have hk16 : k ≤ 16 := by omega
        obtain ⟨q, hq⟩ : ∃ q : Int, (2 : Int) ^ k = q := ⟨_, rfl⟩
        have hq1 := pow_in hk16
        rw [hq] at hq1
        have hlow : 1 ≤ q := hq1.1
        have hhigh : q ≤ 65536 := hq1.2
        have hw1 : wrap64 q = q := IntWalk.wrap64_in _ ⟨by omega, by omega⟩
        have HQ := Lib.hid hq
        clear hq1
        go_enter Try.func39, Try.ntmps39
        go_wp2_with fail
        refine (impl_copyRelation (c0 := c0_0) r HL.out _ (Nat.le_trans HH.out HB0.out.size) (HS.out.later (HB0.out) HH.out)).mono ?_
        rintro e w1 ⟨a1, c1, rfl, ho1, hb1⟩
        have hst1 : Below (w.heap.size + 2) ((w.alloc (.cells #[.int .i64 r.fN, .slice a0 r.fRows.length c0_0] 37)).alloc (.cells #[.int .i64 0, .slice none 0 0] 37)) w1 := hb1.mono (by simp)
        have sz1_r : w.heap.size < w1.heap.size := Nat.lt_of_lt_of_le (by show w.heap.size < w.heap.size + 2; omega) (Nat.le_trans (by simp) hst1.size)
        have bx1_r_0 : w1.cell? ⟨w.heap.size, 0, none⟩ = some (.int .i64 r.fN) := (hst1.cell (p := ⟨w.heap.size, 0, none⟩) (by show w.heap.size < w.heap.size + 2; omega)).trans (by go_simp)
        have bx1_r_1 : w1.cell? ⟨w.heap.size, 1, none⟩ = some (.slice a0 r.fRows.length c0_0) := (hst1.cell (p := ⟨w.heap.size, 1, none⟩) (by show w.heap.size < w.heap.size + 2; omega)).trans (by go_simp)
        have sz1_z : w.heap.size + 1 < w1.heap.size := Nat.lt_of_lt_of_le (by show w.heap.size + 1 < w.heap.size + 2; omega) (Nat.le_trans (by simp) hst1.size)
        have bx1_z_0 : w1.cell? ⟨w.heap.size + 1, 0, none⟩ = some (.int .i64 0) := (hst1.cell (p := ⟨w.heap.size + 1, 0, none⟩) (by show w.heap.size + 1 < w.heap.size + 2; omega)).trans (by go_simp)
        have fz1_z_0 : w1.frozen? ⟨w.heap.size + 1, 0, none⟩ = false := (hst1.frozen (p := ⟨w.heap.size + 1, 0, none⟩) (by show w.heap.size + 1 < w.heap.size + 2; omega)).trans (by go_simp)
        have bx1_z_1 : w1.cell? ⟨w.heap.size + 1, 1, none⟩ = some (.slice none 0 0) := (hst1.cell (p := ⟨w.heap.size + 1, 1, none⟩) (by show w.heap.size + 1 < w.heap.size + 2; omega)).trans (by go_simp)
        have fz1_z_1 : w1.frozen? ⟨w.heap.size + 1, 1, none⟩ = false := (hst1.frozen (p := ⟨w.heap.size + 1, 1, none⟩) (by show w.heap.size + 1 < w.heap.size + 2; omega)).trans (by go_simp)
        have HG1 := Lib.hid ((hst1.block (w.heap.size + 1) (by omega)).trans HG0.out)
        have HO1 := Lib.hid (ho1.sub (F' := fun y => w.heap.size + 2 ≤ y ∧ y < w1.heap.size) (fun y hy => ⟨Nat.le_trans (by simp) hy.1, hy.2⟩))
        clear ho1
        have HB1 := Lib.hid (HB0.out.trans (hb1.mono HB0.out.size))
        clear hb1 hst1
        go_wp2_with fail
        refine (impl_relValid (c0 := c0_0) r HL.out true HV.out _ (Nat.le_trans HH.out (Nat.le_trans HB1.out.size (Below.size (by repeat (first | (with_reducible exact Below.refl _ _) | (with_reducible apply Below.drew) | (with_reducible refine below_drewN ?_ _) | (refine Below.setCell ?_ (by simp <;> omega) _) | (refine Below.alloc ?_ (by simp <;> omega) _)) : Below w1.heap.size w1 _)))) (HS.out.later (HB1.out.trans ((by repeat (first | (with_reducible exact Below.refl _ _) | (with_reducible apply Below.drew) | (with_reducible refine below_drewN ?_ _) | (refine Below.setCell ?_ (by simp <;> omega) _) | (refine Below.alloc ?_ (by simp <;> omega) _)) : Below w1.heap.size w1 _).mono HB1.out.size)) HH.out)).mono ?_
        rintro e w2 ⟨rfl, hb2⟩
        have hst2 : Below w1.heap.size w1 w2 := Below.trans (by repeat (first | (with_reducible exact Below.refl _ _) | (with_reducible apply Below.drew) | (with_reducible refine below_drewN ?_ _) | (refine Below.setCell ?_ (by simp <;> omega) _) | (refine Below.alloc ?_ (by simp <;> omega) _)) : Below w1.heap.size w1 _) (hb2.mono (Below.size (by repeat (first | (with_reducible exact Below.refl _ _) | (with_reducible apply Below.drew) | (with_reducible refine below_drewN ?_ _) | (refine Below.setCell ?_ (by simp <;> omega) _) | (refine Below.alloc ?_ (by simp <;> omega) _)) : Below w1.heap.size w1 _)))
        have sz2_r : w.heap.size < w2.heap.size := Nat.lt_of_lt_of_le sz1_r hst2.size
        have bx2_r_0 : w2.cell? ⟨w.heap.size, 0, none⟩ = some (.int .i64 r.fN) := (hst2.cell (p := ⟨w.heap.size, 0, none⟩) sz1_r).trans bx1_r_0
        have bx2_r_1 : w2.cell? ⟨w.heap.size, 1, none⟩ = some (.slice a0 r.fRows.length c0_0) := (hst2.cell (p := ⟨w.heap.size, 1, none⟩) sz1_r).trans bx1_r_1
        have sz2_z : w.heap.size + 1 < w2.heap.size := Nat.lt_of_lt_of_le sz1_z hst2.size
        have bx2_z_0 : w2.cell? ⟨w.heap.size + 1, 0, none⟩ = some (.int .i64 0) := (hst2.cell (p := ⟨w.heap.size + 1, 0, none⟩) sz1_z).trans bx1_z_0
        have fz2_z_0 : w2.frozen? ⟨w.heap.size + 1, 0, none⟩ = false := (hst2.frozen (p := ⟨w.heap.size + 1, 0, none⟩) sz1_z).trans fz1_z_0
        have bx2_z_1 : w2.cell? ⟨w.heap.size + 1, 1, none⟩ = some (.slice none 0 0) := (hst2.cell (p := ⟨w.heap.size + 1, 1, none⟩) sz1_z).trans bx1_z_1
        have fz2_z_1 : w2.frozen? ⟨w.heap.size + 1, 1, none⟩ = false := (hst2.frozen (p := ⟨w.heap.size + 1, 1, none⟩) sz1_z).trans fz1_z_1
        have sz2_x : w1.heap.size < w2.heap.size := Nat.lt_of_lt_of_le (by first | omega | (simp; done) | (simp; omega) | (simp [World.setCell]; omega)) hb2.size
        have bx2_x_0 : w2.cell? ⟨w1.heap.size, 0, none⟩ = some (.int .i64 r.fN) := (hb2.cell (p := ⟨w1.heap.size, 0, none⟩) (by first | omega | (simp; done) | (simp; omega) | (simp [World.setCell]; omega))).trans (by go_simp)
        have bx2_x_1 : w2.cell? ⟨w1.heap.size, 1, none⟩ = some (.slice a1 r.fRows.length c1) := (hb2.cell (p := ⟨w1.heap.size, 1, none⟩) (by first | omega | (simp; done) | (simp; omega) | (simp [World.setCell]; omega))).trans (by go_simp)
        have HG2 := Lib.hid ((hst2.block (w.heap.size + 1) sz1_z).trans HG1.out)
        have HO2 := Lib.hid (HO1.out.kept (Kept.of_below_all hst2))
        have HB2 := Lib.hid (HB1.out.trans (hst2.mono HB1.out.size))
        have hr2 : w1.heap.size ≤ w2.heap.size := hst2.size
        clear hb2 hst2 bx1_r_0 bx1_r_1 sz1_r bx1_z_0 bx1_z_1 sz1_z fz1_z_0 fz1_z_1
        go_wp2_with fail
        refine (HI.out _).mono ?_
        rintro e w3 ⟨rfl, hb3⟩
        have hst3 : Below w2.heap.size w2 w3 := Below.trans (by repeat (first | (with_reducible exact Below.refl _ _) | (with_reducible apply Below.drew) | (with_reducible refine below_drewN ?_ _) | (refine Below.setCell ?_ (by simp <;> omega) _) | (refine Below.alloc ?_ (by simp <;> omega) _)) : Below w2.heap.size w2 _) (hb3.mono (Below.size (by repeat (first | (with_reducible exact Below.refl _ _) | (with_reducible apply Below.drew) | (with_reducible refine below_drewN ?_ _) | (refine Below.setCell ?_ (by simp <;> omega) _) | (refine Below.alloc ?_ (by simp <;> omega) _)) : Below w2.heap.size w2 _)))
        have sz3_r : w.heap.size < w3.heap.size := Nat.lt_of_lt_of_le sz2_r hst3.size
        have bx3_r_0 : w3.cell? ⟨w.heap.size, 0, none⟩ = some (.int .i64 r.fN) := (hst3.cell (p := ⟨w.heap.size, 0, none⟩) sz2_r).trans bx2_r_0
        have bx3_r_1 : w3.cell? ⟨w.heap.size, 1, none⟩ = some (.slice a0 r.fRows.length c0_0) := (hst3.cell (p := ⟨w.heap.size, 1, none⟩) sz2_r).trans bx2_r_1
        have sz3_z : w.heap.size + 1 < w3.heap.size := Nat.lt_of_lt_of_le sz2_z hst3.size
        have bx3_z_0 : w3.cell? ⟨w.heap.size + 1, 0, none⟩ = some (.int .i64 0) := (hst3.cell (p := ⟨w.heap.size + 1, 0, none⟩) sz2_z).trans bx2_z_0
        have fz3_z_0 : w3.frozen? ⟨w.heap.size + 1, 0, none⟩ = false := (hst3.frozen (p := ⟨w.heap.size + 1, 0, none⟩) sz2_z).trans fz2_z_0
        have bx3_z_1 : w3.cell? ⟨w.heap.size + 1, 1, none⟩ = some (.slice none 0 0) := (hst3.cell (p := ⟨w.heap.size + 1, 1, none⟩) sz2_z).trans bx2_z_1
        have fz3_z_1 : w3.frozen? ⟨w.heap.size + 1, 1, none⟩ = false := (hst3.frozen (p := ⟨w.heap.size + 1, 1, none⟩) sz2_z).trans fz2_z_1
        have sz3_x : w1.heap.size < w3.heap.size := Nat.lt_of_lt_of_le sz2_x hst3.size
        have bx3_x_0 : w3.cell? ⟨w1.heap.size, 0, none⟩ = some (.int .i64 r.fN) := (hst3.cell (p := ⟨w1.heap.size, 0, none⟩) sz2_x).trans bx2_x_0
        have bx3_x_1 : w3.cell? ⟨w1.heap.size, 1, none⟩ = some (.slice a1 r.fRows.length c1) := (hst3.cell (p := ⟨w1.heap.size, 1, none⟩) sz2_x).trans bx2_x_1
        have HG3 := Lib.hid ((hst3.block (w.heap.size + 1) sz2_z).trans HG2.out)
        have HO3 := Lib.hid (HO2.out.kept (Kept.of_below_all hst3))
        have HB3 := Lib.hid (HB2.out.trans (hst3.mono HB2.out.size))
        have hr3 : w2.heap.size ≤ w3.heap.size := hst3.size
        clear hb3 hst3 bx2_r_0 bx2_r_1 sz2_r bx2_z_0 bx2_z_1 sz2_z fz2_z_0 fz2_z_1 bx2_x_0 bx2_x_1 sz2_x
        go_wp2_with fail
        refine (HK.out _).mono ?_
        rintro e w4 ⟨rfl, hb4⟩
        have hst4 : Below w3.heap.size w3 w4 := Below.trans (by repeat (first | (with_reducible exact Below.refl _ _) | (with_reducible apply Below.drew) | (with_reducible refine below_drewN ?_ _) | (refine Below.setCell ?_ (by simp <;> omega) _) | (refine Below.alloc ?_ (by simp <;> omega) _)) : Below w3.heap.size w3 _) (hb4.mono (Below.size (by repeat (first | (with_reducible exact Below.refl _ _) | (with_reducible apply Below.drew) | (with_reducible refine below_drewN ?_ _) | (refine Below.setCell ?_ (by simp <;> omega) _) | (refine Below.alloc ?_ (by simp <;> omega) _)) : Below w3.heap.size w3 _)))
        have sz4_r : w.heap.size < w4.heap.size := Nat.lt_of_lt_of_le sz3_r hst4.size
        have bx4_r_0 : w4.cell? ⟨w.heap.size, 0, none⟩ = some (.int .i64 r.fN) := (hst4.cell (p := ⟨w.heap.size, 0, none⟩) sz3_r).trans bx3_r_0
        have bx4_r_1 : w4.cell? ⟨w.heap.size, 1, none⟩ = some (.slice a0 r.fRows.length c0_0) := (hst4.cell (p := ⟨w.heap.size, 1, none⟩) sz3_r).trans bx3_r_1
        have sz4_z : w.heap.size + 1 < w4.heap.size := Nat.lt_of_lt_of_le sz3_z hst4.size
        have bx4_z_0 : w4.cell? ⟨w.heap.size + 1, 0, none⟩ = some (.int .i64 0) := (hst4.cell (p := ⟨w.heap.size + 1, 0, none⟩) sz3_z).trans bx3_z_0
        have fz4_z_0 : w4.frozen? ⟨w.heap.size + 1, 0, none⟩ = false := (hst4.frozen (p := ⟨w.heap.size + 1, 0, none⟩) sz3_z).trans fz3_z_0
        have bx4_z_1 : w4.cell? ⟨w.heap.size + 1, 1, none⟩ = some (.slice none 0 0) := (hst4.cell (p := ⟨w.heap.size + 1, 1, none⟩) sz3_z).trans bx3_z_1
        have fz4_z_1 : w4.frozen? ⟨w.heap.size + 1, 1, none⟩ = false := (hst4.frozen (p := ⟨w.heap.size + 1, 1, none⟩) sz3_z).trans fz3_z_1
        have sz4_x : w1.heap.size < w4.heap.size := Nat.lt_of_lt_of_le sz3_x hst4.size
        have bx4_x_0 : w4.cell? ⟨w1.heap.size, 0, none⟩ = some (.int .i64 r.fN) := (hst4.cell (p := ⟨w1.heap.size, 0, none⟩) sz3_x).trans bx3_x_0
        have bx4_x_1 : w4.cell? ⟨w1.heap.size, 1, none⟩ = some (.slice a1 r.fRows.length c1) := (hst4.cell (p := ⟨w1.heap.size, 1, none⟩) sz3_x).trans bx3_x_1
        have HG4 := Lib.hid ((hst4.block (w.heap.size + 1) sz3_z).trans HG3.out)
        have HO4 := Lib.hid (HO3.out.kept (Kept.of_below_all hst4))
        have HB4 := Lib.hid (HB3.out.trans (hst4.mono HB3.out.size))
        have hr4 : w3.heap.size ≤ w4.heap.size := hst4.size
        clear hb4 hst4 bx3_r_0 bx3_r_1 sz3_r bx3_z_0 bx3_z_1 sz3_z fz3_z_0 fz3_z_1 bx3_x_0 bx3_x_1 sz3_x
        obtain ⟨b, off, rfl, hFb, hbl, hcs, hzs⟩ := own_at HO4.out i hil
        have HOB := HO4
        have hFb1 : w.heap.size + 2 ≤ b := hFb.1
        have hFb2 : b < w1.heap.size := hFb.2
        have hrow := hcs i hil
        have hrz := hzs (off + i)
        clear hFb hcs hzs
        generalize hrw : r.fRows.getD i default = row at hrow fin
        have HRW := Lib.hid hrw
        have HFIN := Lib.hid (show addPair r i k = ⟨r.fN, r.fRows.set i (bits BinOp.or IntKind.i64 row q)⟩ from fin.out.trans (by unfold orB; rw [HQ.out]))
        clear hrw
        go_wp2_with fail
        go_region
        all_goals
          go_wp2
          refine bodyPost_ret (v := .agg #[.int .i64 r.fN, .slice (some ⟨b, off, none⟩) r.fRows.length c1]) (results_cell_row Try.results39 _ _ (w.heap.size + 1) 37 #[.int .i64 r.fN, .slice (some ⟨b, off, none⟩) r.fRows.length c1] (0, 0) _ rfl (by refine Eq.trans (blk_set (cs := #[.int .i64 r.fN, .slice none 0 0]) (t := 37) (fr := (0, 0)) ?_) rfl; refine Eq.trans (blk_set (cs := #[.int .i64 0, .slice none 0 0]) (t := 37) (fr := (0, 0)) ?_) rfl; repeat (first | (with_reducible exact HG4.out) | (refine blk_other (by dsimp only; omega) ?_))) Try.underlying37 rfl rfl) rfl ?_
          rw [HFIN.out]
          refine ⟨some ⟨b, off, none⟩, c1, by simp, ?_, ?_⟩
          · refine Own.sub (F := fun y => w.heap.size + 2 ≤ y ∧ y < w1.heap.size) (Own.kept (own_set HOB.out i hil (bits BinOp.or IntKind.i64 row q)) ?_) (fun y hy => ⟨Nat.le_trans (by omega) hy.1, Nat.lt_of_lt_of_le hy.2 (by first | (simp; done) | (simp; omega))⟩)
            repeat (first | (with_reducible exact Kept.refl) | (with_reducible apply Kept.drew) | (with_reducible apply Kept.drewN) | (refine Kept.put ?_ (by intro h; have h1 := h.1; dsimp only at h1; omega)))
          · repeat (first | (with_reducible exact HB4.out) | (with_reducible apply Below.drew) | (with_reducible refine below_drewN ?_ _) | (refine Below.setCell ?_ (by simp <;> omega) _) | (refine Below.alloc ?_ (by simp <;> omega) _))

end Go.Proofs.Ytfdilfhmcfggfaa

namespace Go.Proofs.Ytfdilfhmcfggfaa
open Go.ChangeShapes Go.WideShapes Go.ChangeAt Go.RowKit Go.Deep


theorem okI_wrapS (x : Int) : okI (IntKind.i64.wrap x) := by
  unfold okI
  rw [IntKind.wrap_i64]
  omega
theorem orB_okS (x : Int) (k : Nat) : okI (orB x k) := by
  unfold orB bits
  exact okI_wrapS _
/-- What a relation is while pairs are added: small, its rows numbers. -/
structure RelS (r : DRelation) : Prop where
  n0 : 0 ≤ r.fN
  n1 : r.fN ≤ 16
  len : r.fRows.length ≤ 16
  rows : okL okI r.fRows
theorem RelS.ok {r : DRelation} (h : RelS r) : r.ok := ⟨⟨by have := h.n0; omega, by have := h.n1; omega⟩, h.rows⟩
theorem RelS.sz {r : DRelation} (h : RelS r) : r.sz ≤ 1048576 := by
  unfold DRelation.sz
  rw [lsz_zero]
  have := h.len
  omega
theorem RelS.add {r : DRelation} (h : RelS r) (i k : Int) : RelS (addPair r i k) := by
  refine ⟨?_, ?_, by rw [addPair_len]; exact h.len, ?_⟩
  · unfold addPair; split <;> exact h.n0
  · unfold addPair; split <;> exact h.n1
  · unfold addPair
    split
    · refine ⟨by rw [List.length_set]; exact h.rows.1, fun x hx => ?_⟩
      rcases List.mem_or_eq_of_mem_set hx with h1 | h1
      · exact h.rows.2 x h1
      · rw [h1]; exact orB_okS _ _
    · exact h.rows
theorem RelS.empty (n : Int) : RelS (emptyRel n) := by
  unfold emptyRel
  split
  · refine ⟨by dsimp only; omega, by dsimp only; omega, by simp; omega, by simp; omega, fun x hx => ?_⟩
    rw [List.eq_of_mem_replicate hx]
    exact ⟨by decide, by decide⟩
  · exact ⟨by decide, by decide, by decide, by decide, fun x hx => by simp at hx⟩
/-- Whether the pair of attributes i, k belongs to the summary. -/
def sumB (A : List DAttribute) (c : DRelation) (i k : Nat) : Bool := decide ((A.getD i default).fMode = 1) && (decide ((A.getD k default).fMode = 2) && hasPair c i k)
def sumI (A : List DAttribute) (c R : DRelation) (i : Nat) : Nat → DRelation
  | 0 => R
  | k + 1 => if sumB A c i k = true then addPair (sumI A c R i k) i k else sumI A c R i k
def sumO (A : List DAttribute) (c : DRelation) : Nat → DRelation
  | 0 => emptyRel A.length
  | i + 1 => sumI A c (sumO A c i) i A.length
theorem sumI_yes {A : List DAttribute} {c R : DRelation} {i k : Nat} (h : sumB A c i k = true) : sumI A c R i (k + 1) = addPair (sumI A c R i k) i k := if_pos h
theorem sumI_no {A : List DAttribute} {c R : DRelation} {i k : Nat} (h : sumB A c i k = false) : sumI A c R i (k + 1) = sumI A c R i k := if_neg (by rw [h]; decide)
theorem sumI_small {A : List DAttribute} {c R : DRelation} {i : Nat} (h : RelS R) : ∀ k, RelS (sumI A c R i k)
  | 0 => h
  | k + 1 => by
    have ih := sumI_small (A := A) (c := c) (i := i) h k
    show RelS (if sumB A c i k = true then addPair (sumI A c R i k) i k else sumI A c R i k)
    split
    · exact ih.add _ _
    · exact ih
theorem sumO_small (A : List DAttribute) (c : DRelation) : ∀ i, RelS (sumO A c i)
  | 0 => RelS.empty _
  | i + 1 => sumI_small (sumO_small A c i) _
/-- The summary of a rule. -/
def summ (g : DGrammar) (x : DRule) (c : DRelation) : DRelation := sumO (plainS g x.fLeft) c (plainS g x.fLeft).length
theorem summ_small (g : DGrammar) (x : DRule) (c : DRelation) : RelS (summ g x c) := sumO_small _ _ _
theorem sumB_no1 {A : List DAttribute} {c : DRelation} {i k : Nat} (h : (A.getD i default).fMode ≠ 1) : sumB A c i k = false := by unfold sumB; rw [decide_eq_false h]; rfl
theorem sumB_no2 {A : List DAttribute} {c : DRelation} {i k : Nat} (h : (A.getD k default).fMode ≠ 2) : sumB A c i k = false := by unfold sumB; rw [decide_eq_false h]; cases decide ((A.getD i default).fMode = 1) <;> rfl
theorem sumB_at {A : List DAttribute} {c : DRelation} {i k : Nat} (h1 : (A.getD i default).fMode = 1) (h2 : (A.getD k default).fMode = 2) : sumB A c i k = hasPair c i k := by unfold sumB; rw [decide_eq_true h1, decide_eq_true h2]; rfl
/-- The occurrences at position 0 come first: their indices are those of the attributes of Left. -/
theorem ixP_zero {p : Int} : ∀ {l : List DOccurrence} {k n : Nat}, n ≤ k → (∀ i, i < k → ((l.getD i default).fPos = p ↔ i < n)) → ixP p l k = (List.range n).map fun (i : Nat) => (i : Int)
  | l, 0, n, hn, _ => by obtain rfl : n = 0 := by omega
                         rfl
  | l, k + 1, n, hn, h => by
    by_cases e : n = k + 1
    · subst e
      have ih := ixP_zero (p := p) (l := l) (k := k) (n := k) (Nat.le_refl _) fun i hi => ⟨fun _ => hi, fun _ => (h i (by omega)).2 (by omega)⟩
      rw [ixP_yes ((h k (by omega)).2 (by omega)), ih, List.range_succ, List.map_append]
      rfl
    · have ih := ixP_zero (p := p) (l := l) (k := k) (n := n) (by omega) fun i hi => h i (by omega)
      rw [ixP_no (fun e2 => by have := (h k (by omega)).1 e2; omega), ih]
theorem catL_pos {f : Nat → List DOccurrence} (hf : ∀ k, ∀ o ∈ f k, o.fPos = (k : Int)) : ∀ (k : Nat) (i : Nat), i < (catL f k).length → (((catL f k).getD i default).fPos = 0 ↔ i < (f 0).length) ∨ k = 0
  | 0, i, h => .inr rfl
  | k + 1, i, h => by
    left
    have hlen : (catL f (k + 1)).length = (catL f k).length + (f k).length := List.length_append
    rcases Nat.lt_or_ge i (catL f k).length with hi | hi
    · have e : (catL f (k + 1)).getD i default = (catL f k).getD i default := by
        show (catL f k ++ f k).getD i default = _
        rw [List.getD_eq_getElem?_getD, List.getElem?_append_left hi, List.getD_eq_getElem?_getD]
      rw [e]
      rcases catL_pos hf k i hi with h1 | h1
      · exact h1
      · subst h1; exact absurd hi (Nat.not_lt_zero _)
    · have e : (catL f (k + 1)).getD i default = (f k).getD (i - (catL f k).length) default := by
        show (catL f k ++ f k).getD i default = _
        rw [List.getD_eq_getElem?_getD, List.getElem?_append_right hi, List.getD_eq_getElem?_getD]
      have hlt : i - (catL f k).length < (f k).length := by omega
      have hm : (f k).getD (i - (catL f k).length) default ∈ f k := by rw [List.getD_eq_getElem?_getD, List.getElem?_eq_getElem hlt]; exact List.getElem_mem hlt
      rw [e, hf k _ hm]
      rcases Nat.eq_zero_or_pos k with hk | hk
      · subst hk
        have : (catL f 0).length = 0 := rfl
        constructor
        · intro _; omega
        · intro _; rfl
      · constructor
        · intro h0; omega
        · intro h0
          have h1 : (f 0).length ≤ (catL f k).length := by
            clear e hm hlt hi h hlen
            induction k with
            | zero => omega
            | succ q ih =>
              have e2 : (catL f (q + 1)).length = (catL f q).length + (f q).length := List.length_append
              rcases Nat.eq_zero_or_pos q with hq | hq
              · subst hq; rw [e2]; omega
              · have := ih hq; omega
          omega
theorem posIx_zero (g : DGrammar) (x : DRule) : posIx g x 0 = (List.range (plainS g x.fLeft).length).map fun (i : Nat) => (i : Int) := by
  have hpos : ∀ k, ∀ o ∈ occAt g x k, o.fPos = (k : Int) := fun k o ho => by
    unfold occAt occP at ho
    obtain ⟨a, _, rfl⟩ := List.mem_map.1 ho
    rfl
  have h0 : (occAt g x 0).length = (plainS g x.fLeft).length := by unfold occAt; rw [occP_len]; rfl
  unfold posIx occsOf
  refine ixP_zero ?_ fun i hi => ?_
  · rw [← h0]
    have : ∀ k, (occAt g x 0).length ≤ (catL (occAt g x) (k + 1)).length := fun k => by
      induction k with
      | zero => show _ ≤ ([] ++ occAt g x 0).length; simp
      | succ q ih => show _ ≤ (catL (occAt g x) (q + 1) ++ occAt g x (q + 1)).length; rw [List.length_append]; omega
    exact this _
  · rcases catL_pos hpos (x.fRight.length + 1) i hi with h1 | h1
    · rw [h1, h0]
    · omega
/-- The relation R, in the variable in block C, its rows in blocks of the call's own; since the world wb of the old blocks that one alone was written. -/
def SumSt (B C : Nat) (T : TypeId) (wb : World) (R : DRelation) (wr : World) : Prop :=
  ∃ a q, Own wr (fun y => B ≤ y ∧ y < wr.heap.size ∧ y ≠ C) (.sl 1 R.fRows.length (fun k => ictI (R.fRows.getD k default))) (.slice a R.fRows.length q) ∧ wr.heap[C]? = some (.cells #[.int .i64 R.fN, .slice a R.fRows.length q] T) ∧ Writes C wb wr
theorem SumSt.later {B C : Nat} {T : TypeId} {wb wr w' : World} {R : DRelation} (h : SumSt B C T wb R wr) (hb : Below wr.heap.size wr w') (hC : C < wr.heap.size) : SumSt B C T wb R w' := by
  obtain ⟨a, q, h1, h2, h3⟩ := h
  exact ⟨a, q, (h1.kept (Kept.of_below_all hb)).sub fun y hy => ⟨hy.1, Nat.lt_of_lt_of_le hy.2.1 hb.size, hy.2.2⟩, (hb.block C hC).trans h2, h3.later hb⟩
theorem SumSt.rebase {B C : Nat} {T : TypeId} {wb wr : World} {R : DRelation} (h : SumSt B C T wb R wr) : SumSt B C T wr R wr := by
  obtain ⟨a, q, h1, h2, _⟩ := h
  exact ⟨a, q, h1, h2, Writes.refl _ _⟩
theorem SumSt.trans {B C : Nat} {T : TypeId} {wa wb wr : World} {R : DRelation} (hw : Writes C wa wb) (h : SumSt B C T wb R wr) : SumSt B C T wa R wr := by
  obtain ⟨a, q, h1, h2, h3⟩ := h
  exact ⟨a, q, h1, h2, hw.trans h3⟩
theorem SumSt.writes {B C : Nat} {T : TypeId} {wb wr : World} {R : DRelation} (h : SumSt B C T wb R wr) : Writes C wb wr := h.choose_spec.choose_spec.2.2
theorem SumSt.put {B C : Nat} {T : TypeId} {wb w4 w5 : World} {R R' : DRelation} {a : Option Addr} {q : Nat} (h : SumSt B C T wb R w4) (hb : Below w4.heap.size w4 w5) (hC : C < w4.heap.size) (hB : B ≤ w4.heap.size)
    (ho : Own w5 (fun y => w4.heap.size ≤ y ∧ y < w5.heap.size) (.sl 1 R'.fRows.length (fun k => ictI (R'.fRows.getD k default))) (.slice a R'.fRows.length q)) :
    SumSt B C T wb R' ((w5.setCell ⟨C, 0, none⟩ (.int .i64 R'.fN)).setCell ⟨C, 1, none⟩ (.slice a R'.fRows.length q)) := by
  obtain ⟨a0, q0, _, h2, h3⟩ := h
  have hblk := (hb.block C hC).trans h2
  refine ⟨a, q, ?_, ?_, (((h3.later hb).setCell _ _).setCell _ _)⟩
  · refine ((ho.kept ((Kept.refl.put ?_).put ?_)).sub fun y hy => ⟨by omega, by simp [World.setCell]; exact hy.2, by omega⟩)
    · intro h; have := h.1; dsimp only at this; omega
    · intro h; have := h.1; dsimp only at this; omega
  · exact pblk_put (pblk_put hblk rfl) rfl

end Go.Proofs.Ytfdilfhmcfggfaa

namespace Go.Proofs.Ytfdilfhmcfggfaa
open Go.ChangeShapes Go.WideShapes Go.ChangeAt Go.RowKit Go.Deep


set_option maxHeartbeats 25600000 in
set_option maxRecDepth 100000 in
theorem spec_SummaryOf {lo hi : Nat} {a0 a1 b2 b4 b5 d1 : Option Addr} {c0_0 c0_1 c1_0 c1_1 c1_2 c2_0 : Nat} (g : DGrammar) (okg : g.ok) (hszg : g.sz ≤ 1048576) (x : DRule) (_ : x.ok) (hszx : x.sz ≤ 1048576) (c : DRelation) (okc : c.ok) (hszc : c.sz ≤ 1048576) (w : World) (hhi : hi ≤ w.heap.size) (hs0 : Sl lo hi w 2 g.fSymbols.length (fun k => DSymbol.ct (g.fSymbols.getD k default)) a0) (hs1 : Sl lo hi w 6 g.fRules.length (fun k => DRule.ct (g.fRules.getD k default)) a1) (_ : Sl lo hi w 1 x.fRight.length (fun k => ictS (x.fRight.getD k default)) b2) (_ : Sl lo hi w 9 x.fEquations.length (fun k => DEquation.ct (x.fEquations.getD k default)) b4) (_ : Sl lo hi w 16 x.fContributions.length (fun k => DContribution.ct (x.fContributions.getD k default)) b5) (hs6 : Sl lo hi w 1 c.fRows.length (fun k => ictI (c.fRows.getD k default)) d1) :
    Calls Try.prog 7 #[.agg #[.slice a0 g.fSymbols.length c0_0, .slice a1 g.fRules.length c0_1], .agg #[.string x.fName, .string x.fLeft, .slice b2 x.fRight.length c1_0, .bool x.fLiteral, .slice b4 x.fEquations.length c1_1, .slice b5 x.fContributions.length c1_2], .agg #[.int .i64 c.fN, .slice d1 c.fRows.length c2_0]] w (RelOut (summ g x c) w) := by
  have HB := Lib.hid (((((Below.refl w.heap.size w).alloc (Nat.le_refl _) (.cells #[.slice a0 g.fSymbols.length c0_0, .slice a1 g.fRules.length c0_1] 42)).alloc (by simp) (.cells #[.string x.fName, .string x.fLeft, .slice b2 x.fRight.length c1_0, .bool x.fLiteral, .slice b4 x.fEquations.length c1_1, .slice b5 x.fContributions.length c1_2] 47)).alloc (by simp <;> omega) (.cells #[.int .i64 c.fN, .slice d1 c.fRows.length c2_0] 37)).alloc (by simp <;> omega) (.cells #[.int .i64 0, .slice none 0 0] 37))
  have HHI := Lib.hid hhi
  have HNL := Lib.hid (show x.fLeft.size ≤ 1048576 from by unfold DRule.sz at hszx; omega)
  have HAL := Lib.hid (plainS_len1 hszg x.fLeft)
  have HPA := Lib.hid (fun (W : World) (hW : Below w.heap.size w W) => spec_PlainAttributes (c0_0 := c0_0) (c0_1 := c0_1) g okg hszg x.fLeft (by have := HNL.out; unfold okS; omega) HNL.out W (Nat.le_trans hhi hW.size) (hs0.later hW hhi) (hs1.later hW hhi))
  have HHP := Lib.hid (fun (i k : Nat) (hi : i ≤ 1048576) (hk : k ≤ 1048576) (W : World) (hW : Below w.heap.size w W) => spec_HasPair (c0_0 := c2_0) c okc hszc (i : Int) (by unfold okI; omega) (k : Int) (by unfold okI; omega) W (Nat.le_trans hhi hW.size) (hs6.later hW hhi))
  have HRES := Lib.hid (show summ g x c = sumO (plainS g x.fLeft) c (plainS g x.fLeft).length from rfl)
  have HIX := Lib.hid (posIx_zero g x)
  have HCG := Lib.hid (show ((((w.alloc (.cells #[.slice a0 g.fSymbols.length c0_0, .slice a1 g.fRules.length c0_1] 42)).alloc (.cells #[.string x.fName, .string x.fLeft, .slice b2 x.fRight.length c1_0, .bool x.fLiteral, .slice b4 x.fEquations.length c1_1, .slice b5 x.fContributions.length c1_2] 47)).alloc (.cells #[.int .i64 c.fN, .slice d1 c.fRows.length c2_0] 37)).alloc (.cells #[.int .i64 0, .slice none 0 0] 37)).heap[w.heap.size]? = some (.cells #[.slice a0 g.fSymbols.length c0_0, .slice a1 g.fRules.length c0_1] 42) from blk_alloc (by simp <;> omega) (blk_alloc (by simp <;> omega) (blk_alloc (by simp) (blk_new rfl))))
  have HCR := Lib.hid (show ((((w.alloc (.cells #[.slice a0 g.fSymbols.length c0_0, .slice a1 g.fRules.length c0_1] 42)).alloc (.cells #[.string x.fName, .string x.fLeft, .slice b2 x.fRight.length c1_0, .bool x.fLiteral, .slice b4 x.fEquations.length c1_1, .slice b5 x.fContributions.length c1_2] 47)).alloc (.cells #[.int .i64 c.fN, .slice d1 c.fRows.length c2_0] 37)).alloc (.cells #[.int .i64 0, .slice none 0 0] 37)).heap[w.heap.size + 1]? = some (.cells #[.string x.fName, .string x.fLeft, .slice b2 x.fRight.length c1_0, .bool x.fLiteral, .slice b4 x.fEquations.length c1_1, .slice b5 x.fContributions.length c1_2] 47) from blk_alloc (by simp <;> omega) (blk_alloc (by simp <;> omega) (blk_new (by simp))))
  have HCC := Lib.hid (show ((((w.alloc (.cells #[.slice a0 g.fSymbols.length c0_0, .slice a1 g.fRules.length c0_1] 42)).alloc (.cells #[.string x.fName, .string x.fLeft, .slice b2 x.fRight.length c1_0, .bool x.fLiteral, .slice b4 x.fEquations.length c1_1, .slice b5 x.fContributions.length c1_2] 47)).alloc (.cells #[.int .i64 c.fN, .slice d1 c.fRows.length c2_0] 37)).alloc (.cells #[.int .i64 0, .slice none 0 0] 37)).heap[w.heap.size + 2]? = some (.cells #[.int .i64 c.fN, .slice d1 c.fRows.length c2_0] 37) from blk_alloc (by simp <;> omega) (blk_new (by simp)))
  have HCZ := Lib.hid (show ((((w.alloc (.cells #[.slice a0 g.fSymbols.length c0_0, .slice a1 g.fRules.length c0_1] 42)).alloc (.cells #[.string x.fName, .string x.fLeft, .slice b2 x.fRight.length c1_0, .bool x.fLiteral, .slice b4 x.fEquations.length c1_1, .slice b5 x.fContributions.length c1_2] 47)).alloc (.cells #[.int .i64 c.fN, .slice d1 c.fRows.length c2_0] 37)).alloc (.cells #[.int .i64 0, .slice none 0 0] 37)).heap[w.heap.size + 3]? = some (.cells #[.int .i64 0, .slice none 0 0] 37) from blk_new (by simp))
  have HZ0 := Lib.hid (show ((((w.alloc (.cells #[.slice a0 g.fSymbols.length c0_0, .slice a1 g.fRules.length c0_1] 42)).alloc (.cells #[.string x.fName, .string x.fLeft, .slice b2 x.fRight.length c1_0, .bool x.fLiteral, .slice b4 x.fEquations.length c1_1, .slice b5 x.fContributions.length c1_2] 47)).alloc (.cells #[.int .i64 c.fN, .slice d1 c.fRows.length c2_0] 37)).alloc (.cells #[.int .i64 0, .slice none 0 0] 37)).heap.size = w.heap.size + 4 by simp)
  clear hs0 hs1 hs6 hhi hszx hszg okg okc hszc
  go_enter Try.func7, Try.ntmps7
  go_wp2_with fail
  refine (HPA.out _ HB.out).mono ?_
  rintro e w1 ⟨a9, c9, rfl, ho9, hb1⟩
  have hsz1 : w.heap.size + 4 ≤ w1.heap.size := by have := hb1.size; rw [HZ0.out] at this; exact this
  have HSA := Lib.hid (show Sl (w.heap.size + 4) w1.heap.size w1 4 (plainS g x.fLeft).length (fun k => DAttribute.ct ((plainS g x.fLeft).getD k default)) a9 from Sl.of (ho9.lies fun y hy => ⟨by have := hy.1; rw [HZ0.out] at this; exact this, hy.2⟩))
  have HBW := Lib.hid hb1
  clear ho9 hb1 HIX
  have HCG1 := Lib.hid ((HBW.out.block w.heap.size (by rw [HZ0.out]; omega)).trans HCG.out)
  have HCC1 := Lib.hid ((HBW.out.block (w.heap.size + 2) (by rw [HZ0.out]; omega)).trans HCC.out)
  have HCZ1 := Lib.hid ((HBW.out.block (w.heap.size + 3) (by rw [HZ0.out]; omega)).trans HCZ.out)
  have HB1 := Lib.hid (HB.out.trans (HBW.out.mono HB.out.size))
  generalize hA : plainS g x.fLeft = A at *
  clear hA
  have hnA := HAL.out
  have HSO := Lib.hid (sumO_small A c)
  have HSI := Lib.hid (fun (R : DRelation) (h : RelS R) (i t : Nat) => sumI_small (A := A) (c := c) (i := i) h t)
  go_wp2_with fail
  refine (spec_EmptyRelation (A.length : Int) (by unfold okI; omega) _).mono ?_
  rintro e w2 ⟨a3, c3, rfl, ho3, hb2⟩
  have HB2 := Lib.hid hb2
  have HST := Lib.hid (show SumSt w1.heap.size w2.heap.size 37 (w2.alloc (.cells #[.int .i64 (emptyRel (A.length : Int)).fN, .slice a3 (emptyRel (A.length : Int)).fRows.length c3] 37)) (sumO A c 0) (w2.alloc (.cells #[.int .i64 (emptyRel (A.length : Int)).fN, .slice a3 (emptyRel (A.length : Int)).fRows.length c3] 37)) from
    ⟨a3, c3, (ho3.kept (Kept.of_below_all ((Below.refl w2.heap.size w2).alloc (Nat.le_refl _) _))).sub fun y hy => ⟨hy.1, by simp; omega, by omega⟩, blk_new rfl, Writes.refl _ _⟩)
  have HW3 := Lib.hid ((Below.refl w2.heap.size w2).alloc (Nat.le_refl _) (.cells #[.int .i64 (emptyRel (A.length : Int)).fN, .slice a3 (emptyRel (A.length : Int)).fRows.length c3] 37))
  have HZ3 := Lib.hid (show (w2.alloc (.cells #[.int .i64 (emptyRel (A.length : Int)).fN, .slice a3 (emptyRel (A.length : Int)).fRows.length c3] 37)).heap.size = w2.heap.size + 1 by simp)
  have hsz2 := hb2.size
  clear ho3 hb2
  go_wp2
  go_loopw [9] (fun i wr => ∃ j : Nat, j ≤ A.length ∧ i = .int .i64 (j : Int) ∧ SumSt w1.heap.size w2.heap.size 37 (w2.alloc (.cells #[.int .i64 (emptyRel (A.length : Int)).fN, .slice a3 (emptyRel (A.length : Int)).fRows.length c3] 37)) (sumO A c j) wr) (fun i _ => A.length - (intOf i).toNat)
  case atStart => exact ⟨0, Nat.zero_le _, rfl, HST.out⟩
  case round =>
    obtain ⟨j, hj, rfl, hst⟩ := hrel
    obtain ⟨wq, rfl⟩ : ∃ wq : World, wq = wr := ⟨_, rfl⟩
    have HSJ := Lib.hid hst
    have HWJ := Lib.hid hst.writes
    have hszj : w2.heap.size + 1 ≤ wq.heap.size := by have := hst.writes.size; rw [HZ3.out] at this; exact this
    have HBLK := Lib.hid (fun (k : Nat) (hk : k < w2.heap.size) => (HWJ.out.block k (by rw [HZ3.out]; omega) (Nat.ne_of_lt hk)).trans (HW3.out.block k hk))
    clear hst
    by_cases hlt : j < A.length
    · have hjI : (0 : Int) ≤ (j : Int) ∧ (j : Int) < (A.length : Int) := by omega
      have HSAQ := Lib.hid (fun (W : World) (hW : ∀ k, k < w1.heap.size → W.heap[k]? = w1.heap[k]?) => HSA.out.frame (w' := W) fun b off _ h2 => World.cell?_of_block (a := ⟨b, off, none⟩) (hW b h2))
      have HW1 := Lib.hid (fun (k : Nat) (hk : k < w1.heap.size) => (HBLK.out k (Nat.lt_of_lt_of_le hk hsz2)).trans (HB2.out.block k hk))
      obtain ⟨b, off, rfl, _, hbh, hdj⟩ := (HSAQ.out wq HW1.out).at j hlt
      obtain ⟨jn_, jt_, jm_, jc_⟩ := DAttribute.open hdj
      have hbq : b < wq.heap.size := by omega
      have HNEXT := Lib.hid (show sumO A c (j + 1) = sumI A c (sumO A c j) j A.length from rfl)
      have HSR := Lib.hid (HSO.out j)
      obtain ⟨aj, haj⟩ : ∃ aj : DAttribute, aj = A.getD j default := ⟨_, rfl⟩
      rw [← haj] at jn_ jt_ jm_ jc_
      have HAJ := Lib.hid haj
      clear hdj haj
      have HSJB := Lib.hid HSJ.out.rebase
      generalize sumO A c j = R0 at *
      go_wp2
      go_loopw [10] (fun i wr => ∃ t : Nat, t ≤ A.length ∧ i = .int .i64 (t : Int) ∧ SumSt w1.heap.size w2.heap.size 37 wq (sumI A c R0 j t) wr) (fun i _ => A.length - (intOf i).toNat)
      case atStart => exact ⟨0, Nat.zero_le _, rfl, HSJB.out⟩
      case round =>
        obtain ⟨t, ht, rfl, hst⟩ := hrel
        obtain ⟨wv, rfl⟩ : ∃ wv : World, wv = wr := ⟨_, rfl⟩
        have HSV := Lib.hid hst
        have HWV := Lib.hid hst.writes
        have hszv : w2.heap.size + 1 ≤ wv.heap.size := Nat.le_trans hszj (Nat.le_trans (Nat.le_refl _) hst.writes.size)
        have HBV := Lib.hid (fun (k : Nat) (hk : k < w2.heap.size) => (HWV.out.block k (Nat.lt_of_lt_of_le (show k < wq.heap.size by omega) (Nat.le_refl _)) (Nat.ne_of_lt hk)).trans (HBLK.out k hk))
        have HW1V := Lib.hid (fun (k : Nat) (hk : k < w1.heap.size) => (HBV.out k (Nat.lt_of_lt_of_le hk hsz2)).trans (HB2.out.block k hk))
        have HBELOW := Lib.hid (show Below w.heap.size w wv from ⟨(HWV.out.os.trans (HWJ.out).os).trans (HB1.out.trans (HB2.out.mono (by omega))).os, (HWV.out.tape.trans (HWJ.out).tape).trans (HB1.out.trans (HB2.out.mono (by omega))).tape, (HWV.out.output.trans (HWJ.out).output).trans (HB1.out.trans (HB2.out.mono (by omega))).output, by omega, fun k hk => (HBV.out k (by omega)).trans ((HB1.out.trans (HB2.out.mono (by omega))).block k hk)⟩)
        clear hst
        by_cases hlt2 : t < A.length
        · have htI : (0 : Int) ≤ (t : Int) ∧ (t : Int) < (A.length : Int) := by omega
          obtain ⟨b', off', e1, _, _, hdt⟩ := (HSAQ.out wv HW1V.out).at t hlt2
          obtain ⟨b2, off2, e2, _, _, hdj⟩ := (HSAQ.out wv HW1V.out).at j hlt
          simp only [Option.some.injEq, Addr.mk.injEq, and_true] at e1 e2
          obtain ⟨rfl, rfl⟩ := e1
          obtain ⟨rfl, rfl⟩ := e2
          obtain ⟨tn_, tt_, tm_, tc_⟩ := DAttribute.open hdt
          obtain ⟨kn_, kt_, km_, kc_⟩ := DAttribute.open hdj
          rw [← HAJ.out] at kn_ kt_ km_ kc_
          have hbv : b < wv.heap.size := by omega
          have HCCV := Lib.hid ((HBV.out (w.heap.size + 2) (by omega)).trans ((HB2.out.block (w.heap.size + 2) (by omega)).trans HCC1.out))
          have cc0 : wv.cell? ⟨w.heap.size + 2, 0, none⟩ = some (.int .i64 c.fN) := pblk_cell (j := 0) (v := .int .i64 c.fN) HCCV.out rfl
          have cc1 : wv.cell? ⟨w.heap.size + 2, 1, none⟩ = some (.slice d1 c.fRows.length c2_0) := pblk_cell (j := 1) (v := .slice d1 c.fRows.length c2_0) HCCV.out rfl
          have hk2 : w.heap.size + 2 < wv.heap.size := by omega
          have HN1 := Lib.hid (fun (h : (A.getD j default).fMode ≠ 1) => sumI_no (R := R0) (sumB_no1 (A := A) (c := c) (i := j) (k := t) h))
          have HN2 := Lib.hid (fun (h : (A.getD t default).fMode ≠ 2) => sumI_no (R := R0) (sumB_no2 (A := A) (c := c) (i := j) (k := t) h))
          have HYN := Lib.hid (fun (h1 : (A.getD j default).fMode = 1) (h2 : (A.getD t default).fMode = 2) (h : hasPair c (j : Int) (t : Int) = false) => sumI_no (R := R0) ((sumB_at (A := A) (c := c) (i := j) (k := t) h1 h2).trans h))
          have HYY := Lib.hid (fun (h1 : (A.getD j default).fMode = 1) (h2 : (A.getD t default).fMode = 2) (h : hasPair c (j : Int) (t : Int) = true) => sumI_yes (R := R0) ((sumB_at (A := A) (c := c) (i := j) (k := t) h1 h2).trans h))
          have HPR := Lib.hid (HHP.out j t (by omega) (by omega))
          have HRS := Lib.hid (HSI.out R0 HSR.out j t)
          generalize sumI A c R0 j t = R at *
          rw [← HAJ.out] at HN1 HYN HYY
          generalize A.getD t default = at_ at *
          clear hdt hdj
          by_cases m1 : aj.fMode = 1
          · by_cases m2 : at_.fMode = 2
            · rw [m1] at km_
              rw [m2] at tm_
              have HYN1 := Lib.hid (HYN.out m1 m2)
              have HYY1 := Lib.hid (HYY.out m1 m2)
              clear HN1 HN2 HYN HYY m1 m2 jm_ jn_ jt_ jc_
              go_wp2_with fail
              refine (HPR.out _ HBELOW.out).mono ?_
              rintro e w4 ⟨rfl, hb4⟩
              have HSW := Lib.hid (HSV.out.later hb4 (by omega))
              have hsz4 := hb4.size
              clear hb4
              cases hpb : hasPair c (j : Int) (t : Int)
              · have HEQ := Lib.hid (HYN1.out hpb)
                clear HYN1 HYY1 hpb
                go_wp2
                go_roundw
                case rel => exact ⟨t + 1, by omega, by go_num, by rw [HEQ.out]; exact HSW.out⟩
                case measure => simp [intOf]; omega
              · have HEQ := Lib.hid (HYY1.out hpb)
                clear HYN1 HYY1 hpb
                obtain ⟨a5, q5, ho5, hc5, -⟩ := HSW.out
                have r0 : w4.cell? ⟨w2.heap.size, 0, none⟩ = some (.int .i64 R.fN) := pblk_cell (j := 0) hc5 rfl
                have r1 : w4.cell? ⟨w2.heap.size, 1, none⟩ = some (.slice a5 R.fRows.length q5) := pblk_cell (j := 1) hc5 rfl
                have HS5 := Lib.hid (Sl.of (ho5.lies fun y hy => (⟨Nat.zero_le _, hy.2.1⟩ : 0 ≤ y ∧ y < w4.heap.size)))
                have hwC : w2.heap.size < w4.heap.size := by omega
                clear ho5 hc5
                go_wp2_with fail
                refine (spec_AddPair (c0_0 := q5) R HRS.out.ok HRS.out.sz (j : Int) (by unfold okI; omega) (t : Int) (by unfold okI; omega) _ (Nat.le_refl _) HS5.out).mono ?_
                rintro e w6 ⟨a6, q6, rfl, ho6, hb6⟩
                have s0 := (hb6.cell (p := ⟨w2.heap.size, 0, none⟩) hwC).trans r0
                have s1 := (hb6.cell (p := ⟨w2.heap.size, 1, none⟩) hwC).trans r1
                have HPUT := Lib.hid (HSW.out.put hb6 hwC (by omega) ho6)
                have hf0 : w6.frozen? ⟨w2.heap.size, 0, none⟩ = false := (hb6.frozen (p := ⟨w2.heap.size, 0, none⟩) hwC).trans (pblk_frozen (j := 0) HSW.out.choose_spec.choose_spec.2.1)
                have hf1 : w6.frozen? ⟨w2.heap.size, 1, none⟩ = false := (hb6.frozen (p := ⟨w2.heap.size, 1, none⟩) hwC).trans (pblk_frozen (j := 1) HSW.out.choose_spec.choose_spec.2.1)
                have hszw6 := hb6.size
                have hw6C : w2.heap.size < w6.heap.size := by omega
                clear ho6 hb6 r0 r1
                go_wp2
                go_roundw
                case rel => exact ⟨t + 1, by omega, by go_num, by rw [HEQ.out]; exact HPUT.out⟩
                case measure => simp [intOf]; omega
            · have HEQ := Lib.hid (HN2.out m2)
              have hm : (at_.fMode == 2) = false := by simpa using m2
              rw [m1] at km_
              clear HN1 HN2 HYN HYY m1 m2 jm_ jn_ jt_ jc_
              go_wp2
              go_roundw
              case rel => exact ⟨t + 1, by omega, by go_num, by rw [HEQ.out]; exact HSV.out⟩
              case measure => simp [intOf]; omega
          · have HEQ := Lib.hid (HN1.out m1)
            have hm : (aj.fMode == 1) = false := by simpa using m1
            clear HN1 HN2 HYN HYY m1 jm_ jn_ jt_ jc_
            go_wp2
            go_roundw
            case rel => exact ⟨t + 1, by omega, by go_num, by rw [HEQ.out]; exact HSV.out⟩
            case measure => simp [intOf]; omega
        · obtain rfl : t = A.length := by omega
          have HOF := Lib.hid (show SumSt w1.heap.size w2.heap.size 37 (w2.alloc (.cells #[.int .i64 (emptyRel (A.length : Int)).fN, .slice a3 (emptyRel (A.length : Int)).fRows.length c3] 37)) (sumO A c (j + 1)) wv from by rw [HNEXT.out]; exact HSV.out.trans (HWJ.out))
          go_wp2
          go_roundw
          case rel => exact ⟨j + 1, by omega, by go_num, HOF.out⟩
          case measure => simp [intOf]; omega
    · obtain rfl : j = A.length := by omega
      obtain ⟨a5, q5, ho5, hc5, -⟩ := HSJ.out
      have HZR := Lib.hid ((HBLK.out (w.heap.size + 3) (by omega)).trans ((HB2.out.block (w.heap.size + 3) (by omega)).trans HCZ1.out))
      have z0 := pblk_cell (j := 0) (v := .int .i64 0) HZR.out rfl
      have z1 := pblk_cell (j := 1) (v := .slice none 0 0) HZR.out rfl
      have y0 := pblk_frozen (j := 0) HZR.out
      have y1 := pblk_frozen (j := 1) HZR.out
      have r0 : wq.cell? ⟨w2.heap.size, 0, none⟩ = some (.int .i64 (sumO A c A.length).fN) := pblk_cell (j := 0) hc5 rfl
      have r1 : wq.cell? ⟨w2.heap.size, 1, none⟩ = some (.slice a5 (sumO A c A.length).fRows.length q5) := pblk_cell (j := 1) hc5 rfl
      have hk3 : w.heap.size + 3 < wq.heap.size := by omega
      have hwC : w2.heap.size < wq.heap.size := by omega
      have HBF := Lib.hid (show Below w.heap.size w wq from ⟨HWJ.out.os.trans (HB1.out.trans (HB2.out.mono (by omega))).os, HWJ.out.tape.trans (HB1.out.trans (HB2.out.mono (by omega))).tape, HWJ.out.output.trans (HB1.out.trans (HB2.out.mono (by omega))).output, by omega, fun k hk => (HBLK.out k (by omega)).trans ((HB1.out.trans (HB2.out.mono (by omega))).block k hk)⟩)
      have HOK := Lib.hid (show Own ((wq.setCell ⟨w.heap.size + 3, 0, none⟩ (.int .i64 (sumO A c A.length).fN)).setCell ⟨w.heap.size + 3, 1, none⟩ (.slice a5 (sumO A c A.length).fRows.length q5)) (fun y => w.heap.size ≤ y ∧ y < ((wq.setCell ⟨w.heap.size + 3, 0, none⟩ (.int .i64 (sumO A c A.length).fN)).setCell ⟨w.heap.size + 3, 1, none⟩ (.slice a5 (sumO A c A.length).fRows.length q5)).heap.size) (.sl 1 (sumO A c A.length).fRows.length (fun k => ictI ((sumO A c A.length).fRows.getD k default))) (.slice a5 (sumO A c A.length).fRows.length q5) from
        (ho5.kept ((Kept.refl.put (fun h => by have := h.1; dsimp only at this; omega)).put (fun h => by have := h.1; dsimp only at this; omega))).sub fun y hy => ⟨by omega, by simp [World.setCell]; exact hy.2.1⟩)
      clear ho5 hc5
      generalize sumO A c A.length = R at *
      go_wp2
      refine bodyPost_ret (v := .agg #[.int .i64 R.fN, .slice a5 R.fRows.length q5]) (results_cell_row Try.results7 _ _ (w.heap.size + 3) 37 #[.int .i64 R.fN, .slice a5 R.fRows.length q5] (0, 0) _ rfl (pblk_put (pblk_put HZR.out rfl) rfl) Try.underlying37 rfl rfl) rfl ?_
      rw [HRES.out]
      exact ⟨a5, q5, rfl, HOK.out, (HBF.out.setCell (by show w.heap.size ≤ w.heap.size + 3; omega) _).setCell (by show w.heap.size ≤ w.heap.size + 3; omega) _⟩

set_option maxHeartbeats 25600000 in
set_option maxRecDepth 100000 in
theorem impl_SummaryOf {lo hi : Nat} {a0 a1 b2 b4 b5 d1 : Option Addr} {c0_0 c0_1 c1_0 c1_1 c1_2 c2_0 : Nat} (g : DGrammar) (okg : g.ok) (hszg : g.sz ≤ 1048576) (x : DRule) (okx : x.ok) (hszx : x.sz ≤ 1048576) (c : DRelation) (okc : c.ok) (hszc : c.sz ≤ 1048576) (w : World) (hhi : hi ≤ w.heap.size) (hs0 : Sl lo hi w 2 g.fSymbols.length (fun k => DSymbol.ct (g.fSymbols.getD k default)) a0) (hs1 : Sl lo hi w 6 g.fRules.length (fun k => DRule.ct (g.fRules.getD k default)) a1) (hs2 : Sl lo hi w 1 x.fRight.length (fun k => ictS (x.fRight.getD k default)) b2) (hs4 : Sl lo hi w 9 x.fEquations.length (fun k => DEquation.ct (x.fEquations.getD k default)) b4) (hs5 : Sl lo hi w 16 x.fContributions.length (fun k => DContribution.ct (x.fContributions.getD k default)) b5) (hs6 : Sl lo hi w 1 c.fRows.length (fun k => ictI (c.fRows.getD k default)) d1) :
    Calls Try.prog 11 #[.agg #[.slice a0 g.fSymbols.length c0_0, .slice a1 g.fRules.length c0_1], .agg #[.string x.fName, .string x.fLeft, .slice b2 x.fRight.length c1_0, .bool x.fLiteral, .slice b4 x.fEquations.length c1_1, .slice b5 x.fContributions.length c1_2], .agg #[.int .i64 c.fN, .slice d1 c.fRows.length c2_0]] w (RelOut (summ g x c) w) := by
  have HB := Lib.hid (((((Below.refl w.heap.size w).alloc (Nat.le_refl _) (.cells #[.slice a0 g.fSymbols.length c0_0, .slice a1 g.fRules.length c0_1] 42)).alloc (by simp) (.cells #[.string x.fName, .string x.fLeft, .slice b2 x.fRight.length c1_0, .bool x.fLiteral, .slice b4 x.fEquations.length c1_1, .slice b5 x.fContributions.length c1_2] 47)).alloc (by simp <;> omega) (.cells #[.int .i64 c.fN, .slice d1 c.fRows.length c2_0] 37)).alloc (by simp <;> omega) (.cells #[.int .i64 0, .slice none 0 0] 37))
  have HHI := Lib.hid hhi
  have HNL := Lib.hid (show x.fLeft.size ≤ 1048576 from by unfold DRule.sz at hszx; omega)
  have HAL := Lib.hid (plainS_len1 hszg x.fLeft)
  have HPA := Lib.hid (fun (W : World) (hW : Below w.heap.size w W) => impl_PlainAttributes (c0_0 := c0_0) (c0_1 := c0_1) g okg hszg x.fLeft (by have := HNL.out; unfold okS; omega) HNL.out W (Nat.le_trans hhi hW.size) (hs0.later hW hhi) (hs1.later hW hhi))
  have HPX := Lib.hid (fun (W : World) (hW : Below w.heap.size w W) => impl_PositionIndices (c0_0 := c0_0) (c0_1 := c0_1) (c1_0 := c1_0) (c1_1 := c1_1) (c1_2 := c1_2) g okg hszg x okx hszx 0 (by unfold okI; omega) W (Nat.le_trans hhi hW.size) (hs0.later hW hhi) (hs1.later hW hhi) (hs2.later hW hhi) (hs4.later hW hhi) (hs5.later hW hhi))
  have HHP := Lib.hid (fun (i k : Nat) (hi : i ≤ 1048576) (hk : k ≤ 1048576) (W : World) (hW : Below w.heap.size w W) => impl_HasPair (c0_0 := c2_0) c okc hszc (i : Int) (by unfold okI; omega) (k : Int) (by unfold okI; omega) W (Nat.le_trans hhi hW.size) (hs6.later hW hhi))
  have HRES := Lib.hid (show summ g x c = sumO (plainS g x.fLeft) c (plainS g x.fLeft).length from rfl)
  have HIX := Lib.hid (posIx_zero g x)
  have HCG := Lib.hid (show ((((w.alloc (.cells #[.slice a0 g.fSymbols.length c0_0, .slice a1 g.fRules.length c0_1] 42)).alloc (.cells #[.string x.fName, .string x.fLeft, .slice b2 x.fRight.length c1_0, .bool x.fLiteral, .slice b4 x.fEquations.length c1_1, .slice b5 x.fContributions.length c1_2] 47)).alloc (.cells #[.int .i64 c.fN, .slice d1 c.fRows.length c2_0] 37)).alloc (.cells #[.int .i64 0, .slice none 0 0] 37)).heap[w.heap.size]? = some (.cells #[.slice a0 g.fSymbols.length c0_0, .slice a1 g.fRules.length c0_1] 42) from blk_alloc (by simp <;> omega) (blk_alloc (by simp <;> omega) (blk_alloc (by simp) (blk_new rfl))))
  have HCR := Lib.hid (show ((((w.alloc (.cells #[.slice a0 g.fSymbols.length c0_0, .slice a1 g.fRules.length c0_1] 42)).alloc (.cells #[.string x.fName, .string x.fLeft, .slice b2 x.fRight.length c1_0, .bool x.fLiteral, .slice b4 x.fEquations.length c1_1, .slice b5 x.fContributions.length c1_2] 47)).alloc (.cells #[.int .i64 c.fN, .slice d1 c.fRows.length c2_0] 37)).alloc (.cells #[.int .i64 0, .slice none 0 0] 37)).heap[w.heap.size + 1]? = some (.cells #[.string x.fName, .string x.fLeft, .slice b2 x.fRight.length c1_0, .bool x.fLiteral, .slice b4 x.fEquations.length c1_1, .slice b5 x.fContributions.length c1_2] 47) from blk_alloc (by simp <;> omega) (blk_alloc (by simp <;> omega) (blk_new (by simp))))
  have HCC := Lib.hid (show ((((w.alloc (.cells #[.slice a0 g.fSymbols.length c0_0, .slice a1 g.fRules.length c0_1] 42)).alloc (.cells #[.string x.fName, .string x.fLeft, .slice b2 x.fRight.length c1_0, .bool x.fLiteral, .slice b4 x.fEquations.length c1_1, .slice b5 x.fContributions.length c1_2] 47)).alloc (.cells #[.int .i64 c.fN, .slice d1 c.fRows.length c2_0] 37)).alloc (.cells #[.int .i64 0, .slice none 0 0] 37)).heap[w.heap.size + 2]? = some (.cells #[.int .i64 c.fN, .slice d1 c.fRows.length c2_0] 37) from blk_alloc (by simp <;> omega) (blk_new (by simp)))
  have HCZ := Lib.hid (show ((((w.alloc (.cells #[.slice a0 g.fSymbols.length c0_0, .slice a1 g.fRules.length c0_1] 42)).alloc (.cells #[.string x.fName, .string x.fLeft, .slice b2 x.fRight.length c1_0, .bool x.fLiteral, .slice b4 x.fEquations.length c1_1, .slice b5 x.fContributions.length c1_2] 47)).alloc (.cells #[.int .i64 c.fN, .slice d1 c.fRows.length c2_0] 37)).alloc (.cells #[.int .i64 0, .slice none 0 0] 37)).heap[w.heap.size + 3]? = some (.cells #[.int .i64 0, .slice none 0 0] 37) from blk_new (by simp))
  have HZ0 := Lib.hid (show ((((w.alloc (.cells #[.slice a0 g.fSymbols.length c0_0, .slice a1 g.fRules.length c0_1] 42)).alloc (.cells #[.string x.fName, .string x.fLeft, .slice b2 x.fRight.length c1_0, .bool x.fLiteral, .slice b4 x.fEquations.length c1_1, .slice b5 x.fContributions.length c1_2] 47)).alloc (.cells #[.int .i64 c.fN, .slice d1 c.fRows.length c2_0] 37)).alloc (.cells #[.int .i64 0, .slice none 0 0] 37)).heap.size = w.heap.size + 4 by simp)
  clear hs0 hs1 hs2 hs4 hs5 hs6 hhi hszx okx hszg okg okc hszc
  go_enter Try.func11, Try.ntmps11
  go_wp2_with fail
  refine wp_region_free [([], none), ([], none), ([1], none), ([0, 2], none), ([], none), ([], none), ([4, 5], none), ([3], none), ([6], none)] [0, 1, 2, 3, 4, 5, 6, 7, 8] (fun jq9 V L H wx => match jq9 with | 0 => V 0 = .agg #[.slice a0 g.fSymbols.length c0_0, .slice a1 g.fRules.length c0_1] | 1 => V 1 = .pointer (some ⟨w.heap.size + 1, 1, none⟩) | 2 => V 2 = .string x.fLeft | 3 => ∃ a9 c9, V 3 = .slice a9 (plainS g x.fLeft).length c9 ∧ Own wx (fun y => L ≤ y ∧ y < H) (.sl 4 (plainS g x.fLeft).length (fun k => DAttribute.ct ((plainS g x.fLeft).getD k default))) (.slice a9 (plainS g x.fLeft).length c9) | 4 => V 4 = .agg #[.slice a0 g.fSymbols.length c0_0, .slice a1 g.fRules.length c0_1] | 5 => V 5 = .agg #[.string x.fName, .string x.fLeft, .slice b2 x.fRight.length c1_0, .bool x.fLiteral, .slice b4 x.fEquations.length c1_1, .slice b5 x.fContributions.length c1_2] | 6 => ∃ a8 c8, V 6 = .slice a8 (posIx g x 0).length c8 ∧ Own wx (fun y => L ≤ y ∧ y < H) (.sl 1 (posIx g x 0).length (fun k => ictI ((posIx g x 0).getD k default))) (.slice a8 (posIx g x 0).length c8) | 7 => V 7 = V 3 | 8 => V 8 = V 6 | _ => True) (by kernel_rfl) (by kernel_rfl) ?loc ?lasts ?walk
  case loc =>
    intro k V V' L H wx h0 h1 hG
    match k with
    | 0 =>
      try dsimp only at hG ⊢
      rw [← h0]
      exact hG
    | 1 =>
      try dsimp only at hG ⊢
      rw [← h0]
      exact hG
    | 2 =>
      try dsimp only at hG ⊢
      rw [← h0]
      exact hG
    | 3 =>
      try dsimp only at hG ⊢
      rw [← h0]
      exact hG
    | 4 =>
      try dsimp only at hG ⊢
      rw [← h0]
      exact hG
    | 5 =>
      try dsimp only at hG ⊢
      rw [← h0]
      exact hG
    | 6 =>
      try dsimp only at hG ⊢
      rw [← h0]
      exact hG
    | 7 =>
      have e3 := h1 3 (by decide)
      try dsimp only at hG ⊢
      rw [← h0, ← e3]
      exact hG
    | 8 =>
      have e6 := h1 6 (by decide)
      try dsimp only at hG ⊢
      rw [← h0, ← e6]
      exact hG
    | n + 9 => trivial
  case lasts =>
    intro i hi V L H wx wy hB hH hk
    match i, hi with
    | 0, _ => exact fun h => h
    | 1, _ => exact fun h => h
    | 2, _ => exact fun h => h
    | 3, _ => exact fun ⟨a9, c9, hv, ho0⟩ => ⟨a9, c9, hv, ho0.kept (hk.sub fun x hx => .inr hx)⟩
    | 4, _ => exact fun h => h
    | 5, _ => exact fun h => h
    | 6, _ => exact fun ⟨a8, c8, hv, ho0⟩ => ⟨a8, c8, hv, ho0.kept (hk.sub fun x hx => .inr hx)⟩
    | 7, _ => exact fun h => h
    | 8, _ => exact fun h => h
    | n + 9, hn => exact absurd hn (by simp)
  case walk =>
    simp (maxSteps := 4000000) only [free, Nat.reduceAdd, Act.put, List.setIfInBounds_toArray, List.set_cons_succ, List.set_cons_zero]
    refine ⟨?_, ?_, ?_, ?_, ?_, ?_, ?_, ?_, ?_, ?_⟩
    · intro V L H w1 hb1 hd
      clear hd
      have g0 : w1.cell? ⟨w.heap.size, 0, none⟩ = some (.slice a0 g.fSymbols.length c0_0) := (hb1.cell (p := ⟨w.heap.size, 0, none⟩) (by show w.heap.size < _; rw [HZ0.out]; omega)).trans (pblk_cell (j := 0) (v := .slice a0 g.fSymbols.length c0_0) HCG.out rfl)
      have g1 : w1.cell? ⟨w.heap.size, 1, none⟩ = some (.slice a1 g.fRules.length c0_1) := (hb1.cell (p := ⟨w.heap.size, 1, none⟩) (by show w.heap.size < _; rw [HZ0.out]; omega)).trans (pblk_cell (j := 1) (v := .slice a1 g.fRules.length c0_1) HCG.out rfl)
      go_wp2_with fail
      exact freePost _ rfl ⟨Below.refl _ _, upd_self⟩
    · intro V L H w1 hb1 hd
      clear hd
      go_wp2_with fail
      exact freePost _ rfl ⟨Below.refl _ _, upd_self⟩
    · intro V L H w1 hb1 hd
      obtain ⟨⟨hL1, hM1, hH1, hv1⟩, -⟩ := hd
      rw [hv1]
      have HV1 := Lib.hid hv1
      clear hv1
      have r1 : w1.cell? ⟨w.heap.size + 1, 1, none⟩ = some (.string x.fLeft) := (hb1.cell (p := ⟨w.heap.size + 1, 1, none⟩) (by show w.heap.size + 1 < _; rw [HZ0.out]; omega)).trans (pblk_cell (j := 1) (v := .string x.fLeft) HCR.out rfl)
      go_wp2_with fail
      exact freePost _ rfl ⟨Below.refl _ _, upd_self⟩
    · intro V L H w1 hb1 hd
      obtain ⟨⟨hL0, hM0, hH0, hv0⟩, ⟨hL2, hM2, hH2, hv2⟩, -⟩ := hd
      rw [hv0, hv2]
      have HV0 := Lib.hid hv0
      have HV2 := Lib.hid hv2
      clear hv0 hv2
      go_wp2_with fail
      refine (HPA.out _ (HB.out.trans (hb1.mono HB.out.size))).mono ?_
      rintro e w2 ⟨a9, c9, rfl, ho, hb2⟩
      go_wp2_with fail
      exact freePost _ rfl ⟨hb2, Exists.intro a9 (Exists.intro c9 (And.intro (upd_self) (ho)))⟩
    · intro V L H w1 hb1 hd
      clear hd
      have g0 : w1.cell? ⟨w.heap.size, 0, none⟩ = some (.slice a0 g.fSymbols.length c0_0) := (hb1.cell (p := ⟨w.heap.size, 0, none⟩) (by show w.heap.size < _; rw [HZ0.out]; omega)).trans (pblk_cell (j := 0) (v := .slice a0 g.fSymbols.length c0_0) HCG.out rfl)
      have g1 : w1.cell? ⟨w.heap.size, 1, none⟩ = some (.slice a1 g.fRules.length c0_1) := (hb1.cell (p := ⟨w.heap.size, 1, none⟩) (by show w.heap.size < _; rw [HZ0.out]; omega)).trans (pblk_cell (j := 1) (v := .slice a1 g.fRules.length c0_1) HCG.out rfl)
      go_wp2_with fail
      exact freePost _ rfl ⟨Below.refl _ _, upd_self⟩
    · intro V L H w1 hb1 hd
      clear hd
      have r0 : w1.cell? ⟨w.heap.size + 1, 0, none⟩ = some (.string x.fName) := (hb1.cell (p := ⟨w.heap.size + 1, 0, none⟩) (by show w.heap.size + 1 < _; rw [HZ0.out]; omega)).trans (pblk_cell (j := 0) (v := .string x.fName) HCR.out rfl)
      have r1 : w1.cell? ⟨w.heap.size + 1, 1, none⟩ = some (.string x.fLeft) := (hb1.cell (p := ⟨w.heap.size + 1, 1, none⟩) (by show w.heap.size + 1 < _; rw [HZ0.out]; omega)).trans (pblk_cell (j := 1) (v := .string x.fLeft) HCR.out rfl)
      have r2 : w1.cell? ⟨w.heap.size + 1, 2, none⟩ = some (.slice b2 x.fRight.length c1_0) := (hb1.cell (p := ⟨w.heap.size + 1, 2, none⟩) (by show w.heap.size + 1 < _; rw [HZ0.out]; omega)).trans (pblk_cell (j := 2) (v := .slice b2 x.fRight.length c1_0) HCR.out rfl)
      have r3 : w1.cell? ⟨w.heap.size + 1, 3, none⟩ = some (.bool x.fLiteral) := (hb1.cell (p := ⟨w.heap.size + 1, 3, none⟩) (by show w.heap.size + 1 < _; rw [HZ0.out]; omega)).trans (pblk_cell (j := 3) (v := .bool x.fLiteral) HCR.out rfl)
      have r4 : w1.cell? ⟨w.heap.size + 1, 4, none⟩ = some (.slice b4 x.fEquations.length c1_1) := (hb1.cell (p := ⟨w.heap.size + 1, 4, none⟩) (by show w.heap.size + 1 < _; rw [HZ0.out]; omega)).trans (pblk_cell (j := 4) (v := .slice b4 x.fEquations.length c1_1) HCR.out rfl)
      have r5 : w1.cell? ⟨w.heap.size + 1, 5, none⟩ = some (.slice b5 x.fContributions.length c1_2) := (hb1.cell (p := ⟨w.heap.size + 1, 5, none⟩) (by show w.heap.size + 1 < _; rw [HZ0.out]; omega)).trans (pblk_cell (j := 5) (v := .slice b5 x.fContributions.length c1_2) HCR.out rfl)
      go_wp2_with fail
      exact freePost _ rfl ⟨Below.refl _ _, upd_self⟩
    · intro V L H w1 hb1 hd
      obtain ⟨⟨hL4, hM4, hH4, hv4⟩, ⟨hL5, hM5, hH5, hv5⟩, -⟩ := hd
      rw [hv4, hv5]
      have HV4 := Lib.hid hv4
      have HV5 := Lib.hid hv5
      clear hv4 hv5
      go_wp2_with fail
      refine (HPX.out _ (HB.out.trans (hb1.mono HB.out.size))).mono ?_
      rintro e w2 ⟨a8, c8, rfl, ho, hb2⟩
      go_wp2_with fail
      exact freePost _ rfl ⟨hb2, Exists.intro a8 (Exists.intro c8 (And.intro (upd_self) (ho)))⟩
    · intro V L H w1 hb1 hd
      obtain ⟨⟨hL3, hM3, hH3, a9, c9, hv3, ho3_0⟩, -⟩ := hd
      rw [hv3]
      have HV3 := Lib.hid hv3
      clear hv3
      go_wp2_with fail
      exact freePost _ rfl ⟨Below.refl _ _, upd_self.trans (HV3.out.symm.trans (upd_ne (by decide)).symm)⟩
    · intro V L H w1 hb1 hd
      obtain ⟨⟨hL6, hM6, hH6, a8, c8, hv6, ho6_0⟩, -⟩ := hd
      rw [hv6]
      have HV6 := Lib.hid hv6
      clear hv6
      go_wp2_with fail
      exact freePost _ rfl ⟨Below.refl _ _, upd_self.trans (HV6.out.symm.trans (upd_ne (by decide)).symm)⟩
    · intro V L H w1 hb1 hd hap hdead
      obtain ⟨⟨hL0, hM0, hH0, hv0⟩, ⟨hL1, hM1, hH1, hv1⟩, ⟨hL2, hM2, hH2, hv2⟩, ⟨hL3, hM3, hH3, a9, c9, hv3, ho3_0⟩, ⟨hL4, hM4, hH4, hv4⟩, ⟨hL5, hM5, hH5, hv5⟩, ⟨hL6, hM6, hH6, a8, c8, hv6, ho6_0⟩, ⟨hL7, hM7, hH7, hv7⟩, ⟨hL8, hM8, hH8, hv8⟩, -⟩ := hd
      have hv7' := hv7.trans hv3
      have hv8' := hv8.trans hv6
      rw [hv0, hv1, hv2, hv3, hv4, hv5, hv6, hv7', hv8']
      clear hv0 hv1 hv2 hv3 hv4 hv5 hv6 hv7' hv8' hv7 hv8
      have hsz1 : w.heap.size + 4 ≤ w1.heap.size := by have := hb1.size; rw [HZ0.out] at this; exact this
      have HSA := Lib.hid (show Sl (w.heap.size + 4) w1.heap.size w1 4 (plainS g x.fLeft).length (fun k => DAttribute.ct ((plainS g x.fLeft).getD k default)) a9 from Sl.of (ho3_0.lies fun y hy => ⟨Nat.le_trans (by rw [← HZ0.out]; exact hL3) hy.1, Nat.lt_of_lt_of_le hy.2 hH3⟩))
      have HSX := Lib.hid (show Sl (w.heap.size + 4) w1.heap.size w1 1 (posIx g x 0).length (fun k => ictI ((posIx g x 0).getD k default)) a8 from Sl.of (ho6_0.lies fun y hy => ⟨Nat.le_trans (by rw [← HZ0.out]; exact hL6) hy.1, Nat.lt_of_lt_of_le hy.2 hH6⟩))
      have HBW := Lib.hid hb1
      clear ho3_0 ho6_0 hb1 hap hdead
      rw [HIX.out] at HSX ⊢
      have HXL := Lib.hid (show ((List.range (plainS g x.fLeft).length).map fun (i : Nat) => (i : Int)).length = (plainS g x.fLeft).length from by rw [List.length_map, List.length_range])
      have HXG := Lib.hid (fun (k : Nat) (hk : k < (plainS g x.fLeft).length) => (show ((List.range (plainS g x.fLeft).length).map fun (i : Nat) => (i : Int)).getD k default = (k : Int) from by rw [List.getD_eq_getElem?_getD, List.getElem?_map, List.getElem?_range hk]; rfl))
      have HCG1 := Lib.hid ((HBW.out.block w.heap.size (by rw [HZ0.out]; omega)).trans HCG.out)
      have HCC1 := Lib.hid ((HBW.out.block (w.heap.size + 2) (by rw [HZ0.out]; omega)).trans HCC.out)
      have HCZ1 := Lib.hid ((HBW.out.block (w.heap.size + 3) (by rw [HZ0.out]; omega)).trans HCZ.out)
      have HB1 := Lib.hid (HB.out.trans (HBW.out.mono HB.out.size))
      generalize hA : plainS g x.fLeft = A at *
      clear hA
      have hnA := HAL.out
      have HSO := Lib.hid (sumO_small A c)
      have HSI := Lib.hid (fun (R : DRelation) (h : RelS R) (i t : Nat) => sumI_small (A := A) (c := c) (i := i) h t)
      go_wp2_with fail
      refine (impl_EmptyRelation (A.length : Int) (by unfold okI; omega) _).mono ?_
      rintro e w2 ⟨a3, c3, rfl, ho3, hb2⟩
      have HB2 := Lib.hid hb2
      have HST := Lib.hid (show SumSt w1.heap.size w2.heap.size 37 (w2.alloc (.cells #[.int .i64 (emptyRel (A.length : Int)).fN, .slice a3 (emptyRel (A.length : Int)).fRows.length c3] 37)) (sumO A c 0) (w2.alloc (.cells #[.int .i64 (emptyRel (A.length : Int)).fN, .slice a3 (emptyRel (A.length : Int)).fRows.length c3] 37)) from
        ⟨a3, c3, (ho3.kept (Kept.of_below_all ((Below.refl w2.heap.size w2).alloc (Nat.le_refl _) _))).sub fun y hy => ⟨hy.1, by simp; omega, by omega⟩, blk_new rfl, Writes.refl _ _⟩)
      have HW3 := Lib.hid ((Below.refl w2.heap.size w2).alloc (Nat.le_refl _) (.cells #[.int .i64 (emptyRel (A.length : Int)).fN, .slice a3 (emptyRel (A.length : Int)).fRows.length c3] 37))
      have HZ3 := Lib.hid (show (w2.alloc (.cells #[.int .i64 (emptyRel (A.length : Int)).fN, .slice a3 (emptyRel (A.length : Int)).fRows.length c3] 37)).heap.size = w2.heap.size + 1 by simp)
      have hsz2 := hb2.size
      clear ho3 hb2
      go_wp2
      go_loopw [26] (fun i wr => ∃ j : Nat, j ≤ A.length ∧ i = .int .i64 (j : Int) ∧ SumSt w1.heap.size w2.heap.size 37 (w2.alloc (.cells #[.int .i64 (emptyRel (A.length : Int)).fN, .slice a3 (emptyRel (A.length : Int)).fRows.length c3] 37)) (sumO A c j) wr) (fun i _ => A.length - (intOf i).toNat)
      case atStart => exact ⟨0, Nat.zero_le _, rfl, HST.out⟩
      case round =>
        obtain ⟨j, hj, rfl, hst⟩ := hrel
        obtain ⟨wq, rfl⟩ : ∃ wq : World, wq = wr := ⟨_, rfl⟩
        have HSJ := Lib.hid hst
        have HWJ := Lib.hid hst.writes
        have hszj : w2.heap.size + 1 ≤ wq.heap.size := by have := hst.writes.size; rw [HZ3.out] at this; exact this
        have HBLK := Lib.hid (fun (k : Nat) (hk : k < w2.heap.size) => (HWJ.out.block k (by rw [HZ3.out]; omega) (Nat.ne_of_lt hk)).trans (HW3.out.block k hk))
        clear hst
        by_cases hlt : j < A.length
        · have hjI : (0 : Int) ≤ (j : Int) ∧ (j : Int) < (A.length : Int) := by omega
          have HSAQ := Lib.hid (fun (W : World) (hW : ∀ k, k < w1.heap.size → W.heap[k]? = w1.heap[k]?) => HSA.out.frame (w' := W) fun b off _ h2 => World.cell?_of_block (a := ⟨b, off, none⟩) (hW b h2))
          have HW1 := Lib.hid (fun (k : Nat) (hk : k < w1.heap.size) => (HBLK.out k (Nat.lt_of_lt_of_le hk hsz2)).trans (HB2.out.block k hk))
          obtain ⟨b, off, rfl, _, hbh, hdj⟩ := (HSAQ.out wq HW1.out).at j hlt
          obtain ⟨jn_, jt_, jm_, jc_⟩ := DAttribute.open hdj
          have hbq : b < wq.heap.size := by omega
          have HNEXT := Lib.hid (show sumO A c (j + 1) = sumI A c (sumO A c j) j A.length from rfl)
          have HSR := Lib.hid (HSO.out j)
          obtain ⟨aj, haj⟩ : ∃ aj : DAttribute, aj = A.getD j default := ⟨_, rfl⟩
          rw [← haj] at jn_ jt_ jm_ jc_
          have HAJ := Lib.hid haj
          clear hdj haj
          have HBO := Lib.hid (show Below wq.heap.size wq (wq.alloc (.cells #[.string aj.fName, .int .i64 aj.fType, .int .i64 aj.fMode, .bool aj.fCircular] 67)) from (Below.refl _ _).alloc (Nat.le_refl _) _)
          have HBZ := Lib.hid (show wq.heap.size < (wq.alloc (.cells #[.string aj.fName, .int .i64 aj.fType, .int .i64 aj.fMode, .bool aj.fCircular] 67)).heap.size by simp)
          have HBC := Lib.hid (show (wq.alloc (.cells #[.string aj.fName, .int .i64 aj.fType, .int .i64 aj.fMode, .bool aj.fCircular] 67)).heap[wq.heap.size]? = some (.cells #[.string aj.fName, .int .i64 aj.fType, .int .i64 aj.fMode, .bool aj.fCircular] 67) from blk_new rfl)
          have HSJB := Lib.hid ((HSJ.out.later HBO.out (by omega)).rebase)
          generalize sumO A c j = R0 at *
          go_wp2
          go_loopw [33] (fun i wr => ∃ t : Nat, t ≤ A.length ∧ i = .int .i64 (t : Int) ∧ SumSt w1.heap.size w2.heap.size 37 (wq.alloc (.cells #[.string aj.fName, .int .i64 aj.fType, .int .i64 aj.fMode, .bool aj.fCircular] 67)) (sumI A c R0 j t) wr) (fun i _ => A.length - (intOf i).toNat)
          case atStart => exact ⟨0, Nat.zero_le _, rfl, HSJB.out⟩
          case round =>
            obtain ⟨t, ht, rfl, hst⟩ := hrel
            obtain ⟨wv, rfl⟩ : ∃ wv : World, wv = wr := ⟨_, rfl⟩
            have HSV := Lib.hid hst
            have HWV := Lib.hid hst.writes
            have hszv0 : wq.heap.size < wv.heap.size := Nat.lt_of_lt_of_le HBZ.out hst.writes.size
            have hszv : w2.heap.size + 1 ≤ wv.heap.size := by omega
            have HBV := Lib.hid (fun (k : Nat) (hk : k < w2.heap.size) => (HWV.out.block k (Nat.lt_trans (show k < wq.heap.size by omega) HBZ.out) (Nat.ne_of_lt hk)).trans ((HBO.out.block k (show k < wq.heap.size by omega)).trans (HBLK.out k hk)))
            have HBXV := Lib.hid ((HWV.out.block wq.heap.size HBZ.out (by omega)).trans HBC.out)
            have HW1V := Lib.hid (fun (k : Nat) (hk : k < w1.heap.size) => (HBV.out k (Nat.lt_of_lt_of_le hk hsz2)).trans (HB2.out.block k hk))
            have HBELOW := Lib.hid (show Below w.heap.size w wv from ⟨(HWV.out.os.trans (HBO.out.os.trans HWJ.out.os)).trans (HB1.out.trans (HB2.out.mono (by omega))).os, (HWV.out.tape.trans (HBO.out.tape.trans HWJ.out.tape)).trans (HB1.out.trans (HB2.out.mono (by omega))).tape, (HWV.out.output.trans (HBO.out.output.trans HWJ.out.output)).trans (HB1.out.trans (HB2.out.mono (by omega))).output, by omega, fun k hk => (HBV.out k (by omega)).trans ((HB1.out.trans (HB2.out.mono (by omega))).block k hk)⟩)
            clear hst
            by_cases hlt2 : t < A.length
            · have htI : (0 : Int) ≤ (t : Int) ∧ (t : Int) < (A.length : Int) := by omega
              obtain ⟨b', off', e1, _, _, hdt⟩ := (HSAQ.out wv HW1V.out).at t hlt2
              obtain ⟨b2, off2, e2, _, _, hdj⟩ := (HSAQ.out wv HW1V.out).at j hlt
              simp only [Option.some.injEq, Addr.mk.injEq, and_true] at e1 e2
              obtain ⟨rfl, rfl⟩ := e1
              obtain ⟨rfl, rfl⟩ := e2
              obtain ⟨tn_, tt_, tm_, tc_⟩ := DAttribute.open hdt
              obtain ⟨kn_, kt_, km_, kc_⟩ := DAttribute.open hdj
              rw [← HAJ.out] at kn_ kt_ km_ kc_
              have hbv : b < wv.heap.size := by omega
              have HCCV := Lib.hid ((HBV.out (w.heap.size + 2) (by omega)).trans ((HB2.out.block (w.heap.size + 2) (by omega)).trans HCC1.out))
              have cc0 : wv.cell? ⟨w.heap.size + 2, 0, none⟩ = some (.int .i64 c.fN) := pblk_cell (j := 0) (v := .int .i64 c.fN) HCCV.out rfl
              have cc1 : wv.cell? ⟨w.heap.size + 2, 1, none⟩ = some (.slice d1 c.fRows.length c2_0) := pblk_cell (j := 1) (v := .slice d1 c.fRows.length c2_0) HCCV.out rfl
              have hk2 : w.heap.size + 2 < wv.heap.size := by omega
              have HN1 := Lib.hid (fun (h : (A.getD j default).fMode ≠ 1) => sumI_no (R := R0) (sumB_no1 (A := A) (c := c) (i := j) (k := t) h))
              have HN2 := Lib.hid (fun (h : (A.getD t default).fMode ≠ 2) => sumI_no (R := R0) (sumB_no2 (A := A) (c := c) (i := j) (k := t) h))
              have HYN := Lib.hid (fun (h1 : (A.getD j default).fMode = 1) (h2 : (A.getD t default).fMode = 2) (h : hasPair c (j : Int) (t : Int) = false) => sumI_no (R := R0) ((sumB_at (A := A) (c := c) (i := j) (k := t) h1 h2).trans h))
              have HYY := Lib.hid (fun (h1 : (A.getD j default).fMode = 1) (h2 : (A.getD t default).fMode = 2) (h : hasPair c (j : Int) (t : Int) = true) => sumI_yes (R := R0) ((sumB_at (A := A) (c := c) (i := j) (k := t) h1 h2).trans h))
              have HPR := Lib.hid (HHP.out j t (by omega) (by omega))
              have HRS := Lib.hid (HSI.out R0 HSR.out j t)
              generalize sumI A c R0 j t = R at *
              rw [← HAJ.out] at HN1 HYN HYY
              generalize A.getD t default = at_ at *
              clear hdt hdj
              obtain ⟨b7, o7, e7, _, hb7h, hx7⟩ := (HSX.out.frame (w' := wv) fun b off _ h2 => World.cell?_of_block (a := ⟨b, off, none⟩) (HW1V.out b h2)).at t (by rw [HXL.out]; exact hlt2)
              obtain ⟨b6, o6, e6, _, _, hx6⟩ := (HSX.out.frame (w' := wv) fun b off _ h2 => World.cell?_of_block (a := ⟨b, off, none⟩) (HW1V.out b h2)).at j (by rw [HXL.out]; exact hlt)
              subst e7
              simp only [Option.some.injEq, Addr.mk.injEq, and_true] at e6
              obtain ⟨rfl, rfl⟩ := e6
              obtain ⟨u7, hu7, hl7⟩ := hx7 0 (by decide)
              obtain ⟨u6, hu6, hl6⟩ := hx6 0 (by decide)
              rw [HXG.out t hlt2] at hl7
              rw [HXG.out j hlt] at hl6
              obtain rfl := lies_lit hl7
              obtain rfl := lies_lit hl6
              have x7 : wv.cell? ⟨b7, o7 + t, none⟩ = some (.int .i64 (t : Int)) := by simpa using hu7
              have x6 : wv.cell? ⟨b7, o7 + j, none⟩ = some (.int .i64 (j : Int)) := by simpa using hu6
              have hb7v : b7 < wv.heap.size := by omega
              have hxlI : (((List.range A.length).map fun (i : Nat) => (i : Int)).length : Int) = (A.length : Int) := by rw [HXL.out]
              have q2 : wv.cell? ⟨wq.heap.size, 2, none⟩ = some (.int .i64 aj.fMode) := pblk_cell (j := 2) HBXV.out rfl
              clear hx7 hx6 hu7 hu6 hl7 hl6
              have HWX := Lib.hid (show Below wv.heap.size wv (wv.alloc (.cells #[.string at_.fName, .int .i64 at_.fType, .int .i64 at_.fMode, .bool at_.fCircular] 67)) from (Below.refl _ _).alloc (Nat.le_refl _) _)
              have HXZ := Lib.hid (show wv.heap.size < (wv.alloc (.cells #[.string at_.fName, .int .i64 at_.fType, .int .i64 at_.fMode, .bool at_.fCircular] 67)).heap.size by simp)
              have HXC := Lib.hid (show (wv.alloc (.cells #[.string at_.fName, .int .i64 at_.fType, .int .i64 at_.fMode, .bool at_.fCircular] 67)).heap[wv.heap.size]? = some (.cells #[.string at_.fName, .int .i64 at_.fType, .int .i64 at_.fMode, .bool at_.fCircular] 67) from blk_new rfl)
              have HSX1 := Lib.hid (HSV.out.later HWX.out (by omega))
              by_cases m1 : aj.fMode = 1
              · skip
                by_cases m2 : at_.fMode = 2
                · skip
                  have HYN1 := Lib.hid (HYN.out m1 m2)
                  have HYY1 := Lib.hid (HYY.out m1 m2)
                  rw [m1] at q2
                  have HQ2 := Lib.hid (((HWX.out.cell (p := ⟨wq.heap.size, 2, none⟩) hszv0)).trans q2)
                  have HT2 := Lib.hid (pblk_cell (j := 2) (v := .int .i64 2) HXC.out (by rw [m2]; rfl))
                  clear HN1 HN2 HYN HYY jm_ jn_ jt_ jc_ m1 m2
                  skip
                  go_wp2_with fail
                  refine wp_region_freeK [([], .none, []), ([0], .none, []), ([1], .none, []), ([2], .none, []), ([3], .none, []), ([4, 3], .none, []), ([5, 3], .none, []), ([3, 6], .none, []), ([7], .none, []), ([8], .none, []), ([8], .none, []), ([8], .none, []), ([10, 11, 8], .none, []), ([12, 8], .none, []), ([8], .none, []), ([8], .none, []), ([14, 15, 8], .none, []), ([16, 8], .none, []), ([9, 13, 17, 8], .none, []), ([8, 18], .none, [])] [0, 1, 2, 3, 4, 5, 6, 7, 8, 9, 10, 11, 12, 13, 14, 15, 16, 17, 18, 19] [] (fun _ => False) (fun _ => True) (fun _ => 0) (fun jq9 V L H wx => match jq9 with | 0 => V 0 = .pointer (some ⟨wq.heap.size, 2, none⟩) | 1 => V 1 = .int .i64 1 | 2 => V 2 = .bool true | 3 => V 3 = .bool true | 4 => V 4 = .pointer (some ⟨wv.heap.size, 2, none⟩) | 5 => V 5 = .int .i64 2 | 6 => V 6 = .bool true | 7 => V 7 = .bool true | 8 => V 8 = .bool true | 9 => V 9 = .agg #[.int .i64 c.fN, .slice d1 c.fRows.length c2_0] | 10 => V 10 = .slice (some ⟨b7, o7, none⟩) A.length c8 | 11 => V 11 = .int .i64 (j : Int) | 12 => V 12 = .pointer (some ⟨b7, o7 + j, none⟩) | 13 => V 13 = .int .i64 (j : Int) | 14 => V 14 = .slice (some ⟨b7, o7, none⟩) A.length c8 | 15 => V 15 = .int .i64 (t : Int) | 16 => V 16 = .pointer (some ⟨b7, o7 + t, none⟩) | 17 => V 17 = .int .i64 (t : Int) | 18 => V 18 = .bool (hasPair c (j : Int) (t : Int)) | 19 => V 19 = .bool (hasPair c (j : Int) (t : Int)) | _ => True) (by kernel_rfl) (by kernel_rfl) ?obs (fun _ h => h.elim) trivial (fun _ _ _ _ _ => trivial) ?loc ?lasts ?walk
                  case obs =>
                    trivial
                  case loc =>
                    intro k V V' L H wx h0 h1 hG
                    match k with
                    | 0 =>
                      try dsimp only at hG ⊢
                      rw [← h0]
                      exact hG
                    | 1 =>
                      try dsimp only at hG ⊢
                      rw [← h0]
                      exact hG
                    | 2 =>
                      try dsimp only at hG ⊢
                      rw [← h0]
                      exact hG
                    | 3 =>
                      try dsimp only at hG ⊢
                      rw [← h0]
                      exact hG
                    | 4 =>
                      try dsimp only at hG ⊢
                      rw [← h0]
                      exact hG
                    | 5 =>
                      try dsimp only at hG ⊢
                      rw [← h0]
                      exact hG
                    | 6 =>
                      try dsimp only at hG ⊢
                      rw [← h0]
                      exact hG
                    | 7 =>
                      try dsimp only at hG ⊢
                      rw [← h0]
                      exact hG
                    | 8 =>
                      try dsimp only at hG ⊢
                      rw [← h0]
                      exact hG
                    | 9 =>
                      try dsimp only at hG ⊢
                      rw [← h0]
                      exact hG
                    | 10 =>
                      try dsimp only at hG ⊢
                      rw [← h0]
                      exact hG
                    | 11 =>
                      try dsimp only at hG ⊢
                      rw [← h0]
                      exact hG
                    | 12 =>
                      try dsimp only at hG ⊢
                      rw [← h0]
                      exact hG
                    | 13 =>
                      try dsimp only at hG ⊢
                      rw [← h0]
                      exact hG
                    | 14 =>
                      try dsimp only at hG ⊢
                      rw [← h0]
                      exact hG
                    | 15 =>
                      try dsimp only at hG ⊢
                      rw [← h0]
                      exact hG
                    | 16 =>
                      try dsimp only at hG ⊢
                      rw [← h0]
                      exact hG
                    | 17 =>
                      try dsimp only at hG ⊢
                      rw [← h0]
                      exact hG
                    | 18 =>
                      try dsimp only at hG ⊢
                      rw [← h0]
                      exact hG
                    | 19 =>
                      try dsimp only at hG ⊢
                      rw [← h0]
                      exact hG
                    | n + 20 => trivial
                  case lasts =>
                    intro i hi V L H wx wy hB hH hk
                    match i, hi with
                    | 0, _ => exact fun h => h
                    | 1, _ => exact fun h => h
                    | 2, _ => exact fun h => h
                    | 3, _ => exact fun h => h
                    | 4, _ => exact fun h => h
                    | 5, _ => exact fun h => h
                    | 6, _ => exact fun h => h
                    | 7, _ => exact fun h => h
                    | 8, _ => exact fun h => h
                    | 9, _ => exact fun h => h
                    | 10, _ => exact fun h => h
                    | 11, _ => exact fun h => h
                    | 12, _ => exact fun h => h
                    | 13, _ => exact fun h => h
                    | 14, _ => exact fun h => h
                    | 15, _ => exact fun h => h
                    | 16, _ => exact fun h => h
                    | 17, _ => exact fun h => h
                    | 18, _ => exact fun h => h
                    | 19, _ => exact fun h => h
                    | n + 20, hn => exact absurd hn (by simp)
                  case walk =>
                    simp (maxSteps := 4000000) only [freeK, Nat.reduceAdd, Act.put, List.setIfInBounds_toArray, List.set_cons_succ, List.set_cons_zero]
                    refine ⟨?_, ?_, ?_, ?_, ?_, ?_, ?_, ?_, ?_, ?_, ?_, ?_, ?_, ?_, ?_, ?_, ?_, ?_, ?_, ?_, ?_⟩
                    · intro V L H w4 hw hk hj hd
                      clear hd
                      go_wp2_with fail
                      exact freePost _ rfl ⟨⟨WritesF.refl _ _, hj⟩, upd_self⟩
                    · intro V L H w4 hw hk hj hd
                      obtain ⟨⟨hL0, hM0, hH0, hv0⟩, -⟩ := hd
                      rw [hv0]
                      have HV0 := Lib.hid hv0
                      clear hv0
                      have q2 := ((fa_noneK hw).cell (p := ⟨wq.heap.size, 2, none⟩) (Nat.lt_trans hszv0 HXZ.out)).trans HQ2.out
                      go_wp2_with fail
                      exact freePost _ rfl ⟨⟨WritesF.refl _ _, hj⟩, upd_self⟩
                    · intro V L H w4 hw hk hj hd
                      obtain ⟨⟨hL1, hM1, hH1, hv1⟩, -⟩ := hd
                      rw [hv1]
                      have HV1 := Lib.hid hv1
                      clear hv1
                      go_wp2_with fail
                      exact freePost _ rfl ⟨⟨WritesF.refl _ _, hj⟩, upd_self⟩
                    · intro V L H w4 hw hk hj hd
                      obtain ⟨⟨hL2, hM2, hH2, hv2⟩, -⟩ := hd
                      rw [hv2]
                      have HV2 := Lib.hid hv2
                      clear hv2
                      go_wp2_with fail
                      exact freePost _ rfl ⟨⟨WritesF.refl _ _, hj⟩, upd_self⟩
                    · intro V L H w4 hw hk hj hd
                      obtain ⟨⟨hL3, hM3, hH3, hv3⟩, -⟩ := hd
                      rw [hv3]
                      have HV3 := Lib.hid hv3
                      clear hv3
                      go_wp2_with fail
                      exact freePost _ rfl ⟨⟨WritesF.refl _ _, hj⟩, upd_self⟩
                    · intro V L H w4 hw hk hj hd
                      obtain ⟨⟨hL4, hM4, hH4, hv4⟩, ⟨hL3, hM3, hH3, hv3⟩, -⟩ := hd
                      rw [hv4, hv3]
                      have HV4 := Lib.hid hv4
                      have HV3 := Lib.hid hv3
                      clear hv4 hv3
                      have tq := ((fa_noneK hw).cell (p := ⟨wv.heap.size, 2, none⟩) HXZ.out).trans HT2.out
                      go_wp2_with fail
                      exact freePost _ rfl ⟨⟨WritesF.refl _ _, hj⟩, upd_self⟩
                    · intro V L H w4 hw hk hj hd
                      obtain ⟨⟨hL5, hM5, hH5, hv5⟩, ⟨hL3, hM3, hH3, hv3⟩, -⟩ := hd
                      rw [hv5, hv3]
                      have HV5 := Lib.hid hv5
                      have HV3 := Lib.hid hv3
                      clear hv5 hv3
                      go_wp2_with fail
                      exact freePost _ rfl ⟨⟨WritesF.refl _ _, hj⟩, upd_self⟩
                    · intro V L H w4 hw hk hj hd
                      obtain ⟨⟨hL3, hM3, hH3, hv3⟩, ⟨hL6, hM6, hH6, hv6⟩, -⟩ := hd
                      rw [hv3, hv6]
                      have HV3 := Lib.hid hv3
                      have HV6 := Lib.hid hv6
                      clear hv3 hv6
                      go_wp2_with fail
                      exact freePost _ rfl ⟨⟨WritesF.refl _ _, hj⟩, upd_self⟩
                    · intro V L H w4 hw hk hj hd
                      obtain ⟨⟨hL7, hM7, hH7, hv7⟩, -⟩ := hd
                      rw [hv7]
                      have HV7 := Lib.hid hv7
                      clear hv7
                      go_wp2_with fail
                      exact freePost _ rfl ⟨⟨WritesF.refl _ _, hj⟩, upd_self⟩
                    · intro V L H w4 hw hk hj hd
                      obtain ⟨⟨hL8, hM8, hH8, hv8⟩, -⟩ := hd
                      rw [hv8]
                      have HV8 := Lib.hid hv8
                      clear hv8
                      have cc0 := ((HWX.out.trans ((fa_noneK hw).mono (Nat.le_of_lt HXZ.out))).cell (p := ⟨w.heap.size + 2, 0, none⟩) hk2).trans cc0
                      have cc1 := ((HWX.out.trans ((fa_noneK hw).mono (Nat.le_of_lt HXZ.out))).cell (p := ⟨w.heap.size + 2, 1, none⟩) hk2).trans cc1
                      go_wp2_with fail
                      exact freePost _ rfl ⟨⟨WritesF.refl _ _, hj⟩, upd_self⟩
                    · intro V L H w4 hw hk hj hd
                      obtain ⟨⟨hL8, hM8, hH8, hv8⟩, -⟩ := hd
                      rw [hv8]
                      have HV8 := Lib.hid hv8
                      clear hv8
                      go_wp2_with fail
                      exact freePost _ rfl ⟨⟨WritesF.refl _ _, hj⟩, upd_self⟩
                    · intro V L H w4 hw hk hj hd
                      obtain ⟨⟨hL8, hM8, hH8, hv8⟩, -⟩ := hd
                      rw [hv8]
                      have HV8 := Lib.hid hv8
                      clear hv8
                      go_wp2_with fail
                      exact freePost _ rfl ⟨⟨WritesF.refl _ _, hj⟩, upd_self⟩
                    · intro V L H w4 hw hk hj hd
                      obtain ⟨⟨hL10, hM10, hH10, hv10⟩, ⟨hL11, hM11, hH11, hv11⟩, ⟨hL8, hM8, hH8, hv8⟩, -⟩ := hd
                      rw [hv10, hv11, hv8]
                      have HV10 := Lib.hid hv10
                      have HV11 := Lib.hid hv11
                      have HV8 := Lib.hid hv8
                      clear hv10 hv11 hv8
                      go_wp2_with fail
                      exact freePost _ rfl ⟨⟨WritesF.refl _ _, hj⟩, upd_self⟩
                    · intro V L H w4 hw hk hj hd
                      obtain ⟨⟨hL12, hM12, hH12, hv12⟩, ⟨hL8, hM8, hH8, hv8⟩, -⟩ := hd
                      rw [hv12, hv8]
                      have HV12 := Lib.hid hv12
                      have HV8 := Lib.hid hv8
                      clear hv12 hv8
                      have x6 := ((HWX.out.trans ((fa_noneK hw).mono (Nat.le_of_lt HXZ.out))).cell (p := ⟨b7, o7 + j, none⟩) hb7v).trans x6
                      go_wp2_with fail
                      exact freePost _ rfl ⟨⟨WritesF.refl _ _, hj⟩, upd_self⟩
                    · intro V L H w4 hw hk hj hd
                      obtain ⟨⟨hL8, hM8, hH8, hv8⟩, -⟩ := hd
                      rw [hv8]
                      have HV8 := Lib.hid hv8
                      clear hv8
                      go_wp2_with fail
                      exact freePost _ rfl ⟨⟨WritesF.refl _ _, hj⟩, upd_self⟩
                    · intro V L H w4 hw hk hj hd
                      obtain ⟨⟨hL8, hM8, hH8, hv8⟩, -⟩ := hd
                      rw [hv8]
                      have HV8 := Lib.hid hv8
                      clear hv8
                      go_wp2_with fail
                      exact freePost _ rfl ⟨⟨WritesF.refl _ _, hj⟩, upd_self⟩
                    · intro V L H w4 hw hk hj hd
                      obtain ⟨⟨hL14, hM14, hH14, hv14⟩, ⟨hL15, hM15, hH15, hv15⟩, ⟨hL8, hM8, hH8, hv8⟩, -⟩ := hd
                      rw [hv14, hv15, hv8]
                      have HV14 := Lib.hid hv14
                      have HV15 := Lib.hid hv15
                      have HV8 := Lib.hid hv8
                      clear hv14 hv15 hv8
                      go_wp2_with fail
                      exact freePost _ rfl ⟨⟨WritesF.refl _ _, hj⟩, upd_self⟩
                    · intro V L H w4 hw hk hj hd
                      obtain ⟨⟨hL16, hM16, hH16, hv16⟩, ⟨hL8, hM8, hH8, hv8⟩, -⟩ := hd
                      rw [hv16, hv8]
                      have HV16 := Lib.hid hv16
                      have HV8 := Lib.hid hv8
                      clear hv16 hv8
                      have x7 := ((HWX.out.trans ((fa_noneK hw).mono (Nat.le_of_lt HXZ.out))).cell (p := ⟨b7, o7 + t, none⟩) hb7v).trans x7
                      go_wp2_with fail
                      exact freePost _ rfl ⟨⟨WritesF.refl _ _, hj⟩, upd_self⟩
                    · intro V L H w4 hw hk hj hd
                      obtain ⟨⟨hL9, hM9, hH9, hv9⟩, ⟨hL13, hM13, hH13, hv13⟩, ⟨hL17, hM17, hH17, hv17⟩, ⟨hL8, hM8, hH8, hv8⟩, -⟩ := hd
                      rw [hv9, hv13, hv17, hv8]
                      have HV9 := Lib.hid hv9
                      have HV13 := Lib.hid hv13
                      have HV17 := Lib.hid hv17
                      have HV8 := Lib.hid hv8
                      clear hv9 hv13 hv17 hv8
                      go_wp2_with fail
                      refine (HPR.out _ (HBELOW.out.trans ((HWX.out.trans ((fa_noneK hw).mono (Nat.le_of_lt HXZ.out))).mono (by omega)))).mono ?_
                      rintro e w2 ⟨rfl, hb2⟩
                      go_wp2_with fail
                      exact freePost _ rfl ⟨⟨(WritesF.refl _ _).later hb2, trivial⟩, upd_self⟩
                    · intro V L H w4 hw hk hj hd
                      obtain ⟨⟨hL8, hM8, hH8, hv8⟩, ⟨hL18, hM18, hH18, hv18⟩, -⟩ := hd
                      rw [hv8, hv18]
                      have HV8 := Lib.hid hv8
                      have HV18 := Lib.hid hv18
                      clear hv8 hv18
                      go_wp2_with fail
                      exact freePost _ rfl ⟨⟨WritesF.refl _ _, hj⟩, upd_self⟩
                    · intro V L H w4 hw hj hd hap hdead
                      obtain ⟨⟨hL0, hM0, hH0, hv0⟩, ⟨hL1, hM1, hH1, hv1⟩, ⟨hL2, hM2, hH2, hv2⟩, ⟨hL3, hM3, hH3, hv3⟩, ⟨hL4, hM4, hH4, hv4⟩, ⟨hL5, hM5, hH5, hv5⟩, ⟨hL6, hM6, hH6, hv6⟩, ⟨hL7, hM7, hH7, hv7⟩, ⟨hL8, hM8, hH8, hv8⟩, ⟨hL9, hM9, hH9, hv9⟩, ⟨hL10, hM10, hH10, hv10⟩, ⟨hL11, hM11, hH11, hv11⟩, ⟨hL12, hM12, hH12, hv12⟩, ⟨hL13, hM13, hH13, hv13⟩, ⟨hL14, hM14, hH14, hv14⟩, ⟨hL15, hM15, hH15, hv15⟩, ⟨hL16, hM16, hH16, hv16⟩, ⟨hL17, hM17, hH17, hv17⟩, ⟨hL18, hM18, hH18, hv18⟩, ⟨hL19, hM19, hH19, hv19⟩, -⟩ := hd
                      rw [hv0, hv1, hv2, hv3, hv4, hv5, hv6, hv7, hv8, hv9, hv10, hv11, hv12, hv13, hv14, hv15, hv16, hv17, hv18, hv19]
                      clear hv0 hv1 hv2 hv3 hv4 hv5 hv6 hv7 hv8 hv9 hv10 hv11 hv12 hv13 hv14 hv15 hv16 hv17 hv18 hv19
                      have HSW := Lib.hid (HSX1.out.later (fa_noneK hw) (Nat.lt_trans (show w2.heap.size < wv.heap.size by omega) HXZ.out))
                      have hsz4 : wv.heap.size < w4.heap.size := Nat.lt_of_lt_of_le HXZ.out (fa_noneK hw).size
                      have HSXW := Lib.hid (HWX.out.trans ((fa_noneK hw).mono (Nat.le_of_lt HXZ.out)))
                      skip
                      clear hw hap hdead
                      cases hpb : hasPair c (j : Int) (t : Int)
                      · have HEQ := Lib.hid (HYN1.out hpb)
                        clear HYN1 HYY1 hpb
                        go_wp2
                        go_roundw
                        case rel => exact ⟨t + 1, by omega, by go_num, by rw [HEQ.out]; exact HSW.out⟩
                        case measure => simp [intOf]; omega
                      · have HEQ := Lib.hid (HYY1.out hpb)
                        clear HYN1 HYY1 hpb
                        obtain ⟨a5, q5, ho5, hc5, -⟩ := HSW.out
                        have r0 : w4.cell? ⟨w2.heap.size, 0, none⟩ = some (.int .i64 R.fN) := pblk_cell (j := 0) hc5 rfl
                        have r1 : w4.cell? ⟨w2.heap.size, 1, none⟩ = some (.slice a5 R.fRows.length q5) := pblk_cell (j := 1) hc5 rfl
                        have HS5 := Lib.hid (Sl.of (ho5.lies fun y hy => (⟨Nat.zero_le _, hy.2.1⟩ : 0 ≤ y ∧ y < w4.heap.size)))
                        have hwC : w2.heap.size < w4.heap.size := by omega
                        clear ho5 hc5
                        go_wp2_with fail
                        refine (impl_AddPair (c0_0 := q5) R HRS.out.ok HRS.out.sz (j : Int) (by unfold okI; omega) (t : Int) (by unfold okI; omega) _ (Nat.le_refl _) HS5.out).mono ?_
                        rintro e w6 ⟨a6, q6, rfl, ho6, hb6⟩
                        have s0 := (hb6.cell (p := ⟨w2.heap.size, 0, none⟩) hwC).trans r0
                        have s1 := (hb6.cell (p := ⟨w2.heap.size, 1, none⟩) hwC).trans r1
                        have HPUT := Lib.hid (HSW.out.put hb6 hwC (by omega) ho6)
                        have hf0 : w6.frozen? ⟨w2.heap.size, 0, none⟩ = false := (hb6.frozen (p := ⟨w2.heap.size, 0, none⟩) hwC).trans (pblk_frozen (j := 0) HSW.out.choose_spec.choose_spec.2.1)
                        have hf1 : w6.frozen? ⟨w2.heap.size, 1, none⟩ = false := (hb6.frozen (p := ⟨w2.heap.size, 1, none⟩) hwC).trans (pblk_frozen (j := 1) HSW.out.choose_spec.choose_spec.2.1)
                        have hszw6 := hb6.size
                        have hw6C : w2.heap.size < w6.heap.size := by omega
                        clear ho6 hb6 r0 r1
                        go_wp2
                        go_roundw
                        case rel => exact ⟨t + 1, by omega, by go_num, by rw [HEQ.out]; exact HPUT.out⟩
                        case measure => simp [intOf]; omega
                · skip
                  have HEQ := Lib.hid (HN2.out m2)
                  have hm : (at_.fMode == 2) = false := by simpa using m2
                  rw [m1] at q2
                  have HQ2 := Lib.hid (((HWX.out.cell (p := ⟨wq.heap.size, 2, none⟩) hszv0)).trans q2)
                  have HT2 := Lib.hid (pblk_cell (j := 2) (v := .int .i64 at_.fMode) HXC.out rfl)
                  clear HN1 HN2 HYN HYY jm_ jn_ jt_ jc_ m1 m2
                  skip
                  go_wp2_with fail
                  refine wp_region_freeK [([], .none, []), ([0], .none, []), ([1], .none, []), ([2], .none, []), ([3], .none, []), ([4, 3], .none, []), ([5, 3], .none, []), ([3, 6], .none, []), ([7], .none, []), ([8], .none, []), ([8], .none, []), ([8], .none, []), ([10, 11, 8], .none, []), ([12, 8], .none, []), ([8], .none, []), ([8], .none, []), ([14, 15, 8], .none, []), ([16, 8], .none, []), ([9, 13, 17, 8], .none, []), ([8, 18], .none, [])] [0, 1, 2, 3, 4, 5, 6, 7, 8, 9, 10, 11, 12, 13, 14, 15, 16, 17, 18, 19] [] (fun _ => False) (fun _ => True) (fun _ => 0) (fun jq9 V L H wx => match jq9 with | 0 => V 0 = .pointer (some ⟨wq.heap.size, 2, none⟩) | 1 => V 1 = .int .i64 1 | 2 => V 2 = .bool true | 3 => V 3 = .bool true | 4 => V 4 = .pointer (some ⟨wv.heap.size, 2, none⟩) | 5 => V 5 = .int .i64 at_.fMode | 6 => V 6 = .bool false | 7 => V 7 = .bool false | 8 => V 8 = .bool false | 9 => V 9 = undef | 10 => V 10 = undef | 11 => V 11 = undef | 12 => V 12 = undef | 13 => V 13 = undef | 14 => V 14 = undef | 15 => V 15 = undef | 16 => V 16 = undef | 17 => V 17 = undef | 18 => V 18 = undef | 19 => V 19 = .bool false | _ => True) (by kernel_rfl) (by kernel_rfl) ?obs (fun _ h => h.elim) trivial (fun _ _ _ _ _ => trivial) ?loc ?lasts ?walk
                  case obs =>
                    trivial
                  case loc =>
                    intro k V V' L H wx h0 h1 hG
                    match k with
                    | 0 =>
                      try dsimp only at hG ⊢
                      rw [← h0]
                      exact hG
                    | 1 =>
                      try dsimp only at hG ⊢
                      rw [← h0]
                      exact hG
                    | 2 =>
                      try dsimp only at hG ⊢
                      rw [← h0]
                      exact hG
                    | 3 =>
                      try dsimp only at hG ⊢
                      rw [← h0]
                      exact hG
                    | 4 =>
                      try dsimp only at hG ⊢
                      rw [← h0]
                      exact hG
                    | 5 =>
                      try dsimp only at hG ⊢
                      rw [← h0]
                      exact hG
                    | 6 =>
                      try dsimp only at hG ⊢
                      rw [← h0]
                      exact hG
                    | 7 =>
                      try dsimp only at hG ⊢
                      rw [← h0]
                      exact hG
                    | 8 =>
                      try dsimp only at hG ⊢
                      rw [← h0]
                      exact hG
                    | 9 =>
                      try dsimp only at hG ⊢
                      rw [← h0]
                      exact hG
                    | 10 =>
                      try dsimp only at hG ⊢
                      rw [← h0]
                      exact hG
                    | 11 =>
                      try dsimp only at hG ⊢
                      rw [← h0]
                      exact hG
                    | 12 =>
                      try dsimp only at hG ⊢
                      rw [← h0]
                      exact hG
                    | 13 =>
                      try dsimp only at hG ⊢
                      rw [← h0]
                      exact hG
                    | 14 =>
                      try dsimp only at hG ⊢
                      rw [← h0]
                      exact hG
                    | 15 =>
                      try dsimp only at hG ⊢
                      rw [← h0]
                      exact hG
                    | 16 =>
                      try dsimp only at hG ⊢
                      rw [← h0]
                      exact hG
                    | 17 =>
                      try dsimp only at hG ⊢
                      rw [← h0]
                      exact hG
                    | 18 =>
                      try dsimp only at hG ⊢
                      rw [← h0]
                      exact hG
                    | 19 =>
                      try dsimp only at hG ⊢
                      rw [← h0]
                      exact hG
                    | n + 20 => trivial
                  case lasts =>
                    intro i hi V L H wx wy hB hH hk
                    match i, hi with
                    | 0, _ => exact fun h => h
                    | 1, _ => exact fun h => h
                    | 2, _ => exact fun h => h
                    | 3, _ => exact fun h => h
                    | 4, _ => exact fun h => h
                    | 5, _ => exact fun h => h
                    | 6, _ => exact fun h => h
                    | 7, _ => exact fun h => h
                    | 8, _ => exact fun h => h
                    | 9, _ => exact fun h => h
                    | 10, _ => exact fun h => h
                    | 11, _ => exact fun h => h
                    | 12, _ => exact fun h => h
                    | 13, _ => exact fun h => h
                    | 14, _ => exact fun h => h
                    | 15, _ => exact fun h => h
                    | 16, _ => exact fun h => h
                    | 17, _ => exact fun h => h
                    | 18, _ => exact fun h => h
                    | 19, _ => exact fun h => h
                    | n + 20, hn => exact absurd hn (by simp)
                  case walk =>
                    simp (maxSteps := 4000000) only [freeK, Nat.reduceAdd, Act.put, List.setIfInBounds_toArray, List.set_cons_succ, List.set_cons_zero]
                    refine ⟨?_, ?_, ?_, ?_, ?_, ?_, ?_, ?_, ?_, ?_, ?_, ?_, ?_, ?_, ?_, ?_, ?_, ?_, ?_, ?_, ?_⟩
                    · intro V L H w4 hw hk hj hd
                      clear hd
                      go_wp2_with fail
                      exact freePost _ rfl ⟨⟨WritesF.refl _ _, hj⟩, upd_self⟩
                    · intro V L H w4 hw hk hj hd
                      obtain ⟨⟨hL0, hM0, hH0, hv0⟩, -⟩ := hd
                      rw [hv0]
                      have HV0 := Lib.hid hv0
                      clear hv0
                      have q2 := ((fa_noneK hw).cell (p := ⟨wq.heap.size, 2, none⟩) (Nat.lt_trans hszv0 HXZ.out)).trans HQ2.out
                      go_wp2_with fail
                      exact freePost _ rfl ⟨⟨WritesF.refl _ _, hj⟩, upd_self⟩
                    · intro V L H w4 hw hk hj hd
                      obtain ⟨⟨hL1, hM1, hH1, hv1⟩, -⟩ := hd
                      rw [hv1]
                      have HV1 := Lib.hid hv1
                      clear hv1
                      go_wp2_with fail
                      exact freePost _ rfl ⟨⟨WritesF.refl _ _, hj⟩, upd_self⟩
                    · intro V L H w4 hw hk hj hd
                      obtain ⟨⟨hL2, hM2, hH2, hv2⟩, -⟩ := hd
                      rw [hv2]
                      have HV2 := Lib.hid hv2
                      clear hv2
                      go_wp2_with fail
                      exact freePost _ rfl ⟨⟨WritesF.refl _ _, hj⟩, upd_self⟩
                    · intro V L H w4 hw hk hj hd
                      obtain ⟨⟨hL3, hM3, hH3, hv3⟩, -⟩ := hd
                      rw [hv3]
                      have HV3 := Lib.hid hv3
                      clear hv3
                      go_wp2_with fail
                      exact freePost _ rfl ⟨⟨WritesF.refl _ _, hj⟩, upd_self⟩
                    · intro V L H w4 hw hk hj hd
                      obtain ⟨⟨hL4, hM4, hH4, hv4⟩, ⟨hL3, hM3, hH3, hv3⟩, -⟩ := hd
                      rw [hv4, hv3]
                      have HV4 := Lib.hid hv4
                      have HV3 := Lib.hid hv3
                      clear hv4 hv3
                      have tq := ((fa_noneK hw).cell (p := ⟨wv.heap.size, 2, none⟩) HXZ.out).trans HT2.out
                      go_wp2_with fail
                      exact freePost _ rfl ⟨⟨WritesF.refl _ _, hj⟩, upd_self⟩
                    · intro V L H w4 hw hk hj hd
                      obtain ⟨⟨hL5, hM5, hH5, hv5⟩, ⟨hL3, hM3, hH3, hv3⟩, -⟩ := hd
                      rw [hv5, hv3]
                      have HV5 := Lib.hid hv5
                      have HV3 := Lib.hid hv3
                      clear hv5 hv3
                      go_wp2_with fail
                      exact freePost _ rfl ⟨⟨WritesF.refl _ _, hj⟩, upd_self⟩
                    · intro V L H w4 hw hk hj hd
                      obtain ⟨⟨hL3, hM3, hH3, hv3⟩, ⟨hL6, hM6, hH6, hv6⟩, -⟩ := hd
                      rw [hv3, hv6]
                      have HV3 := Lib.hid hv3
                      have HV6 := Lib.hid hv6
                      clear hv3 hv6
                      go_wp2_with fail
                      exact freePost _ rfl ⟨⟨WritesF.refl _ _, hj⟩, upd_self⟩
                    · intro V L H w4 hw hk hj hd
                      obtain ⟨⟨hL7, hM7, hH7, hv7⟩, -⟩ := hd
                      rw [hv7]
                      have HV7 := Lib.hid hv7
                      clear hv7
                      go_wp2_with fail
                      exact freePost _ rfl ⟨⟨WritesF.refl _ _, hj⟩, upd_self⟩
                    · intro V L H w4 hw hk hj hd
                      obtain ⟨⟨hL8, hM8, hH8, hv8⟩, -⟩ := hd
                      rw [hv8]
                      have HV8 := Lib.hid hv8
                      clear hv8
                      go_wp2_with fail
                      exact freePost _ rfl ⟨⟨WritesF.refl _ _, hj⟩, upd_self⟩
                    · intro V L H w4 hw hk hj hd
                      obtain ⟨⟨hL8, hM8, hH8, hv8⟩, -⟩ := hd
                      rw [hv8]
                      have HV8 := Lib.hid hv8
                      clear hv8
                      go_wp2_with fail
                      exact freePost _ rfl ⟨⟨WritesF.refl _ _, hj⟩, upd_self⟩
                    · intro V L H w4 hw hk hj hd
                      obtain ⟨⟨hL8, hM8, hH8, hv8⟩, -⟩ := hd
                      rw [hv8]
                      have HV8 := Lib.hid hv8
                      clear hv8
                      go_wp2_with fail
                      exact freePost _ rfl ⟨⟨WritesF.refl _ _, hj⟩, upd_self⟩
                    · intro V L H w4 hw hk hj hd
                      obtain ⟨⟨hL10, hM10, hH10, hv10⟩, ⟨hL11, hM11, hH11, hv11⟩, ⟨hL8, hM8, hH8, hv8⟩, -⟩ := hd
                      rw [hv10, hv11, hv8]
                      have HV10 := Lib.hid hv10
                      have HV11 := Lib.hid hv11
                      have HV8 := Lib.hid hv8
                      clear hv10 hv11 hv8
                      go_wp2_with fail
                      exact freePost _ rfl ⟨⟨WritesF.refl _ _, hj⟩, upd_self⟩
                    · intro V L H w4 hw hk hj hd
                      obtain ⟨⟨hL12, hM12, hH12, hv12⟩, ⟨hL8, hM8, hH8, hv8⟩, -⟩ := hd
                      rw [hv12, hv8]
                      have HV12 := Lib.hid hv12
                      have HV8 := Lib.hid hv8
                      clear hv12 hv8
                      go_wp2_with fail
                      exact freePost _ rfl ⟨⟨WritesF.refl _ _, hj⟩, upd_self⟩
                    · intro V L H w4 hw hk hj hd
                      obtain ⟨⟨hL8, hM8, hH8, hv8⟩, -⟩ := hd
                      rw [hv8]
                      have HV8 := Lib.hid hv8
                      clear hv8
                      go_wp2_with fail
                      exact freePost _ rfl ⟨⟨WritesF.refl _ _, hj⟩, upd_self⟩
                    · intro V L H w4 hw hk hj hd
                      obtain ⟨⟨hL8, hM8, hH8, hv8⟩, -⟩ := hd
                      rw [hv8]
                      have HV8 := Lib.hid hv8
                      clear hv8
                      go_wp2_with fail
                      exact freePost _ rfl ⟨⟨WritesF.refl _ _, hj⟩, upd_self⟩
                    · intro V L H w4 hw hk hj hd
                      obtain ⟨⟨hL14, hM14, hH14, hv14⟩, ⟨hL15, hM15, hH15, hv15⟩, ⟨hL8, hM8, hH8, hv8⟩, -⟩ := hd
                      rw [hv14, hv15, hv8]
                      have HV14 := Lib.hid hv14
                      have HV15 := Lib.hid hv15
                      have HV8 := Lib.hid hv8
                      clear hv14 hv15 hv8
                      go_wp2_with fail
                      exact freePost _ rfl ⟨⟨WritesF.refl _ _, hj⟩, upd_self⟩
                    · intro V L H w4 hw hk hj hd
                      obtain ⟨⟨hL16, hM16, hH16, hv16⟩, ⟨hL8, hM8, hH8, hv8⟩, -⟩ := hd
                      rw [hv16, hv8]
                      have HV16 := Lib.hid hv16
                      have HV8 := Lib.hid hv8
                      clear hv16 hv8
                      go_wp2_with fail
                      exact freePost _ rfl ⟨⟨WritesF.refl _ _, hj⟩, upd_self⟩
                    · intro V L H w4 hw hk hj hd
                      obtain ⟨⟨hL9, hM9, hH9, hv9⟩, ⟨hL13, hM13, hH13, hv13⟩, ⟨hL17, hM17, hH17, hv17⟩, ⟨hL8, hM8, hH8, hv8⟩, -⟩ := hd
                      rw [hv9, hv13, hv17, hv8]
                      have HV9 := Lib.hid hv9
                      have HV13 := Lib.hid hv13
                      have HV17 := Lib.hid hv17
                      have HV8 := Lib.hid hv8
                      clear hv9 hv13 hv17 hv8
                      go_wp2_with fail
                      exact freePost _ rfl ⟨⟨WritesF.refl _ _, hj⟩, upd_self⟩
                    · intro V L H w4 hw hk hj hd
                      obtain ⟨⟨hL8, hM8, hH8, hv8⟩, ⟨hL18, hM18, hH18, hv18⟩, -⟩ := hd
                      rw [hv8, hv18]
                      have HV8 := Lib.hid hv8
                      have HV18 := Lib.hid hv18
                      clear hv8 hv18
                      go_wp2_with fail
                      exact freePost _ rfl ⟨⟨WritesF.refl _ _, hj⟩, upd_self⟩
                    · intro V L H w4 hw hj hd hap hdead
                      obtain ⟨⟨hL0, hM0, hH0, hv0⟩, ⟨hL1, hM1, hH1, hv1⟩, ⟨hL2, hM2, hH2, hv2⟩, ⟨hL3, hM3, hH3, hv3⟩, ⟨hL4, hM4, hH4, hv4⟩, ⟨hL5, hM5, hH5, hv5⟩, ⟨hL6, hM6, hH6, hv6⟩, ⟨hL7, hM7, hH7, hv7⟩, ⟨hL8, hM8, hH8, hv8⟩, ⟨hL9, hM9, hH9, hv9⟩, ⟨hL10, hM10, hH10, hv10⟩, ⟨hL11, hM11, hH11, hv11⟩, ⟨hL12, hM12, hH12, hv12⟩, ⟨hL13, hM13, hH13, hv13⟩, ⟨hL14, hM14, hH14, hv14⟩, ⟨hL15, hM15, hH15, hv15⟩, ⟨hL16, hM16, hH16, hv16⟩, ⟨hL17, hM17, hH17, hv17⟩, ⟨hL18, hM18, hH18, hv18⟩, ⟨hL19, hM19, hH19, hv19⟩, -⟩ := hd
                      rw [hv0, hv1, hv2, hv3, hv4, hv5, hv6, hv7, hv8, hv9, hv10, hv11, hv12, hv13, hv14, hv15, hv16, hv17, hv18, hv19]
                      clear hv0 hv1 hv2 hv3 hv4 hv5 hv6 hv7 hv8 hv9 hv10 hv11 hv12 hv13 hv14 hv15 hv16 hv17 hv18 hv19
                      have HSW := Lib.hid (HSX1.out.later (fa_noneK hw) (Nat.lt_trans (show w2.heap.size < wv.heap.size by omega) HXZ.out))
                      have hsz4 : wv.heap.size < w4.heap.size := Nat.lt_of_lt_of_le HXZ.out (fa_noneK hw).size
                      have HSXW := Lib.hid (HWX.out.trans ((fa_noneK hw).mono (Nat.le_of_lt HXZ.out)))
                      skip
                      clear hw hap hdead
                      go_wp2
                      go_roundw
                      case rel => exact ⟨t + 1, by omega, by go_num, by rw [HEQ.out]; exact HSW.out⟩
                      case measure => simp [intOf]; omega
              · skip
                have HEQ := Lib.hid (HN1.out m1)
                have hm : (aj.fMode == 1) = false := by simpa using m1
                have HQ2 := Lib.hid (((HWX.out.cell (p := ⟨wq.heap.size, 2, none⟩) hszv0)).trans q2)
                have HT2 := Lib.hid (pblk_cell (j := 2) (v := .int .i64 at_.fMode) HXC.out rfl)
                clear HN1 HN2 HYN HYY jm_ jn_ jt_ jc_ m1
                skip
                go_wp2_with fail
                refine wp_region_freeK [([], .none, []), ([0], .none, []), ([1], .none, []), ([2], .none, []), ([3], .none, []), ([4, 3], .none, []), ([5, 3], .none, []), ([3, 6], .none, []), ([7], .none, []), ([8], .none, []), ([8], .none, []), ([8], .none, []), ([10, 11, 8], .none, []), ([12, 8], .none, []), ([8], .none, []), ([8], .none, []), ([14, 15, 8], .none, []), ([16, 8], .none, []), ([9, 13, 17, 8], .none, []), ([8, 18], .none, [])] [0, 1, 2, 3, 4, 5, 6, 7, 8, 9, 10, 11, 12, 13, 14, 15, 16, 17, 18, 19] [] (fun _ => False) (fun _ => True) (fun _ => 0) (fun jq9 V L H wx => match jq9 with | 0 => V 0 = .pointer (some ⟨wq.heap.size, 2, none⟩) | 1 => V 1 = .int .i64 aj.fMode | 2 => V 2 = .bool false | 3 => V 3 = .bool false | 4 => V 4 = undef | 5 => V 5 = undef | 6 => V 6 = undef | 7 => V 7 = .bool false | 8 => V 8 = .bool false | 9 => V 9 = undef | 10 => V 10 = undef | 11 => V 11 = undef | 12 => V 12 = undef | 13 => V 13 = undef | 14 => V 14 = undef | 15 => V 15 = undef | 16 => V 16 = undef | 17 => V 17 = undef | 18 => V 18 = undef | 19 => V 19 = .bool false | _ => True) (by kernel_rfl) (by kernel_rfl) ?obs (fun _ h => h.elim) trivial (fun _ _ _ _ _ => trivial) ?loc ?lasts ?walk
                case obs =>
                  trivial
                case loc =>
                  intro k V V' L H wx h0 h1 hG
                  match k with
                  | 0 =>
                    try dsimp only at hG ⊢
                    rw [← h0]
                    exact hG
                  | 1 =>
                    try dsimp only at hG ⊢
                    rw [← h0]
                    exact hG
                  | 2 =>
                    try dsimp only at hG ⊢
                    rw [← h0]
                    exact hG
                  | 3 =>
                    try dsimp only at hG ⊢
                    rw [← h0]
                    exact hG
                  | 4 =>
                    try dsimp only at hG ⊢
                    rw [← h0]
                    exact hG
                  | 5 =>
                    try dsimp only at hG ⊢
                    rw [← h0]
                    exact hG
                  | 6 =>
                    try dsimp only at hG ⊢
                    rw [← h0]
                    exact hG
                  | 7 =>
                    try dsimp only at hG ⊢
                    rw [← h0]
                    exact hG
                  | 8 =>
                    try dsimp only at hG ⊢
                    rw [← h0]
                    exact hG
                  | 9 =>
                    try dsimp only at hG ⊢
                    rw [← h0]
                    exact hG
                  | 10 =>
                    try dsimp only at hG ⊢
                    rw [← h0]
                    exact hG
                  | 11 =>
                    try dsimp only at hG ⊢
                    rw [← h0]
                    exact hG
                  | 12 =>
                    try dsimp only at hG ⊢
                    rw [← h0]
                    exact hG
                  | 13 =>
                    try dsimp only at hG ⊢
                    rw [← h0]
                    exact hG
                  | 14 =>
                    try dsimp only at hG ⊢
                    rw [← h0]
                    exact hG
                  | 15 =>
                    try dsimp only at hG ⊢
                    rw [← h0]
                    exact hG
                  | 16 =>
                    try dsimp only at hG ⊢
                    rw [← h0]
                    exact hG
                  | 17 =>
                    try dsimp only at hG ⊢
                    rw [← h0]
                    exact hG
                  | 18 =>
                    try dsimp only at hG ⊢
                    rw [← h0]
                    exact hG
                  | 19 =>
                    try dsimp only at hG ⊢
                    rw [← h0]
                    exact hG
                  | n + 20 => trivial
                case lasts =>
                  intro i hi V L H wx wy hB hH hk
                  match i, hi with
                  | 0, _ => exact fun h => h
                  | 1, _ => exact fun h => h
                  | 2, _ => exact fun h => h
                  | 3, _ => exact fun h => h
                  | 4, _ => exact fun h => h
                  | 5, _ => exact fun h => h
                  | 6, _ => exact fun h => h
                  | 7, _ => exact fun h => h
                  | 8, _ => exact fun h => h
                  | 9, _ => exact fun h => h
                  | 10, _ => exact fun h => h
                  | 11, _ => exact fun h => h
                  | 12, _ => exact fun h => h
                  | 13, _ => exact fun h => h
                  | 14, _ => exact fun h => h
                  | 15, _ => exact fun h => h
                  | 16, _ => exact fun h => h
                  | 17, _ => exact fun h => h
                  | 18, _ => exact fun h => h
                  | 19, _ => exact fun h => h
                  | n + 20, hn => exact absurd hn (by simp)
                case walk =>
                  simp (maxSteps := 4000000) only [freeK, Nat.reduceAdd, Act.put, List.setIfInBounds_toArray, List.set_cons_succ, List.set_cons_zero]
                  refine ⟨?_, ?_, ?_, ?_, ?_, ?_, ?_, ?_, ?_, ?_, ?_, ?_, ?_, ?_, ?_, ?_, ?_, ?_, ?_, ?_, ?_⟩
                  · intro V L H w4 hw hk hj hd
                    clear hd
                    go_wp2_with fail
                    exact freePost _ rfl ⟨⟨WritesF.refl _ _, hj⟩, upd_self⟩
                  · intro V L H w4 hw hk hj hd
                    obtain ⟨⟨hL0, hM0, hH0, hv0⟩, -⟩ := hd
                    rw [hv0]
                    have HV0 := Lib.hid hv0
                    clear hv0
                    have q2 := ((fa_noneK hw).cell (p := ⟨wq.heap.size, 2, none⟩) (Nat.lt_trans hszv0 HXZ.out)).trans HQ2.out
                    go_wp2_with fail
                    exact freePost _ rfl ⟨⟨WritesF.refl _ _, hj⟩, upd_self⟩
                  · intro V L H w4 hw hk hj hd
                    obtain ⟨⟨hL1, hM1, hH1, hv1⟩, -⟩ := hd
                    rw [hv1]
                    have HV1 := Lib.hid hv1
                    clear hv1
                    go_wp2_with fail
                    exact freePost _ rfl ⟨⟨WritesF.refl _ _, hj⟩, upd_self⟩
                  · intro V L H w4 hw hk hj hd
                    obtain ⟨⟨hL2, hM2, hH2, hv2⟩, -⟩ := hd
                    rw [hv2]
                    have HV2 := Lib.hid hv2
                    clear hv2
                    go_wp2_with fail
                    exact freePost _ rfl ⟨⟨WritesF.refl _ _, hj⟩, upd_self⟩
                  · intro V L H w4 hw hk hj hd
                    obtain ⟨⟨hL3, hM3, hH3, hv3⟩, -⟩ := hd
                    rw [hv3]
                    have HV3 := Lib.hid hv3
                    clear hv3
                    go_wp2_with fail
                    exact freePost _ rfl ⟨⟨WritesF.refl _ _, hj⟩, upd_self⟩
                  · intro V L H w4 hw hk hj hd
                    obtain ⟨⟨hL4, hM4, hH4, hv4⟩, ⟨hL3, hM3, hH3, hv3⟩, -⟩ := hd
                    rw [hv4, hv3]
                    have HV4 := Lib.hid hv4
                    have HV3 := Lib.hid hv3
                    clear hv4 hv3
                    go_wp2_with fail
                    exact freePost _ rfl ⟨⟨WritesF.refl _ _, hj⟩, upd_self⟩
                  · intro V L H w4 hw hk hj hd
                    obtain ⟨⟨hL5, hM5, hH5, hv5⟩, ⟨hL3, hM3, hH3, hv3⟩, -⟩ := hd
                    rw [hv5, hv3]
                    have HV5 := Lib.hid hv5
                    have HV3 := Lib.hid hv3
                    clear hv5 hv3
                    go_wp2_with fail
                    exact freePost _ rfl ⟨⟨WritesF.refl _ _, hj⟩, upd_self⟩
                  · intro V L H w4 hw hk hj hd
                    obtain ⟨⟨hL3, hM3, hH3, hv3⟩, ⟨hL6, hM6, hH6, hv6⟩, -⟩ := hd
                    rw [hv3, hv6]
                    have HV3 := Lib.hid hv3
                    have HV6 := Lib.hid hv6
                    clear hv3 hv6
                    go_wp2_with fail
                    exact freePost _ rfl ⟨⟨WritesF.refl _ _, hj⟩, upd_self⟩
                  · intro V L H w4 hw hk hj hd
                    obtain ⟨⟨hL7, hM7, hH7, hv7⟩, -⟩ := hd
                    rw [hv7]
                    have HV7 := Lib.hid hv7
                    clear hv7
                    go_wp2_with fail
                    exact freePost _ rfl ⟨⟨WritesF.refl _ _, hj⟩, upd_self⟩
                  · intro V L H w4 hw hk hj hd
                    obtain ⟨⟨hL8, hM8, hH8, hv8⟩, -⟩ := hd
                    rw [hv8]
                    have HV8 := Lib.hid hv8
                    clear hv8
                    go_wp2_with fail
                    exact freePost _ rfl ⟨⟨WritesF.refl _ _, hj⟩, upd_self⟩
                  · intro V L H w4 hw hk hj hd
                    obtain ⟨⟨hL8, hM8, hH8, hv8⟩, -⟩ := hd
                    rw [hv8]
                    have HV8 := Lib.hid hv8
                    clear hv8
                    go_wp2_with fail
                    exact freePost _ rfl ⟨⟨WritesF.refl _ _, hj⟩, upd_self⟩
                  · intro V L H w4 hw hk hj hd
                    obtain ⟨⟨hL8, hM8, hH8, hv8⟩, -⟩ := hd
                    rw [hv8]
                    have HV8 := Lib.hid hv8
                    clear hv8
                    go_wp2_with fail
                    exact freePost _ rfl ⟨⟨WritesF.refl _ _, hj⟩, upd_self⟩
                  · intro V L H w4 hw hk hj hd
                    obtain ⟨⟨hL10, hM10, hH10, hv10⟩, ⟨hL11, hM11, hH11, hv11⟩, ⟨hL8, hM8, hH8, hv8⟩, -⟩ := hd
                    rw [hv10, hv11, hv8]
                    have HV10 := Lib.hid hv10
                    have HV11 := Lib.hid hv11
                    have HV8 := Lib.hid hv8
                    clear hv10 hv11 hv8
                    go_wp2_with fail
                    exact freePost _ rfl ⟨⟨WritesF.refl _ _, hj⟩, upd_self⟩
                  · intro V L H w4 hw hk hj hd
                    obtain ⟨⟨hL12, hM12, hH12, hv12⟩, ⟨hL8, hM8, hH8, hv8⟩, -⟩ := hd
                    rw [hv12, hv8]
                    have HV12 := Lib.hid hv12
                    have HV8 := Lib.hid hv8
                    clear hv12 hv8
                    go_wp2_with fail
                    exact freePost _ rfl ⟨⟨WritesF.refl _ _, hj⟩, upd_self⟩
                  · intro V L H w4 hw hk hj hd
                    obtain ⟨⟨hL8, hM8, hH8, hv8⟩, -⟩ := hd
                    rw [hv8]
                    have HV8 := Lib.hid hv8
                    clear hv8
                    go_wp2_with fail
                    exact freePost _ rfl ⟨⟨WritesF.refl _ _, hj⟩, upd_self⟩
                  · intro V L H w4 hw hk hj hd
                    obtain ⟨⟨hL8, hM8, hH8, hv8⟩, -⟩ := hd
                    rw [hv8]
                    have HV8 := Lib.hid hv8
                    clear hv8
                    go_wp2_with fail
                    exact freePost _ rfl ⟨⟨WritesF.refl _ _, hj⟩, upd_self⟩
                  · intro V L H w4 hw hk hj hd
                    obtain ⟨⟨hL14, hM14, hH14, hv14⟩, ⟨hL15, hM15, hH15, hv15⟩, ⟨hL8, hM8, hH8, hv8⟩, -⟩ := hd
                    rw [hv14, hv15, hv8]
                    have HV14 := Lib.hid hv14
                    have HV15 := Lib.hid hv15
                    have HV8 := Lib.hid hv8
                    clear hv14 hv15 hv8
                    go_wp2_with fail
                    exact freePost _ rfl ⟨⟨WritesF.refl _ _, hj⟩, upd_self⟩
                  · intro V L H w4 hw hk hj hd
                    obtain ⟨⟨hL16, hM16, hH16, hv16⟩, ⟨hL8, hM8, hH8, hv8⟩, -⟩ := hd
                    rw [hv16, hv8]
                    have HV16 := Lib.hid hv16
                    have HV8 := Lib.hid hv8
                    clear hv16 hv8
                    go_wp2_with fail
                    exact freePost _ rfl ⟨⟨WritesF.refl _ _, hj⟩, upd_self⟩
                  · intro V L H w4 hw hk hj hd
                    obtain ⟨⟨hL9, hM9, hH9, hv9⟩, ⟨hL13, hM13, hH13, hv13⟩, ⟨hL17, hM17, hH17, hv17⟩, ⟨hL8, hM8, hH8, hv8⟩, -⟩ := hd
                    rw [hv9, hv13, hv17, hv8]
                    have HV9 := Lib.hid hv9
                    have HV13 := Lib.hid hv13
                    have HV17 := Lib.hid hv17
                    have HV8 := Lib.hid hv8
                    clear hv9 hv13 hv17 hv8
                    go_wp2_with fail
                    exact freePost _ rfl ⟨⟨WritesF.refl _ _, hj⟩, upd_self⟩
                  · intro V L H w4 hw hk hj hd
                    obtain ⟨⟨hL8, hM8, hH8, hv8⟩, ⟨hL18, hM18, hH18, hv18⟩, -⟩ := hd
                    rw [hv8, hv18]
                    have HV8 := Lib.hid hv8
                    have HV18 := Lib.hid hv18
                    clear hv8 hv18
                    go_wp2_with fail
                    exact freePost _ rfl ⟨⟨WritesF.refl _ _, hj⟩, upd_self⟩
                  · intro V L H w4 hw hj hd hap hdead
                    obtain ⟨⟨hL0, hM0, hH0, hv0⟩, ⟨hL1, hM1, hH1, hv1⟩, ⟨hL2, hM2, hH2, hv2⟩, ⟨hL3, hM3, hH3, hv3⟩, ⟨hL4, hM4, hH4, hv4⟩, ⟨hL5, hM5, hH5, hv5⟩, ⟨hL6, hM6, hH6, hv6⟩, ⟨hL7, hM7, hH7, hv7⟩, ⟨hL8, hM8, hH8, hv8⟩, ⟨hL9, hM9, hH9, hv9⟩, ⟨hL10, hM10, hH10, hv10⟩, ⟨hL11, hM11, hH11, hv11⟩, ⟨hL12, hM12, hH12, hv12⟩, ⟨hL13, hM13, hH13, hv13⟩, ⟨hL14, hM14, hH14, hv14⟩, ⟨hL15, hM15, hH15, hv15⟩, ⟨hL16, hM16, hH16, hv16⟩, ⟨hL17, hM17, hH17, hv17⟩, ⟨hL18, hM18, hH18, hv18⟩, ⟨hL19, hM19, hH19, hv19⟩, -⟩ := hd
                    rw [hv0, hv1, hv2, hv3, hv4, hv5, hv6, hv7, hv8, hv9, hv10, hv11, hv12, hv13, hv14, hv15, hv16, hv17, hv18, hv19]
                    clear hv0 hv1 hv2 hv3 hv4 hv5 hv6 hv7 hv8 hv9 hv10 hv11 hv12 hv13 hv14 hv15 hv16 hv17 hv18 hv19
                    have HSW := Lib.hid (HSX1.out.later (fa_noneK hw) (Nat.lt_trans (show w2.heap.size < wv.heap.size by omega) HXZ.out))
                    have hsz4 : wv.heap.size < w4.heap.size := Nat.lt_of_lt_of_le HXZ.out (fa_noneK hw).size
                    have HSXW := Lib.hid (HWX.out.trans ((fa_noneK hw).mono (Nat.le_of_lt HXZ.out)))
                    skip
                    clear hw hap hdead
                    go_wp2
                    go_roundw
                    case rel => exact ⟨t + 1, by omega, by go_num, by rw [HEQ.out]; exact HSW.out⟩
                    case measure => simp [intOf]; omega
            · obtain rfl : t = A.length := by omega
              have HOF := Lib.hid (show SumSt w1.heap.size w2.heap.size 37 (w2.alloc (.cells #[.int .i64 (emptyRel (A.length : Int)).fN, .slice a3 (emptyRel (A.length : Int)).fRows.length c3] 37)) (sumO A c (j + 1)) wv from by rw [HNEXT.out]; exact HSV.out.trans (HWJ.out.later HBO.out))
              go_wp2
              go_roundw
              case rel => exact ⟨j + 1, by omega, by go_num, HOF.out⟩
              case measure => simp [intOf]; omega
        · obtain rfl : j = A.length := by omega
          obtain ⟨a5, q5, ho5, hc5, -⟩ := HSJ.out
          have HZR := Lib.hid ((HBLK.out (w.heap.size + 3) (by omega)).trans ((HB2.out.block (w.heap.size + 3) (by omega)).trans HCZ1.out))
          have z0 := pblk_cell (j := 0) (v := .int .i64 0) HZR.out rfl
          have z1 := pblk_cell (j := 1) (v := .slice none 0 0) HZR.out rfl
          have y0 := pblk_frozen (j := 0) HZR.out
          have y1 := pblk_frozen (j := 1) HZR.out
          have r0 : wq.cell? ⟨w2.heap.size, 0, none⟩ = some (.int .i64 (sumO A c A.length).fN) := pblk_cell (j := 0) hc5 rfl
          have r1 : wq.cell? ⟨w2.heap.size, 1, none⟩ = some (.slice a5 (sumO A c A.length).fRows.length q5) := pblk_cell (j := 1) hc5 rfl
          have hk3 : w.heap.size + 3 < wq.heap.size := by omega
          have hwC : w2.heap.size < wq.heap.size := by omega
          have HBF := Lib.hid (show Below w.heap.size w wq from ⟨HWJ.out.os.trans (HB1.out.trans (HB2.out.mono (by omega))).os, HWJ.out.tape.trans (HB1.out.trans (HB2.out.mono (by omega))).tape, HWJ.out.output.trans (HB1.out.trans (HB2.out.mono (by omega))).output, by omega, fun k hk => (HBLK.out k (by omega)).trans ((HB1.out.trans (HB2.out.mono (by omega))).block k hk)⟩)
          have HOK := Lib.hid (show Own ((wq.setCell ⟨w.heap.size + 3, 0, none⟩ (.int .i64 (sumO A c A.length).fN)).setCell ⟨w.heap.size + 3, 1, none⟩ (.slice a5 (sumO A c A.length).fRows.length q5)) (fun y => w.heap.size ≤ y ∧ y < ((wq.setCell ⟨w.heap.size + 3, 0, none⟩ (.int .i64 (sumO A c A.length).fN)).setCell ⟨w.heap.size + 3, 1, none⟩ (.slice a5 (sumO A c A.length).fRows.length q5)).heap.size) (.sl 1 (sumO A c A.length).fRows.length (fun k => ictI ((sumO A c A.length).fRows.getD k default))) (.slice a5 (sumO A c A.length).fRows.length q5) from
            (ho5.kept ((Kept.refl.put (fun h => by have := h.1; dsimp only at this; omega)).put (fun h => by have := h.1; dsimp only at this; omega))).sub fun y hy => ⟨by omega, by simp [World.setCell]; exact hy.2.1⟩)
          clear ho5 hc5
          generalize sumO A c A.length = R at *
          go_wp2
          refine bodyPost_ret (v := .agg #[.int .i64 R.fN, .slice a5 R.fRows.length q5]) (results_cell_row Try.results11 _ _ (w.heap.size + 3) 37 #[.int .i64 R.fN, .slice a5 R.fRows.length q5] (0, 0) _ rfl (pblk_put (pblk_put HZR.out rfl) rfl) Try.underlying37 rfl rfl) rfl ?_
          rw [HRES.out]
          exact ⟨a5, q5, rfl, HOK.out, (HBF.out.setCell (by show w.heap.size ≤ w.heap.size + 3; omega) _).setCell (by show w.heap.size ≤ w.heap.size + 3; omega) _⟩
end Go.Proofs.Ytfdilfhmcfggfaa
