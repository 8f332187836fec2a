/-
  Chapter 2: which strings are names, in the model and in the program.
-/
import Derived.Test.YthpnghbhfbiljaaRes
namespace Go.Proofs.Ythpnghbhfbiljaa
open Go.ChangeShapes Go.WideShapes Go.ChangeAt Go.RowKit

def low (n : Int) : Bool := decide (97 ≤ n) && decide (n ≤ 122)
def dgt (n : Int) : Bool := decide (48 ≤ n) && decide (n ≤ 57)
theorem low_yes {n : Int} (h : 97 ≤ n) (h' : n ≤ 122) : low n = true := by unfold low; simp [h, h']
theorem low_no {n : Int} (h : n < 97 ∨ 122 < n) : low n = false := by
  unfold low; rcases h with h | h
  · rw [decide_eq_false (by omega)]; rfl
  · rw [decide_eq_false (p := n ≤ 122) (by omega), Bool.and_false]
theorem dgt_yes {n : Int} (h : 48 ≤ n) (h' : n ≤ 57) : dgt n = true := by unfold dgt; simp [h, h']
theorem dgt_no {n : Int} (h : n < 48 ∨ 57 < n) : dgt n = false := by
  unfold dgt; rcases h with h | h
  · rw [decide_eq_false (by omega)]; rfl
  · rw [decide_eq_false (p := n ≤ 57) (by omega), Bool.and_false]

/-- Byte number k of s (0 beyond its end). -/
def chr (s : ByteArray) (k : Nat) : Int := ((s.data.toList.getD k 0).toNat : Int)
theorem chr_at (s : ByteArray) (k : Nat) (h : k < s.size) : ((s[k].toNat : Nat) : Int) = chr s k := by
  have h' : k < s.data.toList.length := by simpa using h
  unfold chr
  rw [List.getD_eq_getElem?_getD, List.getElem?_eq_getElem h']
  rfl
def nch (s : ByteArray) (k : Nat) : Bool := low (chr s k) || dgt (chr s k)
/-- How many bytes at the beginning may stand in a name, k or more. -/
def run (s : ByteArray) (k : Nat) : Nat := if h : k < s.size then (if nch s k = true then run s (k + 1) else k) else k
termination_by s.size - k
theorem run_stop {s : ByteArray} {k : Nat} (h : ¬ k < s.size) : run s k = k := by rw [run, dif_neg h]
theorem run_no {s : ByteArray} {k : Nat} (h : nch s k = false) : run s k = k := by
  rw [run]; split
  · rw [if_neg (by rw [h]; decide)]
  · rfl
theorem run_yes {s : ByteArray} {k : Nat} (h : k < s.size) (h' : nch s k = true) : run s k = run s (k + 1) := by
  rw [run, dif_pos h, if_pos h']
theorem run_all {s : ByteArray} : ∀ (n k : Nat), s.size - k = n → k ≤ s.size → (run s k = s.size ↔ ∀ j, k ≤ j → j < s.size → nch s j = true)
  | 0, k, hn, hk => by
    rw [run_stop (by omega)]
    exact ⟨fun _ j h1 h2 => absurd h2 (by omega), fun _ => by omega⟩
  | n + 1, k, hn, hk => by
    by_cases h : nch s k = true
    · rw [run_yes (by omega) h, run_all n (k + 1) (by omega) (by omega)]
      exact ⟨fun H j h1 h2 => by
        by_cases e : j = k
        · rw [e]; exact h
        · exact H j (by omega) h2, fun H j h1 h2 => H j (by omega) h2⟩
    · rw [run_no (by simpa using h)]
      exact ⟨fun e => absurd e (by omega), fun H => absurd (H k (Nat.le_refl _) (by omega)) h⟩
/-- A small letter, then small letters and digits. -/
def shapeB (s : ByteArray) : Bool := decide (0 < s.size) && low (chr s 0) && decide (run s 0 = s.size)
def okAt (s : ByteArray) (j : Nat) : Bool := low (chr s j) || (decide (0 < j) && dgt (chr s j))
theorem shape_iff {s : ByteArray} : shapeB s = true ↔ 0 < s.size ∧ ∀ j, j < s.size → okAt s j = true := by
  unfold shapeB okAt
  rw [Bool.and_eq_true, Bool.and_eq_true, decide_eq_true_eq, decide_eq_true_eq, run_all _ 0 rfl (Nat.zero_le _)]
  unfold nch
  constructor
  · rintro ⟨⟨h0, h1⟩, h2⟩
    refine ⟨h0, fun j hj => ?_⟩
    have := h2 j (Nat.zero_le _) hj
    by_cases e : j = 0
    · subst e; rw [h1]; rfl
    · rw [decide_eq_true (show 0 < j by omega), Bool.true_and]; exact this
  · rintro ⟨h0, h1⟩
    refine ⟨⟨h0, by simpa using h1 0 h0⟩, fun j _ hj => ?_⟩
    have := h1 j hj
    rw [Bool.or_eq_true, Bool.and_eq_true] at this
    rcases this with h | ⟨_, h⟩
    · rw [h]; rfl
    · rw [h, Bool.or_true]
theorem shape_no {s : ByteArray} {j : Nat} (hj : j < s.size) (h : okAt s j = false) : shapeB s = false := by
  cases e : shapeB s
  · rfl
  · rw [(shape_iff.1 e).2 j hj] at h; cases h
def validName (s : ByteArray) : Bool := shapeB s && decide (s.size ≤ 8) && !memB s resWords

set_option maxHeartbeats 400000 in
theorem impl_isLowerCase (b : Int) (w : World) :
    Calls Try.prog 74 #[.int .u8 b] w fun e w' => e = .returned (.bool (low b)) ∧ w = w' := by
  rcases (by omega : b < 97 ∨ (97 ≤ b ∧ 122 < b) ∨ (97 ≤ b ∧ b ≤ 122)) with h | ⟨h, h'⟩ | ⟨h, h'⟩
  all_goals
    go_enter Try.func74, Try.ntmps74
    go_wp2
    go_ret
    exact ⟨ret_bool (by first | (rw [low_no (by omega)]; try exact decide_eq_false (by omega)) | (rw [low_yes (by omega) (by omega)]; try exact decide_eq_true (by omega))), rfl⟩

set_option maxHeartbeats 400000 in
theorem impl_isDigit (b : Int) (w : World) :
    Calls Try.prog 83 #[.int .u8 b] w fun e w' => e = .returned (.bool (dgt b)) ∧ w = w' := by
  rcases (by omega : b < 48 ∨ (48 ≤ b ∧ 57 < b) ∨ (48 ≤ b ∧ b ≤ 57)) with h | ⟨h, h'⟩ | ⟨h, h'⟩
  all_goals
    go_enter Try.func83, Try.ntmps83
    go_wp2
    go_ret
    exact ⟨ret_bool (by first | (rw [dgt_no (by omega)]; try exact decide_eq_false (by omega)) | (rw [dgt_yes (by omega) (by omega)]; try exact decide_eq_true (by omega))), rfl⟩

set_option maxHeartbeats 800000 in
set_option maxRecDepth 100000 in
theorem impl_lengthOfName (s : ByteArray) (hz : s.size ≤ 1048576) (w : World) :
    Calls Try.prog 75 #[.string s] w fun e w' => e = .returned (.int .i64 (run s 0 : Nat)) ∧ w = w' := by
  go_enter Try.func75, Try.ntmps75
  go_wp2
  go_loop [3] (fun i => ∃ k : Nat, k ≤ s.size ∧ i = .int .i64 (k : Int) ∧ run s 0 = run s k) (fun i => s.size - (intOf i).toNat)
  case atStart => exact ⟨0, Nat.zero_le _, rfl, rfl⟩
  case round =>
    obtain ⟨k, hk, rfl, hr⟩ := hrel
    have HR := Lib.hid hr
    clear hr
    by_cases hlt : k < s.size
    · have hc := Lib.hid (chr_at s k hlt)
      cases hl : low (s[k].toNat : Int)
      · cases hd : dgt (s[k].toNat : Int)
        · have fin : Hid (run s 0 = k) := by
            show _ = _
            rw [HR.out, run_no]; unfold nch; rw [← hc.out, hl, hd]; rfl
          have HL := Lib.hid hl
          have HD := Lib.hid hd
          clear hl hd
          go_wp2_with fail
          refine (impl_isLowerCase _ _).mono ?_
          rintro e w1 ⟨rfl, rfl⟩
          have hl := HL.out
          go_wp2_with fail
          refine (impl_isDigit _ _).mono ?_
          rintro e w1 ⟨rfl, rfl⟩
          have hd := HD.out
          go_wp2
          go_ret
          exact ⟨congrArg (fun x : Nat => Ending.returned (.int .i64 (x : Int))) fin.out.symm, rfl⟩
        · have fin : Hid (run s 0 = run s (k + 1)) := by
            show _ = _
            rw [HR.out, run_yes hlt]; unfold nch; rw [← hc.out, hl, hd]; rfl
          have HL := Lib.hid hl
          have HD := Lib.hid hd
          clear hl hd
          go_wp2_with fail
          refine (impl_isLowerCase _ _).mono ?_
          rintro e w1 ⟨rfl, rfl⟩
          have hl := HL.out
          go_wp2_with fail
          refine (impl_isDigit _ _).mono ?_
          rintro e w1 ⟨rfl, rfl⟩
          have hd := HD.out
          go_wp2
          go_round
          case rel => exact ⟨k + 1, by omega, by go_num, fin.out⟩
          case measure => simp [intOf]; omega
      · have fin : Hid (run s 0 = run s (k + 1)) := by
          show _ = _
          rw [HR.out, run_yes hlt]; unfold nch; rw [← hc.out, hl]; rfl
        have HL := Lib.hid hl
        clear hl
        go_wp2_with fail
        refine (impl_isLowerCase _ _).mono ?_
        rintro e w1 ⟨rfl, rfl⟩
        have hl := HL.out
        go_wp2
        go_round
        case rel => exact ⟨k + 1, by omega, by go_num, fin.out⟩
        case measure => simp [intOf]; omega
    · obtain rfl : k = s.size := by omega
      have fin : Hid (run s 0 = s.size) := by show _ = _; rw [HR.out, run_stop (by omega)]
      go_wp2
      go_ret
      exact ⟨congrArg (fun x : Nat => Ending.returned (.int .i64 (x : Int))) fin.out.symm, rfl⟩

set_option maxHeartbeats 1600000 in
set_option maxRecDepth 100000 in
theorem spec_l2Shape (s : ByteArray) (hz : s.size ≤ 1048576) (w : World) :
    Calls Try.prog 81 #[.string s] w fun e w' => e = .returned (.bool (shapeB s)) ∧ w = w' := by
  go_enter Try.func81, Try.ntmps81
  go_wp2
  go_loop [3] (fun i => ∃ k : Nat, k ≤ s.size ∧ i = .int .i64 (k : Int) ∧ ∀ j, j < k → okAt s j = true) (fun i => s.size - (intOf i).toNat)
  case atStart => exact ⟨0, Nat.zero_le _, rfl, fun j hj => absurd hj (Nat.not_lt_zero _)⟩
  case round =>
    obtain ⟨k, hk, rfl, hr⟩ := hrel
    have HR := Lib.hid hr
    clear hr
    by_cases hlt : k < s.size
    · have hc := Lib.hid (chr_at s k hlt)
      have h255 : (s[k].toNat : Int) ≤ 255 := by have := s[k].toNat_lt; omega
      cases ho : okAt s k
      · have fin : Hid (shapeB s = false) := by show _ = _; exact shape_no hlt ho
        have hnl : low (s[k].toNat : Int) = false := by unfold okAt at ho; rw [Bool.or_eq_false_iff] at ho; rw [hc.out]; exact ho.1
        have hnd : k = 0 ∨ dgt (s[k].toNat : Int) = false := by
          unfold okAt at ho; rw [Bool.or_eq_false_iff, Bool.and_eq_false_iff, ← hc.out] at ho
          rcases ho.2 with h | h
          · left; have := of_decide_eq_false h; omega
          · exact Or.inr h
        have hl : (s[k].toNat : Int) < 97 ∨ 122 < (s[k].toNat : Int) := by
          rcases (by omega : (s[k].toNat : Int) < 97 ∨ 122 < (s[k].toNat : Int) ∨ (97 ≤ (s[k].toNat : Int) ∧ (s[k].toNat : Int) ≤ 122)) with h | h | ⟨h, h'⟩
          · exact Or.inl h
          · exact Or.inr h
          · rw [low_yes h h'] at hnl; cases hnl
        have hd : k = 0 ∨ (s[k].toNat : Int) < 48 ∨ 57 < (s[k].toNat : Int) := by
          rcases hnd with h | h
          · exact Or.inl h
          · rcases (by omega : (s[k].toNat : Int) < 48 ∨ 57 < (s[k].toNat : Int) ∨ (48 ≤ (s[k].toNat : Int) ∧ (s[k].toNat : Int) ≤ 57)) with h | h | ⟨h1, h'⟩
            · exact Or.inr (Or.inl h)
            · exact Or.inr (Or.inr h)
            · rw [dgt_yes h1 h'] at h; cases h
        clear hnl hnd ho hc
        have hk0 : k = 0 ∨ 0 < k := by omega
        rcases hl with hl | hl
        all_goals
          rcases hd with hd | hd | hd
          all_goals (try (exfalso; omega))
          all_goals (try have d1 : decide ((s[k].toNat : Int) ≤ 122) = false := decide_eq_false (by omega))
          all_goals (try have d2 : decide ((s[k].toNat : Int) ≤ 57) = false := decide_eq_false (by omega))
          all_goals (try have d3 : decide ((s[k].toNat : Int) ≤ 57) = true := decide_eq_true (by omega))
          all_goals
            rcases hk0 with h0 | h0
            · have t1 : ((k : Int) == 0) = true := by rw [h0]; rfl
              clear h0
              try clear hd
              go_wp2
              all_goals
                go_ret
                exact ⟨ret_bool fin.out.symm, rfl⟩
            · first
              | (exfalso; omega)
              | (have t1 : ((k : Int) == 0) = false := beq_eq_false_iff_ne.2 (by omega)
                 go_wp2
                 all_goals
                   go_ret
                   exact ⟨ret_bool fin.out.symm, rfl⟩)
      · have fin : Hid (∀ j, j < k + 1 → okAt s j = true) := by
          show ∀ j, _
          intro j hj
          by_cases e : j = k
          · rw [e]; exact ho
          · exact HR.out j (by omega)
        have hl : (97 ≤ (s[k].toNat : Int) ∧ (s[k].toNat : Int) ≤ 122) ∨ (0 < k ∧ 48 ≤ (s[k].toNat : Int) ∧ (s[k].toNat : Int) ≤ 57) := by
          unfold okAt low dgt at ho
          rw [← hc.out] at ho
          simp only [Bool.or_eq_true, Bool.and_eq_true, decide_eq_true_eq] at ho
          exact ho
        clear ho hc
        rcases hl with ⟨h1, h2⟩ | ⟨h0, h1, h2⟩
        · rcases (by omega : (k : Nat) = 0 ∨ 0 < k) with h0 | h0
          · have t1 : ((k : Int) == 0) = true := by rw [h0]; rfl
            clear h0
            go_wp2
            all_goals
              go_round
              case rel => exact ⟨k + 1, by omega, by go_num, fin.out⟩
              case measure => simp [intOf]; omega
          · have t1 : ((k : Int) == 0) = false := beq_eq_false_iff_ne.2 (by omega)
            go_wp2
            all_goals
              go_round
              case rel => exact ⟨k + 1, by omega, by go_num, fin.out⟩
              case measure => simp [intOf]; omega
        · have t1 : ((k : Int) == 0) = false := beq_eq_false_iff_ne.2 (by omega)
          go_wp2
          all_goals
            go_round
            case rel => exact ⟨k + 1, by omega, by go_num, fin.out⟩
            case measure => simp [intOf]; omega
    · obtain rfl : k = s.size := by omega
      have fin : Hid (decide (0 < s.size) = shapeB s) := by
        show _ = _
        rw [Bool.eq_iff_iff, decide_eq_true_eq, shape_iff]
        exact ⟨fun h => ⟨h, HR.out⟩, fun h => h.1⟩
      go_wp2
      go_ret
      exact ⟨ret_bool (by rw [← fin.out]; try (rw [Bool.eq_iff_iff, decide_eq_true_eq, decide_eq_true_eq]; omega)), rfl⟩

set_option maxHeartbeats 1600000 in
set_option maxRecDepth 100000 in
theorem spec_IsValidName (s : ByteArray) (hz : s.size ≤ 1048576) (w : World) :
    Calls Try.prog 72 #[.string s] w fun e w' => e = .returned (.bool (validName s)) ∧ Below w.heap.size w w' := by
  cases hs : shapeB s
  · have fin : Hid (validName s = false) := by show _ = _; unfold validName; rw [hs]; rfl
    have HS := Lib.hid hs
    clear hs
    go_enter Try.func72, Try.ntmps72
    go_wp2_with fail
    refine (spec_l2Shape s hz _).mono ?_
    rintro e w1 ⟨rfl, rfl⟩
    have hs := HS.out
    go_wp2
    go_ret
    exact ⟨ret_bool fin.out.symm, Below.refl _ _⟩
  · by_cases h8 : s.size ≤ 8
    · have fin : Hid (validName s = !memB s resWords) := by show _ = _; unfold validName; rw [hs, decide_eq_true h8]; rfl
      have HS := Lib.hid hs
      clear hs
      go_enter Try.func72, Try.ntmps72
      go_wp2_with fail
      refine (spec_l2Shape s hz _).mono ?_
      rintro e w1 ⟨rfl, rfl⟩
      have hs := HS.out
      go_wp2_with fail
      refine (spec_IsReserved s _).mono ?_
      rintro e w2 ⟨rfl, hb⟩
      go_wp2
      go_ret
      exact ⟨ret_bool fin.out.symm, hb⟩
    · have fin : Hid (validName s = false) := by show _ = _; unfold validName; rw [hs, decide_eq_false h8]; rfl
      have HS := Lib.hid hs
      clear hs
      go_enter Try.func72, Try.ntmps72
      go_wp2_with fail
      refine (spec_l2Shape s hz _).mono ?_
      rintro e w1 ⟨rfl, rfl⟩
      have hs := HS.out
      go_wp2
      go_ret
      exact ⟨ret_bool fin.out.symm, Below.refl _ _⟩

set_option maxHeartbeats 1600000 in
set_option maxRecDepth 100000 in
theorem impl_IsValidName (s : ByteArray) (hz : s.size ≤ 1048576) (w : World) :
    Calls Try.prog 64 #[.string s] w fun e w' => e = .returned (.bool (validName s)) ∧ Below w.heap.size w w' := by
  rcases (by omega : s.size < 1 ∨ (1 ≤ s.size ∧ 8 < s.size) ∨ (1 ≤ s.size ∧ s.size ≤ 8)) with h | ⟨h, h'⟩ | ⟨h, h'⟩
  · have fin : Hid (validName s = false) := by show _ = _; unfold validName shapeB; rw [decide_eq_false (p := 0 < s.size) (by omega)]; rfl
    go_enter Try.func64, Try.ntmps64
    go_wp2
    go_ret
    exact ⟨ret_bool fin.out.symm, Below.refl _ _⟩
  · have fin : Hid (validName s = false) := by show _ = _; unfold validName; rw [decide_eq_false (p := s.size ≤ 8) (by omega), Bool.and_false]; rfl
    go_enter Try.func64, Try.ntmps64
    go_wp2
    go_ret
    exact ⟨ret_bool fin.out.symm, Below.refl _ _⟩
  · have hc := chr_at s 0 (by omega)
    cases hl : low (s[0].toNat : Int)
    · have fin : Hid (validName s = false) := by show _ = _; unfold validName shapeB; rw [← hc, hl, Bool.and_false]; rfl
      have HL := Lib.hid hl
      clear hl hc
      go_enter Try.func64, Try.ntmps64
      go_wp2_with fail
      refine (impl_isLowerCase _ _).mono ?_
      rintro e w1 ⟨rfl, rfl⟩
      have hl := HL.out
      go_wp2
      go_ret
      exact ⟨ret_bool fin.out.symm, Below.refl _ _⟩
    · by_cases hr : run s 0 = s.size
      · have fin : Hid (validName s = !memB s resWords) := by
          show _ = _
          unfold validName shapeB; rw [← hc, hl, hr, decide_eq_true (show 0 < s.size by omega), decide_eq_true h', decide_eq_true rfl]; rfl
        have HL := Lib.hid hl
        have t1 : ((run s 0 : Int) == (s.size : Int)) = true := by rw [hr]; exact beq_self_eq_true _
        have T1 := Lib.hid t1
        clear hl hc hr t1
        go_enter Try.func64, Try.ntmps64
        go_wp2_with fail
        refine (impl_isLowerCase _ _).mono ?_
        rintro e w1 ⟨rfl, rfl⟩
        have hl := HL.out
        go_wp2_with fail
        refine (impl_lengthOfName s hz _).mono ?_
        rintro e w1 ⟨rfl, rfl⟩
        have t1 := T1.out
        clear hl
        go_wp2_with fail
        refine (impl_IsReserved s hz _).mono ?_
        rintro e w1 ⟨rfl, hb⟩
        go_wp2
        go_ret
        exact ⟨ret_bool fin.out.symm, hb⟩
      · have fin : Hid (validName s = false) := by
          show _ = _
          unfold validName shapeB; rw [decide_eq_false hr, Bool.and_false]; rfl
        have HL := Lib.hid hl
        have t1 : ((run s 0 : Int) == (s.size : Int)) = false := beq_eq_false_iff_ne.2 (by omega)
        have T1 := Lib.hid t1
        clear hl hc hr t1
        go_enter Try.func64, Try.ntmps64
        go_wp2_with fail
        refine (impl_isLowerCase _ _).mono ?_
        rintro e w1 ⟨rfl, rfl⟩
        have hl := HL.out
        go_wp2_with fail
        refine (impl_lengthOfName s hz _).mono ?_
        rintro e w1 ⟨rfl, rfl⟩
        have t1 := T1.out
        clear hl
        go_wp2
        go_ret
        exact ⟨ret_bool fin.out.symm, Below.refl _ _⟩
end Go.Proofs.Ythpnghbhfbiljaa
