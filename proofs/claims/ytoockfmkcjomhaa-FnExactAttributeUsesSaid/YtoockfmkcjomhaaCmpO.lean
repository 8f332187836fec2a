/-
  cmp.Compare at int and string, cmp.Or at int: what compareOccurrences asks.
-/
import Derived.Test.YtoockfmkcjomhaaOrdO
import Derived.Lib.Hide
namespace Go.Proofs.Ytoockfmkcjomhaa
open Go.ChangeShapes Go.WideShapes Go.ChangeAt Go.RowKit Go.Deep

def cmpI (a b : Int) : Int := if a < b then -1 else if b < a then 1 else 0
def cmpN (a b : ByteArray) : Int := if ltN a b = true then -1 else if ltN b a = true then 1 else 0
def cmpO (a b : DOccurrence) : Int := if cmpI a.fPos b.fPos ≠ 0 then cmpI a.fPos b.fPos else cmpN a.fName b.fName
theorem cmpO_lt (a b : DOccurrence) : decide (cmpO a b < 0) = ltO a b := by
  unfold cmpO cmpI ltO
  by_cases h1 : a.fPos < b.fPos
  · simp [h1]
  · by_cases h2 : b.fPos < a.fPos
    · have h3 : ¬ a.fPos = b.fPos := by omega
      simp [h1, h2, h3]
    · have h3 : a.fPos = b.fPos := by omega
      unfold cmpN
      cases h4 : ltN a.fName b.fName
      · cases h5 : ltN b.fName a.fName <;> simp [h3]
      · simp [h3]

set_option maxHeartbeats 3200000 in
theorem isNaN_int (a : Int) (w : World) : Calls Try.prog 44 #[.int .i64 a] w fun e w' => e = .returned (.bool false) ∧ w = w' := by
  go_enter Try.func44, Try.ntmps44
  go_wp2
  go_ret
  exact ⟨by simp, rfl⟩

set_option maxHeartbeats 3200000 in
theorem isNaN_string (a : ByteArray) (w : World) : Calls Try.prog 45 #[.string a] w fun e w' => e = .returned (.bool false) ∧ w = w' := by
  go_enter Try.func45, Try.ntmps45
  go_wp2
  go_ret
  exact ⟨by simp, rfl⟩

set_option maxHeartbeats 3200000 in
theorem Compare_int (a b : Int) (w : World) : Calls Try.prog 29 #[.int .i64 a, .int .i64 b] w fun e w' => e = .returned (.int .i64 (cmpI a b)) ∧ w = w' := by
  have H := Lib.hid (fun (x : Int) (W : World) => isNaN_int x W)
  unfold cmpI
  rcases (by omega : a < b ∨ b < a ∨ a = b) with h | h | h
  · rw [if_pos h]
    go_enter Try.func29, Try.ntmps29
    go_wp2_with fail
    refine (H.out _ _).mono ?_
    rintro e w1 ⟨rfl, rfl⟩
    go_wp2_with fail
    refine (H.out _ _).mono ?_
    rintro e w2 ⟨rfl, rfl⟩
    go_wp2
    go_ret
    exact ⟨rfl, rfl⟩
  · have hn : ¬ a < b := by omega
    rw [if_neg hn, if_pos h]
    go_enter Try.func29, Try.ntmps29
    go_wp2_with fail
    refine (H.out _ _).mono ?_
    rintro e w1 ⟨rfl, rfl⟩
    go_wp2_with fail
    refine (H.out _ _).mono ?_
    rintro e w2 ⟨rfl, rfl⟩
    go_wp2
    go_ret
    exact ⟨rfl, rfl⟩
  · subst h
    rw [if_neg (Int.lt_irrefl _), if_neg (Int.lt_irrefl _)]
    have hn : ¬ a < a := Int.lt_irrefl _
    go_enter Try.func29, Try.ntmps29
    go_wp2_with fail
    refine (H.out _ _).mono ?_
    rintro e w1 ⟨rfl, rfl⟩
    go_wp2_with fail
    refine (H.out _ _).mono ?_
    rintro e w2 ⟨rfl, rfl⟩
    go_wp2
    go_ret
    exact ⟨rfl, rfl⟩

set_option maxHeartbeats 3200000 in
theorem Compare_string (a b : ByteArray) (w : World) : Calls Try.prog 30 #[.string a, .string b] w fun e w' => e = .returned (.int .i64 (cmpN a b)) ∧ w = w' := by
  have H := Lib.hid (fun (x : ByteArray) (W : World) => isNaN_string x W)
  unfold cmpN
  have h2 := @strictN.total a b
  have h3 := @strictN.irrefl
  unfold ltN at *
  cases h : Op.bytesLess a.toList b.toList
  · cases he : a.toList == b.toList
    · have h4 : Op.bytesLess b.toList a.toList = true := by
        cases h5 : Op.bytesLess b.toList a.toList
        · rw [h2 h h5] at he
          simp at he
        · rfl
      rw [if_neg (by decide), if_pos h4]
      clear h2 h3 h4
      go_enter Try.func30, Try.ntmps30
      go_wp2_with fail
      refine (H.out _ _).mono ?_
      rintro e w1 ⟨rfl, rfl⟩
      go_wp2_with fail
      refine (H.out _ _).mono ?_
      rintro e w2 ⟨rfl, rfl⟩
      go_wp2
      go_ret
      exact ⟨rfl, rfl⟩
    · have h4 : Op.bytesLess b.toList a.toList = false := by
        rw [← beq_iff_eq.1 he]
        exact h3 a
      rw [if_neg (by decide), if_neg (by rw [h4]; decide)]
      clear h2 h3 h4
      go_enter Try.func30, Try.ntmps30
      go_wp2_with fail
      refine (H.out _ _).mono ?_
      rintro e w1 ⟨rfl, rfl⟩
      go_wp2_with fail
      refine (H.out _ _).mono ?_
      rintro e w2 ⟨rfl, rfl⟩
      go_wp2
      go_ret
      exact ⟨rfl, rfl⟩
  · rw [if_pos rfl]
    clear h2 h3
    go_enter Try.func30, Try.ntmps30
    go_wp2_with fail
    refine (H.out _ _).mono ?_
    rintro e w1 ⟨rfl, rfl⟩
    go_wp2_with fail
    refine (H.out _ _).mono ?_
    rintro e w2 ⟨rfl, rfl⟩
    go_wp2
    go_ret
    exact ⟨rfl, rfl⟩

set_option maxHeartbeats 3200000 in
theorem cmp_Or (x y : Int) (b : Nat) (w : World) (h0 : w.cell? ⟨b, 0, none⟩ = some (.int .i64 x)) (h1 : w.cell? ⟨b, 1, none⟩ = some (.int .i64 y)) :
    Calls Try.prog 28 #[.slice (some ⟨b, 0, none⟩) 2 2] w fun e w' => e = .returned (.int .i64 (if x ≠ 0 then x else y)) ∧ w = w' := by
  by_cases hx : x = 0
  · subst hx
    rw [if_neg (by simp)]
    by_cases hy : y = 0
    · subst hy
      go_enter Try.func28, Try.ntmps28
      go_wp2
      go_loopw [8] (fun i wr => wr = w ∧ (i = .int .i64 0 ∨ i = .int .i64 1 ∨ i = .int .i64 2)) (fun i _ => 2 - (intOf i).toNat)
      case atStart => exact ⟨rfl, .inl rfl⟩
      case round =>
        obtain ⟨rfl, rfl | rfl | rfl⟩ := hrel
        · go_wp2
          exact ⟨⟨by trivial, .inr (.inl rfl)⟩, by decide⟩
        · go_wp2
          exact ⟨⟨by trivial, .inr (.inr rfl)⟩, by decide⟩
        · go_wp2
          go_ret
          exact ⟨rfl, rfl⟩
    · have hd : (y != 0) = true := bne_iff_ne.2 hy
      go_enter Try.func28, Try.ntmps28
      go_wp2
      go_loopw [8] (fun i wr => wr = w ∧ (i = .int .i64 0 ∨ i = .int .i64 1)) (fun i _ => 2 - (intOf i).toNat)
      case atStart => exact ⟨rfl, .inl rfl⟩
      case round =>
        obtain ⟨rfl, rfl | rfl⟩ := hrel
        · go_wp2
          exact ⟨⟨by trivial, .inr rfl⟩, by decide⟩
        · go_wp2
          go_ret
          exact ⟨rfl, rfl⟩
  · have hd : (x != 0) = true := bne_iff_ne.2 hx
    rw [if_pos hx]
    go_enter Try.func28, Try.ntmps28
    go_wp2
    go_loopw [8] (fun i wr => wr = w ∧ i = .int .i64 0) (fun i _ => 2 - (intOf i).toNat)
    case atStart => exact ⟨rfl, rfl⟩
    case round =>
      obtain ⟨rfl, rfl⟩ := hrel
      go_wp2
      go_ret
      exact ⟨rfl, rfl⟩
end Go.Proofs.Ytoockfmkcjomhaa
