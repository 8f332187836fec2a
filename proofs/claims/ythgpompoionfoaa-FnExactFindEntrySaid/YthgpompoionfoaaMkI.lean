/-
  The marks of lists of numbers.
-/
import Derived.Test.YthgpompoionfoaaMark
namespace Go.Proofs.Ythgpompoionfoaa
open Go.ChangeShapes Go.WideShapes Go.ChangeAt Go.RowKit Go.Deep

/-- A list of numbers of its own: an empty one, or a block. -/
theorem own_ints {w : World} {F : Nat → Prop} {len cap : Nat} {f : Nat → Nat → Ct} {a : Option Addr} (h : Own w F (.sl 1 len f) (.slice a len cap)) (hf : ∀ k, k < len → ∃ v, f k 0 = .lit v) :
    len = 0 ∨ ∃ b off, a = some ⟨b, off, none⟩ ∧ F b ∧ b < w.heap.size ∧ (∀ k, k < len → ∃ v, f k 0 = .lit v ∧ w.cell? ⟨b, off + k, none⟩ = some v) ∧ ∀ o, w.frozen? ⟨b, o, none⟩ = false := by
  cases h with
  | nil => exact Or.inl rfl
  | row F n len f b off cap u G hF hb hc hz hl hG hd =>
    refine Or.inr ⟨b, off, rfl, hF, hb, fun k hk => ?_, hz⟩
    obtain ⟨v, hv⟩ := hf k hk
    have h1 := hl k hk 0 (by decide)
    have h2 := hc k hk 0 (by decide)
    rw [Nat.mul_one, Nat.add_zero] at h2
    rw [hv] at h1
    have h3 : u k 0 = v := by
      generalize u k 0 = z at h1
      cases h1
      rfl
    exact ⟨v, hv, by rw [h2, h3]⟩
theorem ints_own {w : World} {F : Nat → Prop} {len cap : Nat} {f : Nat → Nat → Ct} {b off : Nat} (hF : F b) (hb : b < w.heap.size) (hc : ∀ k, k < len → ∃ v, f k 0 = .lit v ∧ w.cell? ⟨b, off + k, none⟩ = some v) (hz : ∀ o, w.frozen? ⟨b, o, none⟩ = false) :
    Own w F (.sl 1 len f) (.slice (some ⟨b, off, none⟩) len cap) := by
  classical
  refine .row F 1 len f b off cap (fun k _ => if hk : k < len then Classical.choose (hc k hk) else .nilFunc) (fun _ _ _ => False) hF hb (fun k hk j hj => ?_) hz (fun k hk j hj => ?_) (fun _ _ _ _ _ hx => hx.elim) (fun _ _ _ _ _ _ _ _ _ hx => hx.elim)
  · obtain rfl : j = 0 := by omega
    simp only [dif_pos hk]
    rw [Nat.mul_one, Nat.add_zero]
    exact (Classical.choose_spec (hc k hk)).2
  · obtain rfl : j = 0 := by omega
    simp only [dif_pos hk]
    have e := (Classical.choose_spec (hc k hk)).1
    generalize Classical.choose (hc k hk) = v at e ⊢
    rw [e]
    exact .lit _ _

/-- The marks from number k on. -/
def mkI (k : Nat) : Nat → Nat → Ct := fun i _ => .lit (.int .i64 ((k + i : Nat) : Int))

set_option maxHeartbeats 1600000 in
set_option maxRecDepth 100000 in
theorem laws_markIntS {F : Nat → Prop} {a : Option Addr} {cap : Nat} (l : List Int) (hn : l.length ≤ 1099511627776) (k : Nat) (hk : k ≤ 4611686018427387904) (w : World) (ho : Own w F (.sl 1 l.length (fun i => ictI (l.getD i default))) (.slice a l.length cap)) :
    Calls Try.prog 29 #[.slice a l.length cap, .int .i64 (k : Int)] w fun e w' => e = .returned (.int .i64 ((k + l.length : Nat) : Int)) ∧ Own w' F (.sl 1 l.length (mkI k)) (.slice a l.length cap) ∧ WritesF F w w' := by
  rcases own_ints ho (fun k _ => ⟨_, rfl⟩) with h0 | ⟨b, off, rfl, hF, hb, hc, hz⟩
  · have HL := Lib.hid h0
    clear ho
    generalize l.length = n at *
    obtain rfl : n = 0 := HL.out
    go_enter Try.func29, Try.ntmps29
    go_wp2
    go_loop [1, 5] (fun q i => q = .int .i64 (k : Int) ∧ i = .int .i64 0) (fun _ _ => 0)
    case atStart => exact ⟨rfl, rfl⟩
    case round =>
      obtain ⟨rfl, rfl⟩ := hrel
      go_wp2
      go_ret
      exact ⟨rfl, .nil _ _ _ _ _, WritesF.refl _ _⟩
  · have HC := Lib.hid hc
    have HZ := Lib.hid hz
    clear ho hc hz
    go_enter Try.func29, Try.ntmps29
    go_wp2
    go_loopw [1, 5] (fun q i wr => ∃ j : Nat, j ≤ l.length ∧ i = .int .i64 (j : Int) ∧ q = .int .i64 ((k + j : Nat) : Int) ∧ b < wr.heap.size ∧ (∀ t, t < l.length → ∃ v, wr.cell? ⟨b, off + t, none⟩ = some v) ∧ (∀ t, t < j → wr.cell? ⟨b, off + t, none⟩ = some (.int .i64 ((k + t : Nat) : Int))) ∧ (∀ o, wr.frozen? ⟨b, o, none⟩ = false) ∧ WritesF F w wr) (fun _ i _ => l.length - (intOf i).toNat)
    case atStart => exact ⟨0, Nat.zero_le _, rfl, by go_num, hb, fun t ht => by obtain ⟨v, _, hv⟩ := HC.out t ht; exact ⟨v, hv⟩, fun t ht => absurd ht (Nat.not_lt_zero _), HZ.out, WritesF.refl _ _⟩
    case round =>
      obtain ⟨j, hj, rfl, rfl, hbr, hall, hdone, hfree, hwr⟩ := hrel
      have HALL := Lib.hid hall
      have HDONE := Lib.hid hdone
      have HFREE := Lib.hid hfree
      have HWR := Lib.hid hwr
      clear hall hdone hfree hwr
      by_cases hlt : j < l.length
      · obtain ⟨v, hv⟩ := HALL.out j hlt
        have hfz := HFREE.out (off + j)
        generalize hkj : k + j = q
        have HQ := Lib.hid hkj
        have hq2 : q ≤ 4611687118427387904 := by have := HQ.out; omega
        clear hkj
        go_wp2
        go_roundw
        case rel =>
          have hq := HQ.out
          refine ⟨j + 1, by omega, by go_num, by rw [← Nat.add_assoc, hq]; go_num, by simpa [World.setCell] using hbr, fun t ht => ?_, fun t ht => ?_, fun o => by rw [World.frozen?_setCell]; exact HFREE.out o, HWR.out.setCell hF⟩
          · by_cases htj : t = j
            · subst htj; exact ⟨_, World.cell?_setCell_same _ _ _ hv⟩
            · obtain ⟨s, hs⟩ := HALL.out t ht
              exact ⟨s, (World.cell?_setCell_other _ ⟨b, off + j, none⟩ ⟨b, off + t, none⟩ _ (fun e => by have := congrArg Addr.off e; simp only at this; omega)).trans hs⟩
          · by_cases htj : t = j
            · subst htj; rw [hq]; exact World.cell?_setCell_same _ _ _ hv
            · exact (World.cell?_setCell_other _ ⟨b, off + j, none⟩ ⟨b, off + t, none⟩ _ (fun e => by have := congrArg Addr.off e; simp only at this; omega)).trans (HDONE.out t (by omega))
        case measure => simp [intOf]; omega
      · obtain rfl : j = l.length := by omega
        go_wp2
        go_ret
        exact ⟨rfl, ints_own hF hbr (fun t ht => ⟨_, rfl, HDONE.out t ht⟩) HFREE.out, HWR.out⟩

set_option maxHeartbeats 1600000 in
set_option maxRecDepth 100000 in
theorem laws_heldIntS {F : Nat → Prop} {a : Option Addr} {cap : Nat} (n : Nat) (hn : n ≤ 1099511627776) (k : Nat) (hk : k ≤ 4611686018427387904) (w : World) (ho : Own w F (.sl 1 n (mkI k)) (.slice a n cap)) :
    Calls Try.prog 31 #[.slice a n cap, .int .i64 (k : Int)] w fun e w' => e = .returned (.int .i64 ((k + n : Nat) : Int)) ∧ Below w.heap.size w w' := by
  rcases own_ints ho (fun k _ => ⟨_, rfl⟩) with rfl | ⟨b, off, rfl, hF, hb, hc, hz⟩
  · clear ho
    go_enter Try.func31, Try.ntmps31
    go_wp2
    go_loop [1, 5] (fun q i => q = .int .i64 (k : Int) ∧ i = .int .i64 0) (fun _ _ => 0)
    case atStart => exact ⟨rfl, rfl⟩
    case round =>
      obtain ⟨rfl, rfl⟩ := hrel
      go_wp2
      go_ret
      exact ⟨rfl, Below.refl _ _⟩
  · have HC := Lib.hid hc
    clear ho hc hz
    go_enter Try.func31, Try.ntmps31
    go_wp2
    go_loop [1, 5] (fun q i => ∃ j : Nat, j ≤ n ∧ i = .int .i64 (j : Int) ∧ q = .int .i64 ((k + j : Nat) : Int)) (fun _ i => n - (intOf i).toNat)
    case atStart => exact ⟨0, Nat.zero_le _, rfl, by go_num⟩
    case round =>
      obtain ⟨j, hj, rfl, rfl⟩ := hrel
      by_cases hlt : j < n
      · obtain ⟨v, hv, hcell⟩ := HC.out j hlt
        have hv' : v = .int .i64 ((k + j : Nat) : Int) := by
          unfold mkI at hv
          simp only [Ct.lit.injEq] at hv
          exact hv.symm
        subst hv'
        clear hv
        generalize hkj : k + j = q at *
        have HQ := Lib.hid hkj
        have hq2 : q ≤ 4611687118427387904 := by have := HQ.out; omega
        clear hkj
        go_wp2
        go_round
        case rel =>
          have hq := HQ.out
          exact ⟨j + 1, by omega, by go_num, by rw [← Nat.add_assoc, hq]; go_num⟩
        case measure => simp [intOf]; omega
      · obtain rfl : j = n := by omega
        go_wp2
        go_ret
        exact ⟨rfl, Below.refl _ _⟩

theorem wmark_IntS {F : Nat → Prop} {a : Option Addr} {cap : Nat} (l : List Int) (hn : lsz (fun _ => 0) l ≤ 1048576) (k : Int) (hk0 : 1 ≤ k) (hk : k + 16 * (lsz (fun _ => 0) l : Nat) ≤ 4611686018427387904) (w : World) (ho : Own w F (.sl 1 l.length (fun k => ictI (l.getD k default))) (.slice a l.length cap)) :
    Calls Try.prog 29 #[.slice a l.length cap, .int .i64 k] w fun e w' => ∃ k' : Int, e = .returned (.int .i64 k') ∧ k ≤ k' ∧ k' ≤ k + 16 * (lsz (fun _ => 0) l : Nat) ∧ WritesF F w w' := by
  obtain ⟨m, rfl⟩ : ∃ m : Nat, k = m := ⟨k.toNat, by omega⟩
  rw [lsz_zero] at hn hk ⊢
  refine (laws_markIntS l (by omega) m (by omega) w ho).mono ?_
  rintro e w1 ⟨rfl, _, hw⟩
  exact ⟨_, rfl, by omega, by omega, hw⟩
end Go.Proofs.Ythgpompoionfoaa
