/-
  SubtreeSize, in the model and in the program.
-/
import Derived.Test.YtjjbnbhcfhbfdaaTTree
import Derived.Test.YtjjbnbhcfhbfdaaIdx
namespace Go.Proofs.Ytjjbnbhcfhbfdaa
open Go.ChangeShapes Go.WideShapes Go.ChangeAt Go.RowKit Go.Deep

theorem takeWhile_len {α : Type} [Inhabited α] {q : α → Bool} : ∀ (m : List α) (j : Nat), j ≤ m.length → (∀ i, i < j → q (m.getD i default) = true) → (j = m.length ∨ q (m.getD j default) = false) → (m.takeWhile q).length = j
  | [], j, h, _, _ => by
    have : j = 0 := by simpa using h
    subst this; rfl
  | x :: m, 0, _, _, h => by
    rcases h with h | h
    · exact absurd h (by simp)
    · have hx : q x = false := h
      rw [List.takeWhile_cons, hx]; rfl
  | x :: m, j + 1, hj, ha, h => by
    have hx : q x = true := ha 0 (by omega)
    rw [List.takeWhile_cons, hx]
    show (m.takeWhile q).length + 1 = j + 1
    rw [takeWhile_len m j (by simpa using hj) (fun i hi => ha (i + 1) (by omega)) (h.elim (fun h => Or.inl (by simpa using h)) (fun h => Or.inr h))]

/-- How many nodes the subtree at node i has. -/
def subSize (l : List DNode) (i : Int) : Int := if 0 ≤ i ∧ i < l.length then ((l.drop (i.toNat + 1)).takeWhile fun x => decide (i ≤ x.fParent)).length + 1 else 0
theorem subSize_no {l : List DNode} {i : Int} (h : i < 0 ∨ (l.length : Int) ≤ i) : subSize l i = 0 := by unfold subSize; rw [if_neg (by omega)]
/-- All nodes behind n and before k are in the subtree of n. -/
def inSub (l : List DNode) (n k : Nat) : Prop := ∀ m, n < m → m < k → (n : Int) ≤ (l.getD m default).fParent
theorem subSize_at {l : List DNode} {n k : Nat} (hn : n < k) (hk : k ≤ l.length) (h : inSub l n k) (he : k = l.length ∨ (l.getD k default).fParent < (n : Int)) : subSize l n = (k : Int) - n := by
  unfold subSize
  rw [if_pos (by omega), Int.toNat_natCast, takeWhile_len _ (k - (n + 1))]
  · omega
  · rw [List.length_drop]; omega
  · intro i hi
    have := h (n + 1 + i) (by omega) (by omega)
    rw [List.getD_eq_getElem?_getD, List.getElem?_drop, ← List.getD_eq_getElem?_getD]
    simpa using this
  · rcases he with he | he
    · left; rw [List.length_drop]; omega
    · right
      rw [List.getD_eq_getElem?_getD, List.getElem?_drop, ← List.getD_eq_getElem?_getD, show n + 1 + (k - (n + 1)) = k by omega]
      exact decide_eq_false (by omega)
theorem inSub_succ {l : List DNode} {n k : Nat} (h : inSub l n k) (hk : (n : Int) ≤ (l.getD k default).fParent) : inSub l n (k + 1) := by
  intro m h1 h2
  by_cases hmk : m = k
  · subst hmk; exact hk
  · exact h m h1 (by omega)

theorem ret_b {a b : Bool} (h : a = b) : Ending.returned (Value.bool a) = .returned (.bool b) := by rw [h]
def inR (n a b : Int) : Bool := decide (a ≤ n) && decide (n ≤ b)
set_option maxRecDepth 100000 in
theorem spec_l1In (n a b : Int) (w : World) :
    Calls Try.prog 69 #[.int .i64 n, .int .i64 a, .int .i64 b] w fun e w' => e = .returned (.bool (inR n a b)) ∧ w = w' := by
  by_cases h1 : a ≤ n
  · have fin : inR n a b = decide (n ≤ b) := by unfold inR; simp [h1]
    have FIN := Lib.hid fin
    clear fin
    go_enter Try.func69, Try.ntmps69
    go_wp2
    go_ret
    exact ⟨ret_b (by rw [FIN.out]), rfl⟩
  · have fin : inR n a b = false := by unfold inR; simp [h1]
    have FIN := Lib.hid fin
    have h1' : n < a := by omega
    clear fin h1
    go_enter Try.func69, Try.ntmps69
    go_wp2
    go_ret
    exact ⟨ret_b (by rw [FIN.out]), rfl⟩

set_option maxHeartbeats 1600000 in
set_option maxRecDepth 100000 in
theorem spec_SubtreeSize {lo hi : Nat} {a0 : Option Addr} {c0_0 : Nat} (t : DTree) (_ : t.ok) (hsz : t.sz ≤ 1048576) (i : Int) (hi0 : okI i) (w : World) (hhi : hi ≤ w.heap.size) (hs : Sl lo hi w 6 t.fNodes.length (fun k => DNode.ct (t.fNodes.getD k default)) a0) :
    Calls Try.prog 47 #[.agg #[.slice a0 t.fNodes.length c0_0], .int .i64 i] w fun e w' => e = .returned (.int .i64 (subSize t.fNodes i)) ∧ Below w.heap.size w w' := by
  have hn : t.fNodes.length ≤ 1048576 := by unfold DTree.sz lsz at hsz; omega
  clear hsz
  have HB := Lib.hid ((Below.refl w.heap.size w).alloc (Nat.le_refl _) (.cells #[.slice a0 t.fNodes.length c0_0] 68))
  have HS := Lib.hid (hs.later HB.out hhi)
  clear hs
  have hi1 : -9223372036854775808 ≤ i ∧ i ≤ 9223372036854775807 := hi0
  clear hi0
  generalize t.fNodes = l at *
  have hin := fun w => spec_l1In i 0 ((l.length : Int) - 1) w
  by_cases hr : 0 ≤ i ∧ i < l.length
  · rw [show inR i 0 ((l.length : Int) - 1) = true by unfold inR; simp; omega] at hin
    have HIN := Lib.hid hin
    obtain ⟨n, rfl⟩ : ∃ n : Nat, i = n := ⟨i.toNat, by omega⟩
    have hnl : n < l.length := by omega
    clear hin hr
    go_enter Try.func47, Try.ntmps47
    go_wp2_with fail
    refine (HIN.out _).mono ?_
    rintro e w' ⟨rfl, rfl⟩
    go_wp2
    go_loop [5] (fun q => ∃ k : Nat, n < k ∧ k ≤ l.length ∧ q = .int .i64 (k : Int) ∧ inSub l n k) (fun q => l.length - (intOf q).toNat)
    case atStart => exact ⟨n + 1, by omega, by omega, by go_num, fun m h1 h2 => by omega⟩
    case round =>
      obtain ⟨k, hk0, hk, rfl, hsub⟩ := hrel
      have HSUB := Lib.hid hsub
      clear hsub
      by_cases hlt : k < l.length
      · obtain ⟨b, off, rfl, _, _, hc⟩ := HS.out.at k hlt
        obtain ⟨a5, c5, hc0, hc1, hc2, hc3, hc4, hc5, hs5⟩ := DNode.open hc
        clear hc hc0 hc2 hc3 hc4 hc5 hs5
        by_cases he : (n : Int) ≤ (l.getD k default).fParent
        · have HSUB2 := Lib.hid (inSub_succ HSUB.out he)
          generalize (l.getD k default).fParent = z at *
          go_wp2
          go_round
          case rel => exact ⟨k + 1, by omega, by omega, by go_num, HSUB2.out⟩
          case measure => simp [intOf]; omega
        · have fin := Lib.hid (subSize_at hk0 hk HSUB.out (Or.inr (by omega)))
          have he' : (l.getD k default).fParent < (n : Int) := by omega
          clear he
          generalize (l.getD k default).fParent = z at *
          go_wp2
          go_ret
          exact ⟨ret_i (by rw [fin.out]), HB.out⟩
      · obtain rfl : k = l.length := by omega
        have fin := Lib.hid (subSize_at hk0 hk HSUB.out (Or.inl rfl))
        go_wp2
        go_ret
        exact ⟨ret_i (by rw [fin.out]), HB.out⟩
  · rw [show inR i 0 ((l.length : Int) - 1) = false by unfold inR; simp; omega] at hin
    have HIN := Lib.hid hin
    have fin := Lib.hid (subSize_no (l := l) (i := i) (by omega))
    clear hin hr
    go_enter Try.func47, Try.ntmps47
    go_wp2_with fail
    refine (HIN.out _).mono ?_
    rintro e w' ⟨rfl, rfl⟩
    go_wp2
    go_ret
    exact ⟨ret_i (by rw [fin.out]), HB.out⟩

set_option maxHeartbeats 1600000 in
set_option maxRecDepth 100000 in
/-- The program's 'at' at an index that there is not: nil. -/
theorem impl_Tree_at_no {len c0 : Nat} {a0 : Option Addr} (_ : len ≤ 1048576) (i : Int) (h : i < 0 ∨ (len : Int) ≤ i) (w : World) :
    Calls Try.prog 86 #[.agg #[.slice a0 len c0], .int .i64 i] w fun e w' => e = .returned (.pointer none) ∧ Below w.heap.size w w' := by
  have HB := Lib.hid ((Below.refl w.heap.size w).alloc (Nat.le_refl _) (.cells #[.slice a0 len c0] 68))
  by_cases h0 : i < 0
  · clear h
    go_enter Try.func86, Try.ntmps86
    go_wp2
    go_ret
    exact ⟨rfl, HB.out⟩
  · have h1 : (len : Int) ≤ i := by omega
    clear h
    go_enter Try.func86, Try.ntmps86
    go_wp2
    go_ret
    exact ⟨rfl, HB.out⟩
set_option maxHeartbeats 1600000 in
set_option maxRecDepth 100000 in
theorem impl_Tree_at {b off len c0 : Nat} (n : Nat) (_ : len ≤ 1048576) (h : n < len) (w : World) :
    Calls Try.prog 86 #[.agg #[.slice (some ⟨b, off, none⟩) len c0], .int .i64 (n : Int)] w fun e w' => e = .returned (.pointer (some ⟨b, off + n * 6, none⟩)) ∧ Below w.heap.size w w' := by
  have HB := Lib.hid ((Below.refl w.heap.size w).alloc (Nat.le_refl _) (.cells #[.slice (some ⟨b, off, none⟩) len c0] 68))
  go_enter Try.func86, Try.ntmps86
  go_wp2
  go_ret
  exact ⟨rfl, HB.out⟩

set_option maxHeartbeats 1600000 in
set_option maxRecDepth 100000 in
theorem impl_SubtreeSize {lo hi : Nat} {a0 : Option Addr} {c0_0 : Nat} (t : DTree) (_ : t.ok) (hsz : t.sz ≤ 1048576) (i : Int) (hi0 : okI i) (w : World) (hhi : hi ≤ w.heap.size) (hs : Sl lo hi w 6 t.fNodes.length (fun k => DNode.ct (t.fNodes.getD k default)) a0) :
    Calls Try.prog 48 #[.agg #[.slice a0 t.fNodes.length c0_0], .int .i64 i] w fun e w' => e = .returned (.int .i64 (subSize t.fNodes i)) ∧ Below w.heap.size w w' := by
  have hn : t.fNodes.length ≤ 1048576 := by unfold DTree.sz lsz at hsz; omega
  clear hsz
  have HB := Lib.hid ((Below.refl w.heap.size w).alloc (Nat.le_refl _) (.cells #[.slice a0 t.fNodes.length c0_0] 68))
  have HBS := Lib.hid (show w.heap.size < (w.alloc (.cells #[.slice a0 t.fNodes.length c0_0] 68)).heap.size by simp)
  have HC := Lib.hid (show (w.alloc (.cells #[.slice a0 t.fNodes.length c0_0] 68)).cell? ⟨w.heap.size, 0, none⟩ = some (.slice a0 t.fNodes.length c0_0) by rw [World.cell?_alloc_new]; rfl)
  have HS := Lib.hid (hs.later HB.out hhi)
  have hhi' : hi ≤ (w.alloc (.cells #[.slice a0 t.fNodes.length c0_0] 68)).heap.size := Nat.le_trans hhi HB.out.size
  have HH := Lib.hid hhi'
  clear hs hhi'
  have hi1 : -9223372036854775808 ≤ i ∧ i ≤ 9223372036854775807 := hi0
  clear hi0
  generalize t.fNodes = l at *
  by_cases hr : 0 ≤ i ∧ i < l.length
  · obtain ⟨n, rfl⟩ : ∃ n : Nat, i = n := ⟨i.toNat, by omega⟩
    have hnl : n < l.length := by omega
    clear hr
    obtain ⟨b, off, rfl, _, _, _⟩ := HS.out.at n hnl
    have HIN := Lib.hid (fun w => impl_Tree_at (b := b) (off := off) (len := l.length) (c0 := c0_0) n hn hnl w)
    go_enter Try.func48, Try.ntmps48
    go_wp2_with fail
    refine (HIN.out _).mono ?_
    rintro e w1 ⟨rfl, hb1⟩
    have hbox : w1.cell? ⟨w.heap.size, 0, none⟩ = some (.slice (some ⟨b, off, none⟩) l.length c0_0) := (hb1.cell (p := ⟨w.heap.size, 0, none⟩) HBS.out).trans HC.out
    have HS1 := Lib.hid (HS.out.later hb1 HH.out)
    have HB1 := Lib.hid (HB.out.trans (hb1.mono HB.out.size))
    clear hb1
    go_wp2
    go_loop [5] (fun q => ∃ k : Nat, n < k ∧ k ≤ l.length ∧ q = .int .i64 (k : Int) ∧ inSub l n k) (fun q => l.length - (intOf q).toNat)
    case atStart => exact ⟨n + 1, by omega, by omega, by go_num, fun m h1 h2 => by omega⟩
    case round =>
      obtain ⟨k, hk0, hk, rfl, hsub⟩ := hrel
      have HSUB := Lib.hid hsub
      clear hsub
      by_cases hlt : k < l.length
      · obtain ⟨b', off', hbo, _, _, hc⟩ := HS1.out.at k hlt
        simp only [Option.some.injEq, Addr.mk.injEq, and_true] at hbo
        obtain ⟨rfl, rfl⟩ := hbo
        obtain ⟨a5, c5, hc0, hc1, hc2, hc3, hc4, hc5, hs5⟩ := DNode.open hc
        clear hc hc0 hc2 hc3 hc4 hc5 hs5
        by_cases he : (n : Int) ≤ (l.getD k default).fParent
        · have HSUB2 := Lib.hid (inSub_succ HSUB.out he)
          generalize (l.getD k default).fParent = z at *
          go_wp2
          go_round
          case rel => exact ⟨k + 1, by omega, by omega, by go_num, HSUB2.out⟩
          case measure => simp [intOf]; omega
        · have fin := Lib.hid (subSize_at hk0 hk HSUB.out (Or.inr (by omega)))
          have he' : (l.getD k default).fParent < (n : Int) := by omega
          clear he
          generalize (l.getD k default).fParent = z at *
          go_wp2
          go_ret
          exact ⟨ret_i (by rw [fin.out]), HB1.out⟩
      · obtain rfl : k = l.length := by omega
        have fin := Lib.hid (subSize_at hk0 hk HSUB.out (Or.inl rfl))
        go_wp2
        go_ret
        exact ⟨ret_i (by rw [fin.out]), HB1.out⟩
  · have HIN := Lib.hid (fun w => impl_Tree_at_no (a0 := a0) (c0 := c0_0) hn i (by omega) w)
    have fin := Lib.hid (subSize_no (l := l) (i := i) (by omega))
    clear hr
    go_enter Try.func48, Try.ntmps48
    go_wp2_with fail
    refine (HIN.out _).mono ?_
    rintro e w1 ⟨rfl, hb1⟩
    have HB1 := Lib.hid (HB.out.trans (hb1.mono HB.out.size))
    clear hb1
    go_wp2
    go_ret
    exact ⟨ret_i (by rw [fin.out]), HB1.out⟩
end Go.Proofs.Ytjjbnbhcfhbfdaa
