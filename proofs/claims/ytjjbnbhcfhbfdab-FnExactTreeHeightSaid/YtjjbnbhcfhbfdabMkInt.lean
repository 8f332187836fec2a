/-
  The laws' own marks on lists of numbers and on relations: markIntS, heldIntS, markRelation, heldRelation.
-/
import Derived.Test.YtjjbnbhcfhbfdabTRelation
namespace Go.Proofs.Ytjjbnbhcfhbfdab
open Go.ChangeShapes Go.WideShapes Go.ChangeAt Go.RowKit Go.Deep

/-- Of what was there only blocks of F may be written; new blocks may have come. -/
structure WritesF (F : Nat → Prop) (w w' : World) : Prop where
  os : w'.os = w.os
  tape : w'.tape = w.tape
  output : w'.output = w.output
  size : w.heap.size ≤ w'.heap.size
  block : ∀ b, b < w.heap.size → ¬ F b → w'.heap[b]? = w.heap[b]?
theorem WritesF.refl (F : Nat → Prop) (w : World) : WritesF F w w := ⟨rfl, rfl, rfl, Nat.le_refl _, fun _ _ _ => rfl⟩
theorem WritesF.trans {F : Nat → Prop} {a b c : World} (h : WritesF F a b) (k : WritesF F b c) : WritesF F a c :=
  ⟨k.os.trans h.os, k.tape.trans h.tape, k.output.trans h.output, Nat.le_trans h.size k.size, fun x hx hn => (k.block x (Nat.lt_of_lt_of_le hx h.size) hn).trans (h.block x hx hn)⟩
theorem WritesF.sub {F F' : Nat → Prop} {w w' : World} (h : WritesF F w w') (hF : ∀ x, F x → F' x) : WritesF F' w w' := ⟨h.os, h.tape, h.output, h.size, fun b hb hn => h.block b hb fun hf => hn (hF b hf)⟩
theorem WritesF.setCell {F : Nat → Prop} {a w : World} (h : WritesF F a w) {p : Addr} {u : Value} (hF : F p.block) : WritesF F a (w.setCell p u) :=
  h.trans ⟨rfl, rfl, rfl, by simp [World.setCell], fun b _ hn => Below.heap_setCell _ _ _ _ (fun e => hn (e ▸ hF))⟩
theorem WritesF.later {F : Nat → Prop} {a w w' : World} (h : WritesF F a w) (hb : Below w.heap.size w w') : WritesF F a w' :=
  h.trans ⟨hb.os, hb.tape, hb.output, hb.size, fun b h' _ => hb.block b h'⟩
theorem WritesF.below {F : Nat → Prop} {B : Nat} {w w' : World} (h : WritesF F w w') (hF : ∀ x, F x → B ≤ x) (hB : B ≤ w.heap.size) : Below B w w' :=
  ⟨h.os, h.tape, h.output, h.size, fun k hk => h.block k (by omega) (fun hf => by have := hF k hf; omega)⟩
theorem WritesF.of_below {F : Nat → Prop} {a w w' : World} (h : WritesF F w w') (hb : Below a.heap.size a w) : WritesF F a w' :=
  ⟨h.os.trans hb.os, h.tape.trans hb.tape, h.output.trans hb.output, Nat.le_trans hb.size h.size, fun b hb' hn => (h.block b (Nat.lt_of_lt_of_le hb' hb.size) hn).trans (hb.block b hb')⟩
theorem WritesF.kept {F G : Nat → Prop} {w w' : World} (h : WritesF F w w') (hd : ∀ x, G x → ¬ F x) : Kept G w w' := ⟨h.size, fun b hb hs => h.block b hs (hd b hb)⟩

/-- A list of numbers of its own: an empty one, or a block. -/
theorem own_ints {w : World} {F : Nat → Prop} {len cap : Nat} {f : Nat → Nat → Ct} {a : Option Addr} (h : Own w F (.sl 1 len f) (.slice a len cap)) (hf : ∀ k, k < len → ∃ v, f k 0 = .lit v) :
    len = 0 ∨ ∃ b off, a = some ⟨b, off, none⟩ ∧ F b ∧ b < w.heap.size ∧ (∀ k, k < len → ∃ v, f k 0 = .lit v ∧ w.cell? ⟨b, off + k, none⟩ = some v) ∧ ∀ o, w.frozen? ⟨b, o, none⟩ = false := by
  cases h with
  | nil => exact Or.inl rfl
  | row F n len f b off cap u G hF hb hc hz hl hG hd =>
    refine Or.inr ⟨b, off, rfl, hF, hb, fun k hk => ?_, hz⟩
    obtain ⟨v, hv⟩ := hf k hk
    have h1 := hl k hk 0 (by decide)
    have h2 := hc k hk 0 (by decide)
    rw [Nat.mul_one, Nat.add_zero] at h2
    rw [hv] at h1
    have h3 : u k 0 = v := by
      generalize u k 0 = z at h1
      cases h1
      rfl
    exact ⟨v, hv, by rw [h2, h3]⟩
theorem ints_own {w : World} {F : Nat → Prop} {len cap : Nat} {f : Nat → Nat → Ct} {b off : Nat} (hF : F b) (hb : b < w.heap.size) (hc : ∀ k, k < len → ∃ v, f k 0 = .lit v ∧ w.cell? ⟨b, off + k, none⟩ = some v) (hz : ∀ o, w.frozen? ⟨b, o, none⟩ = false) :
    Own w F (.sl 1 len f) (.slice (some ⟨b, off, none⟩) len cap) := by
  classical
  refine .row F 1 len f b off cap (fun k _ => if hk : k < len then Classical.choose (hc k hk) else .nilFunc) (fun _ _ _ => False) hF hb (fun k hk j hj => ?_) hz (fun k hk j hj => ?_) (fun _ _ _ _ _ hx => hx.elim) (fun _ _ _ _ _ _ _ _ _ hx => hx.elim)
  · obtain rfl : j = 0 := by omega
    simp only [dif_pos hk]
    rw [Nat.mul_one, Nat.add_zero]
    exact (Classical.choose_spec (hc k hk)).2
  · obtain rfl : j = 0 := by omega
    simp only [dif_pos hk]
    have e := (Classical.choose_spec (hc k hk)).1
    generalize Classical.choose (hc k hk) = v at e ⊢
    rw [e]
    exact .lit _ _

/-- The marks from number k on. -/
def mkI (k : Nat) : Nat → Nat → Ct := fun i _ => .lit (.int .i64 ((k + i : Nat) : Int))

set_option maxHeartbeats 1600000 in
set_option maxRecDepth 100000 in
theorem laws_markIntS {F : Nat → Prop} {a : Option Addr} {cap : Nat} (l : List Int) (hn : l.length ≤ 1099511627776) (k : Nat) (hk : k ≤ 1099511627776) (w : World) (ho : Own w F (.sl 1 l.length (fun i => ictI (l.getD i default))) (.slice a l.length cap)) :
    Calls Try.prog 42 #[.slice a l.length cap, .int .i64 (k : Int)] w fun e w' => e = .returned (.int .i64 ((k + l.length : Nat) : Int)) ∧ Own w' F (.sl 1 l.length (mkI k)) (.slice a l.length cap) ∧ WritesF F w w' := by
  rcases own_ints ho (fun k _ => ⟨_, rfl⟩) with h0 | ⟨b, off, rfl, hF, hb, hc, hz⟩
  · have HL := Lib.hid h0
    clear ho
    generalize l.length = n at *
    obtain rfl : n = 0 := HL.out
    go_enter Try.func42, Try.ntmps42
    go_wp2
    go_loop [1, 5] (fun q i => q = .int .i64 (k : Int) ∧ i = .int .i64 0) (fun _ _ => 0)
    case atStart => exact ⟨rfl, rfl⟩
    case round =>
      obtain ⟨rfl, rfl⟩ := hrel
      go_wp2
      go_ret
      exact ⟨rfl, .nil _ _ _ _ _, WritesF.refl _ _⟩
  · have HC := Lib.hid hc
    have HZ := Lib.hid hz
    clear ho hc hz
    go_enter Try.func42, Try.ntmps42
    go_wp2
    go_loopw [1, 5] (fun q i wr => ∃ j : Nat, j ≤ l.length ∧ i = .int .i64 (j : Int) ∧ q = .int .i64 ((k + j : Nat) : Int) ∧ b < wr.heap.size ∧ (∀ t, t < l.length → ∃ v, wr.cell? ⟨b, off + t, none⟩ = some v) ∧ (∀ t, t < j → wr.cell? ⟨b, off + t, none⟩ = some (.int .i64 ((k + t : Nat) : Int))) ∧ (∀ o, wr.frozen? ⟨b, o, none⟩ = false) ∧ WritesF F w wr) (fun _ i _ => l.length - (intOf i).toNat)
    case atStart => exact ⟨0, Nat.zero_le _, rfl, by go_num, hb, fun t ht => by obtain ⟨v, _, hv⟩ := HC.out t ht; exact ⟨v, hv⟩, fun t ht => absurd ht (Nat.not_lt_zero _), HZ.out, WritesF.refl _ _⟩
    case round =>
      obtain ⟨j, hj, rfl, rfl, hbr, hall, hdone, hfree, hwr⟩ := hrel
      have HALL := Lib.hid hall
      have HDONE := Lib.hid hdone
      have HFREE := Lib.hid hfree
      have HWR := Lib.hid hwr
      clear hall hdone hfree hwr
      by_cases hlt : j < l.length
      · obtain ⟨v, hv⟩ := HALL.out j hlt
        have hfz := HFREE.out (off + j)
        generalize hkj : k + j = q
        have HQ := Lib.hid hkj
        have hq2 : q ≤ 2199023255552 := by have := HQ.out; omega
        clear hkj
        go_wp2
        go_roundw
        case rel =>
          have hq := HQ.out
          refine ⟨j + 1, by omega, by go_num, by rw [← Nat.add_assoc, hq]; go_num, by simpa [World.setCell] using hbr, fun t ht => ?_, fun t ht => ?_, fun o => by rw [World.frozen?_setCell]; exact HFREE.out o, HWR.out.setCell hF⟩
          · by_cases htj : t = j
            · subst htj; exact ⟨_, World.cell?_setCell_same _ _ _ hv⟩
            · obtain ⟨s, hs⟩ := HALL.out t ht
              exact ⟨s, (World.cell?_setCell_other _ ⟨b, off + j, none⟩ ⟨b, off + t, none⟩ _ (fun e => by have := congrArg Addr.off e; simp only at this; omega)).trans hs⟩
          · by_cases htj : t = j
            · subst htj; rw [hq]; exact World.cell?_setCell_same _ _ _ hv
            · exact (World.cell?_setCell_other _ ⟨b, off + j, none⟩ ⟨b, off + t, none⟩ _ (fun e => by have := congrArg Addr.off e; simp only at this; omega)).trans (HDONE.out t (by omega))
        case measure => simp [intOf]; omega
      · obtain rfl : j = l.length := by omega
        go_wp2
        go_ret
        exact ⟨rfl, ints_own hF hbr (fun t ht => ⟨_, rfl, HDONE.out t ht⟩) HFREE.out, HWR.out⟩

set_option maxHeartbeats 1600000 in
set_option maxRecDepth 100000 in
theorem laws_heldIntS {F : Nat → Prop} {a : Option Addr} {cap : Nat} (n : Nat) (hn : n ≤ 1099511627776) (k : Nat) (hk : k ≤ 1099511627776) (w : World) (ho : Own w F (.sl 1 n (mkI k)) (.slice a n cap)) :
    Calls Try.prog 51 #[.slice a n cap, .int .i64 (k : Int)] w fun e w' => e = .returned (.int .i64 ((k + n : Nat) : Int)) ∧ Below w.heap.size w w' := by
  rcases own_ints ho (fun k _ => ⟨_, rfl⟩) with rfl | ⟨b, off, rfl, hF, hb, hc, hz⟩
  · clear ho
    go_enter Try.func51, Try.ntmps51
    go_wp2
    go_loop [1, 5] (fun q i => q = .int .i64 (k : Int) ∧ i = .int .i64 0) (fun _ _ => 0)
    case atStart => exact ⟨rfl, rfl⟩
    case round =>
      obtain ⟨rfl, rfl⟩ := hrel
      go_wp2
      go_ret
      exact ⟨rfl, Below.refl _ _⟩
  · have HC := Lib.hid hc
    clear ho hc hz
    go_enter Try.func51, Try.ntmps51
    go_wp2
    go_loop [1, 5] (fun q i => ∃ j : Nat, j ≤ n ∧ i = .int .i64 (j : Int) ∧ q = .int .i64 ((k + j : Nat) : Int)) (fun _ i => n - (intOf i).toNat)
    case atStart => exact ⟨0, Nat.zero_le _, rfl, by go_num⟩
    case round =>
      obtain ⟨j, hj, rfl, rfl⟩ := hrel
      by_cases hlt : j < n
      · obtain ⟨v, hv, hcell⟩ := HC.out j hlt
        have hv' : v = .int .i64 ((k + j : Nat) : Int) := by
          unfold mkI at hv
          simp only [Ct.lit.injEq] at hv
          exact hv.symm
        subst hv'
        clear hv
        generalize hkj : k + j = q at *
        have HQ := Lib.hid hkj
        have hq2 : q ≤ 2199023255552 := by have := HQ.out; omega
        clear hkj
        go_wp2
        go_round
        case rel =>
          have hq := HQ.out
          exact ⟨j + 1, by omega, by go_num, by rw [← Nat.add_assoc, hq]; go_num⟩
        case measure => simp [intOf]; omega
      · obtain rfl : j = n := by omega
        go_wp2
        go_ret
        exact ⟨rfl, Below.refl _ _⟩

set_option maxHeartbeats 1600000 in
set_option maxRecDepth 100000 in
theorem laws_markRelation {F : Nat → Prop} {a1 : Option Addr} {c1 : Nat} (x : DRelation) (hn : x.fRows.length ≤ 1099511627776) (k : Nat) (hk : k ≤ 1099511627776) (w : World) (hF : ∀ y, F y → y < w.heap.size) (ho : Own w F (.sl 1 x.fRows.length (fun k => ictI (x.fRows.getD k default))) (.slice a1 x.fRows.length c1)) :
    Calls Try.prog 30 #[.agg #[.int .i64 x.fN, .slice a1 x.fRows.length c1], .int .i64 (k : Int)] w fun e w' => e = .returned (.int .i64 ((k + x.fRows.length : Nat) : Int)) ∧ Own w' F (.sl 1 x.fRows.length (mkI k)) (.slice a1 x.fRows.length c1) ∧ WritesF F w w' := by
  have HB := Lib.hid ((Below.refl w.heap.size w).alloc (Nat.le_refl _) (.cells #[.int .i64 x.fN, .slice a1 x.fRows.length c1] 39))
  have HM := Lib.hid (laws_markIntS x.fRows hn k hk _ (ho.kept (Kept.of_below HB.out hF)))
  clear ho
  go_enter Try.func30, Try.ntmps30
  go_wp2_with fail
  refine HM.out.mono ?_
  rintro e w1 ⟨rfl, ho1, hw1⟩
  go_wp2
  go_ret
  exact ⟨rfl, ho1, hw1.of_below HB.out⟩

set_option maxHeartbeats 1600000 in
set_option maxRecDepth 100000 in
theorem laws_heldRelation {F : Nat → Prop} {a1 : Option Addr} {c1 : Nat} (x : DRelation) (hn : x.fRows.length ≤ 1099511627776) (k : Nat) (hk : k ≤ 1099511627776) (w : World) (hF : ∀ y, F y → y < w.heap.size) (ho : Own w F (.sl 1 x.fRows.length (mkI k)) (.slice a1 x.fRows.length c1)) :
    Calls Try.prog 31 #[.agg #[.int .i64 x.fN, .slice a1 x.fRows.length c1], .int .i64 (k : Int)] w fun e w' => e = .returned (.int .i64 ((k + x.fRows.length : Nat) : Int)) ∧ Below w.heap.size w w' := by
  have HB := Lib.hid ((Below.refl w.heap.size w).alloc (Nat.le_refl _) (.cells #[.int .i64 x.fN, .slice a1 x.fRows.length c1] 39))
  have HM := Lib.hid (laws_heldIntS x.fRows.length hn k hk _ (ho.kept (Kept.of_below HB.out hF)))
  have hs : 0 ≤ ((k + x.fRows.length : Nat) : Int) := by omega
  clear ho
  generalize hq : k + x.fRows.length = q at *
  clear hq
  go_enter Try.func31, Try.ntmps31
  go_wp2_with fail
  refine HM.out.mono ?_
  rintro e w1 ⟨rfl, hb1⟩
  go_wp2
  go_ret
  exact ⟨rfl, HB.out.trans (hb1.mono HB.out.size)⟩
end Go.Proofs.Ytjjbnbhcfhbfdab
