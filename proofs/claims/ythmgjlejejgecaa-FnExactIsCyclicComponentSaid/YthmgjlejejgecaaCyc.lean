/-
  IsCyclicComponent, in the model and in the program.
-/
import Derived.Test.YthmgjlejejgecaaTIntSS
import Derived.Test.YthmgjlejejgecaaIntsHas
import Derived.Test.YthmgjlejejgecaaInR
namespace Go.Proofs.Ythmgjlejejgecaa
open Go.ChangeShapes Go.WideShapes Go.ChangeAt Go.RowKit Go.Deep

/-- One node with a step to itself, or more than one. -/
def cyclicC (t : List (List Int)) (l : List Int) : Bool :=
  if l.length ≠ 1 then decide (1 < l.length) else if 0 ≤ l.getD 0 default ∧ l.getD 0 default < t.length then hasI (t.getD (l.getD 0 default).toNat default) (l.getD 0 default) else false
theorem cyc_len {t : List (List Int)} {l : List Int} (h : l.length ≠ 1) : cyclicC t l = decide (1 < l.length) := by unfold cyclicC; rw [if_pos h]
theorem cyc_no {t : List (List Int)} {l : List Int} (h : l.length = 1) (h1 : l.getD 0 default < 0 ∨ (t.length : Int) ≤ l.getD 0 default) : cyclicC t l = false := by
  unfold cyclicC; rw [if_neg (by omega), if_neg (by omega)]
theorem cyc_at {t : List (List Int)} {l : List Int} (h : l.length = 1) {k : Nat} (hk : k < t.length) (h1 : l.getD 0 default = (k : Int)) : cyclicC t l = hasI (t.getD k default) (k : Int) := by
  unfold cyclicC; rw [if_neg (by omega), if_pos (by omega), h1, Int.toNat_natCast]

set_option maxHeartbeats 1600000 in
set_option maxRecDepth 100000 in
theorem spec_IsCyclicComponent {lo hi c0_0 c1_0 : Nat} {a0 a1 : Option Addr} (t : List (List Int)) (_ : okL (okL okI) t) (ht : lsz (lsz (fun _ => 0)) t ≤ 1048576) (l : List Int) (hl : okL okI l) (hlz : lsz (fun _ => 0) l ≤ 1048576) (w : World) (hhi : hi ≤ w.heap.size) (hs : Sl lo hi w 1 t.length (fun k => lct 1 ictI (t.getD k default)) a0) (hs1 : Sl lo hi w 1 l.length (fun k => ictI (l.getD k default)) a1) :
    Calls Try.prog 20 #[.slice a0 t.length c0_0, .slice a1 l.length c1_0] w fun e w' => e = .returned (.bool (cyclicC t l)) ∧ Below w.heap.size w w' := by
  have hnt : t.length ≤ 1048576 := by have h := show lsz (lsz (fun _ => 0)) t = t.length + (t.map (lsz (fun _ => 0))).sum from rfl; omega
  have hnl : l.length ≤ 1048576 := by have h := lsz_zero l; omega
  by_cases h : l.length = 1
  · obtain ⟨b, off, rfl, _, _, hc⟩ := hs1.at 0 (by omega)
    rw [Nat.zero_mul, Nat.add_zero] at hc
    have hc0 := open_Int hc
    have hx := hl.at (k := 0) (by omega)
    have hx1 : -9223372036854775808 ≤ l.getD 0 default ∧ l.getD 0 default ≤ 9223372036854775807 := hx
    clear hx hc hs1
    by_cases h0 : l.getD 0 default < 0 ∨ (t.length : Int) ≤ l.getD 0 default
    · have fin := Lib.hid (cyc_no h h0)
      rw [h]
      generalize l.getD 0 default = x at *
      clear h hl hlz hs ht
      have HI := Lib.hid (show ∀ w' (y : Int), y = (t.length : Int) - 1 → Calls Try.prog 72 #[.int .i64 x, .int .i64 0, .int .i64 y] w' fun e w'' => e = .returned (.bool false) ∧ w'' = w' from fun w' y hy => by have h := spec_l1In x 0 ((t.length : Int) - 1) w'; rw [inR_no (n := x) (a := 0) (b := (t.length : Int) - 1) (by omega)] at h; rw [hy]; exact h.mono fun _ _ ⟨he, hm⟩ => ⟨he, hm.symm⟩)
      go_enter Try.func20, Try.ntmps20
      go_wp2_with fail
      go_quiet ((go_at_call 72; exact Calls.quiet_of_same (HI.out _ _ (by first | rfl | (rw [IntKind.wrap_i64]; omega)))))
      go_wp2
      go_ret
      exact ⟨ret_b (by rw [fin.out]), below_drewN (Below.refl _ _) _⟩
    · obtain ⟨k, hk⟩ : ∃ k : Nat, l.getD 0 default = (k : Int) := ⟨(l.getD 0 default).toNat, by omega⟩
      have hkt : k < t.length := by omega
      have fin := Lib.hid (cyc_at h hkt hk)
      obtain ⟨b2, off2, rfl, _, _, hd⟩ := hs.at k hkt
      rw [Nat.mul_one] at hd
      obtain ⟨aa, cc, hd0, hsk⟩ := open_IntS hd
      have hnk : (t.getD k default).length ≤ 1048576 := by have h1 := szle_at (f := lsz (fun _ => 0)) t k hkt; have h2 := lsz_zero (t.getD k default); omega
      have HH := Lib.hid (fun (W : World) (hb : Below w.heap.size w W) => spec_l1HasInt (cap := cc) (t.getD k default) hnk (k : Int) W (hsk.later hb hhi))
      rw [h]
      rw [hk] at hc0
      clear h hl hlz hs ht hd hsk h0
      generalize t.getD k default = m at *
      generalize hasI m (k : Int) = v at *
      have HI := Lib.hid (show ∀ w' (y : Int), y = (t.length : Int) - 1 → Calls Try.prog 72 #[.int .i64 (k : Int), .int .i64 0, .int .i64 y] w' fun e w'' => e = .returned (.bool true) ∧ w'' = w' from fun w' y hy => by have h := spec_l1In (k : Int) 0 ((t.length : Int) - 1) w'; rw [inR_yes (n := (k : Int)) (a := 0) (b := (t.length : Int) - 1) (by omega) (by omega)] at h; rw [hy]; exact h.mono fun _ _ ⟨he, hm⟩ => ⟨he, hm.symm⟩)
      go_enter Try.func20, Try.ntmps20
      go_wp2_with fail
      go_quiet ((first | (go_at_call 72; exact Calls.quiet_of_same (HI.out _ _ (by first | rfl | (rw [IntKind.wrap_i64]; omega)))) | (go_at_call 76; exact Calls.quiet_of_same ((HH.out _ (by first | exact Below.refl _ _ | exact (Below.refl _ _).drew | exact below_drewN (Below.refl _ _) _)).mono fun _ _ ⟨he, hm⟩ => ⟨he, hm.symm⟩))))
      go_wp2
      go_ret
      exact ⟨ret_b (by rw [fin.out]), below_drewN (Below.refl _ _) _⟩
  · have fin := Lib.hid (cyc_len (t := t) h)
    have hne : ((l.length : Nat) : Int) ≠ 1 := by omega
    have e1 : ((l.length : Int) == 1) = false := beq_eq_false_iff_ne.2 hne
    by_cases hz : 1 < l.length
    · have FV := Lib.hid (show decide (1 < l.length) = true from decide_eq_true hz)
      clear h hs hs1 hl
      go_enter Try.func20, Try.ntmps20
      go_wp2
      go_ret
      exact ⟨ret_b (by rw [fin.out, FV.out]; exact decide_eq_true (by omega)), Below.refl _ _⟩
    · have FV := Lib.hid (show decide (1 < l.length) = false from decide_eq_false hz)
      clear h hs hs1 hl
      go_enter Try.func20, Try.ntmps20
      go_wp2
      go_ret
      exact ⟨ret_b (by rw [fin.out, FV.out]; exact decide_eq_false (by omega)), Below.refl _ _⟩

set_option maxHeartbeats 1600000 in
set_option maxRecDepth 100000 in
theorem impl_IsCyclicComponent {lo hi c0_0 c1_0 : Nat} {a0 a1 : Option Addr} (t : List (List Int)) (_ : okL (okL okI) t) (ht : lsz (lsz (fun _ => 0)) t ≤ 1048576) (l : List Int) (hl : okL okI l) (hlz : lsz (fun _ => 0) l ≤ 1048576) (w : World) (hhi : hi ≤ w.heap.size) (hs : Sl lo hi w 1 t.length (fun k => lct 1 ictI (t.getD k default)) a0) (hs1 : Sl lo hi w 1 l.length (fun k => ictI (l.getD k default)) a1) :
    Calls Try.prog 23 #[.slice a0 t.length c0_0, .slice a1 l.length c1_0] w fun e w' => e = .returned (.bool (cyclicC t l)) ∧ Below w.heap.size w w' := by
  have hnt : t.length ≤ 1048576 := by have h := show lsz (lsz (fun _ => 0)) t = t.length + (t.map (lsz (fun _ => 0))).sum from rfl; omega
  have hnl : l.length ≤ 1048576 := by have h := lsz_zero l; omega
  by_cases h : l.length = 1
  · obtain ⟨b, off, rfl, _, _, hc⟩ := hs1.at 0 (by omega)
    rw [Nat.zero_mul, Nat.add_zero] at hc
    have hc0 := open_Int hc
    have hx := hl.at (k := 0) (by omega)
    have hx1 : -9223372036854775808 ≤ l.getD 0 default ∧ l.getD 0 default ≤ 9223372036854775807 := hx
    clear hx hc hs1
    by_cases h0 : l.getD 0 default < 0 ∨ (t.length : Int) ≤ l.getD 0 default
    · have fin := Lib.hid (cyc_no h h0)
      rw [h]
      generalize l.getD 0 default = x at *
      clear h hl hlz hs ht
      by_cases hneg : x < 0
      · go_enter Try.func23, Try.ntmps23
        go_wp2
        go_ret
        exact ⟨ret_b (by rw [fin.out]), Below.refl _ _⟩
      · have hbig : (t.length : Int) ≤ x := by omega
        go_enter Try.func23, Try.ntmps23
        go_wp2
        go_ret
        exact ⟨ret_b (by rw [fin.out]), Below.refl _ _⟩
    · obtain ⟨k, hk⟩ : ∃ k : Nat, l.getD 0 default = (k : Int) := ⟨(l.getD 0 default).toNat, by omega⟩
      have hkt : k < t.length := by omega
      have fin := Lib.hid (cyc_at h hkt hk)
      obtain ⟨b2, off2, rfl, _, _, hd⟩ := hs.at k hkt
      rw [Nat.mul_one] at hd
      obtain ⟨aa, cc, hd0, hsk⟩ := open_IntS hd
      have hnk : (t.getD k default).length ≤ 1048576 := by have h1 := szle_at (f := lsz (fun _ => 0)) t k hkt; have h2 := lsz_zero (t.getD k default); omega
      have HH := Lib.hid (fun (W : World) (hb : Below w.heap.size w W) => slices_Contains_int (cap := cc) (t.getD k default) hnk (k : Int) W (hsk.later hb hhi))
      rw [h]
      rw [hk] at hc0
      clear h hl hlz hs ht hd hsk h0
      generalize t.getD k default = m at *
      generalize hasI m (k : Int) = v at *
      go_enter Try.func23, Try.ntmps23
      go_wp2_with fail
      refine (HH.out _ (Below.refl _ _)).mono ?_
      rintro e w1 ⟨rfl, rfl⟩
      go_wp2
      go_ret
      exact ⟨ret_b (by rw [fin.out]), Below.refl _ _⟩
  · have fin := Lib.hid (cyc_len (t := t) h)
    have hne : ((l.length : Nat) : Int) ≠ 1 := by omega
    have e1 : ((l.length : Int) == 1) = false := beq_eq_false_iff_ne.2 hne
    by_cases hz : 1 < l.length
    · have FV := Lib.hid (show decide (1 < l.length) = true from decide_eq_true hz)
      clear h hs hs1 hl
      go_enter Try.func23, Try.ntmps23
      go_wp2
      go_ret
      exact ⟨ret_b (by rw [fin.out, FV.out]; exact decide_eq_true (by omega)), Below.refl _ _⟩
    · have FV := Lib.hid (show decide (1 < l.length) = false from decide_eq_false hz)
      clear h hs hs1 hl
      go_enter Try.func23, Try.ntmps23
      go_wp2
      go_ret
      exact ⟨ret_b (by rw [fin.out, FV.out]; exact decide_eq_false (by omega)), Below.refl _ _⟩
end Go.Proofs.Ythmgjlejejgecaa
