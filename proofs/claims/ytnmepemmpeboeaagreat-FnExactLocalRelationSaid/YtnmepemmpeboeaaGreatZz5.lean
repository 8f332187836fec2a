/-
  One digit as a string, as the loops over digits make it.
  The laws' own marks: markText, a text for each number.
-/
import Derived.Test.YtnmepemmpeboeaaGreatZKit
import Derived.Test.YtnmepemmpeboeaaGreatZNum
import Derived.WalkSpells
import Derived.WalkLawsBesides
import Derived.Lib.Hide
namespace Go.Proofs.YtnmepemmpeboeaaGreat
open Go.ChangeShapes Go.WideShapes Go.ChangeAt Go.RowKit
open Go.Lib Num

/-- 'string([]byte{byte(48 + d)})', as the walk comes to it: d is a digit k. -/
theorem digit_string {P : Program} {src dst e : TypeId} (hs : P.underlying src = some (.slice e)) (he : P.underlying e = some (.int .u8)) (hd : P.underlying dst = some .string) (w : World) (d : Int) (k : Nat) (hk : k < 10) (hdk : d = k) :
    ∃ c : UInt8, c = UInt8.ofNat (48 + k) ∧ (convert src dst (.slice (some ⟨w.heap.size, 0, none⟩) 1 1)).run P (w.alloc (.cells #[.int .u8 (48 + d)] e)) = .ok (.string ⟨[c].toArray⟩) (w.alloc (.cells #[.int .u8 (48 + d)] e)) := by
  have hn : ((UInt8.ofNat (48 + k)).toNat : Int) = 48 + d := by rw [digit_toNat k hk]; omega
  refine ⟨_, rfl, run_convert_bytes_back _ src dst e ⟨w.heap.size, 0, none⟩ 1 [UInt8.ofNat (48 + k)] hs he hd ?_⟩
  intro j hj
  match j, hj with
  | 0, _ =>
    show (w.alloc _).cell? ((⟨w.heap.size, 0, none⟩ : Addr).add 0) = _
    rw [add_plain, World.cell?_alloc_new]
    simp only [List.getElem_cons_zero, hn]
    rfl

theorem tail_short {d u : List UInt8} {n : Nat} (h : d ++ u = decDigits n) (hn : n < 10 ^ 20) : (u.length : Int) ≤ 8388608 := by
  have e := congrArg List.length h
  rw [List.length_append, decDigits_length] at e
  have := nDigits_le 20 n (by decide) hn
  omega
end Go.Proofs.YtnmepemmpeboeaaGreat
namespace Go.Proofs.YtnmepemmpeboeaaGreat
open Go.ChangeShapes Go.WideShapes Go.ChangeAt Go.RowKit
open Go.Lib Num

/-- The mark of number n. -/
def mk (n : Nat) : ByteArray := ⟨(109 :: decDigits n).toArray⟩

set_option maxHeartbeats 400000 in
set_option maxRecDepth 100000 in
theorem markText (n : Nat) (hn : 1 ≤ n) (h1 : n ≤ 9223372036854775807) (w : World) :
    Calls Tryz.prog 80 #[.int .i64 (n : Int)] w fun e w' => e = .returned (.string (mk n)) ∧ Below w.heap.size w w' := by
  go_enter Tryz.func80, Tryz.ntmps80
  go_wp2
  go_loopw [0, 3] (fun m out wr => ∃ (a : Nat) (u : List UInt8), a ≤ n ∧ m = .int .i64 (a : Int) ∧ out = .string ⟨u.toArray⟩ ∧ dd a ++ u = decDigits n ∧ Below w.heap.size w wr) (fun m _ _ => (RowKit.intOf m).toNat)
  case atStart => exact ⟨n, [], Nat.le_refl _, rfl, rfl, by rw [List.append_nil, dd_pos n (by omega)], Below.refl _ _⟩
  case round =>
    obtain ⟨a, u, ha, rfl, rfl, hu, hb⟩ := hrel
    have HU := Lib.hid hu
    clear hu
    have hul := tail_short HU.out (Nat.lt_of_le_of_lt h1 (by decide))
    by_cases hz : a = 0
    · subst hz
      have hadd := fun w' => run_string_add_lists (P := Tryz.prog) w' [109] u (by simp) hul
      go_wp2
      go_ret
      exact ⟨by unfold mk; rw [← HU.out]; rfl, hb⟩
    · obtain ⟨c, hc, hconv⟩ := digit_string (P := Tryz.prog) Tryz.underlying163 Tryz.underlying5 Tryz.underlying9 wr ((a : Int) % 10) (a % 10) (by omega) (by omega)
      have HC := Lib.hid hc
      clear hc
      have hadd := fun w' => run_string_add_lists (P := Tryz.prog) w' [c] u (by simp) hul
      go_wp2
      go_roundw
      case rel => exact ⟨a / 10, [c] ++ u, by omega, by go_num, rfl, by rw [HC.out, ← HU.out, ← List.append_assoc, ← dd_step a hz], hb.alloc hb.size _⟩
      case measure => simp [RowKit.intOf]; omega
end Go.Proofs.YtnmepemmpeboeaaGreat
