/-
  The laws' own helpers on [][]int.
-/
import Derived.Test.YthmgjlejejgecaaTInt
import Derived.WalkSpells
import Derived.WalkSmall
import Derived.WalkLawsBesides
import Derived.SliceStrings
import Derived.Deep.QuietTactic
import Derived.Deep.RegionWith
import Derived.BigQuiet
import Derived.Outline
namespace Go.Proofs.Ythmgjlejejgecaa
open Go.ChangeShapes Go.WideShapes Go.ChangeAt Go.RowKit Go.Deep

theorem open_IntS {lo hi b o : Nat} {w : World} {x : List Int} (h : ∀ j, j < 1 → ∃ u, w.cell? ⟨b, o + j, none⟩ = some u ∧ Lies lo hi w (lct 1 ictI x j) u) :
    ∃ a0 c0, w.cell? ⟨b, o, none⟩ = some (.slice a0 x.length c0) ∧ Sl lo hi w 1 x.length (fun k => ictI (x.getD k default)) a0 := by
  obtain ⟨u0, hc0, hl0⟩ := h 0 (by decide)
  obtain ⟨a0, c0, rfl, hs0⟩ := lies_sl hl0
  exact ⟨a0, c0, hc0, hs0⟩

theorem arg_intSS {H : Type} {enc : TypeId × Value → H} {W : World} {v : Value} {d : DataW H} {p : List MemPlace} {a0 : Option Addr} {len cap : Nat} (hv : v = .slice a0 len cap) (h : DataW.Trod enc Try.prog W 0 (fun _ => true) true 24 v d p) :
    ∃ (l : List (List Int)) (a : Option Addr) (cap : Nat), v = .slice a l.length cap ∧ okL (okL okI) l ∧ Sl 0 W.heap.size W 1 l.length (fun k => lct 1 ictI (l.getD k default)) a := by
  subst hv
  obtain ⟨fuel, hf⟩ := h
  obtain ⟨x, hx, hl, hj⟩ := opens_slice Try.underlying24 (e := 25) (n := 1) (by kernel_rfl) (by decide) fuel (fun m _ => opens_slice Try.underlying25 (e := 3) (n := 1) (by kernel_rfl) (by decide) m (fun m' _ => opens_int Try.underlying3 m')) _ _ hf
  obtain ⟨u0, hu0, hl0⟩ := hj 0 (by decide)
  obtain ⟨a, c, rfl, hs⟩ := lies_sl hl0
  exact ⟨x, a, c, Option.some.inj hu0, hx, hs⟩

set_option maxHeartbeats 1600000 in
set_option maxRecDepth 100000 in
theorem laws_szIntSS {lo hi : Nat} {a : Option Addr} {cap : Nat} (l : List (List Int)) (L : Int) (hL0 : 0 ≤ L) (hL1 : L ≤ 1048576) (hok : okL (okL okI) l) (w : World) (hhi : hi ≤ w.heap.size) (hs : Sl lo hi w 1 l.length (fun k => lct 1 ictI (l.getD k default)) a) :
    Calls Try.prog 19 #[.slice a l.length cap, .int .i64 L] w fun e w' => e = .returned (.int .i64 (szR L (lsz (lsz (fun _ => 0)) l))) ∧ Below w.heap.size w w' := by
  have HS := Lib.hid hs
  have HK := Lib.hid hok
  have hn : l.length ≤ 9223372036854775807 := hok.1
  clear hs hok
  by_cases hlong : L < ((l.length : Nat) : Int)
  · have fin := Lib.hid (szR_gt (n := lsz (lsz (fun _ => 0)) l) (L := L) (by unfold lsz; omega))
    go_enter Try.func19, Try.ntmps19
    go_wp2
    go_ret
    exact ⟨ret_i fin.out.symm, Below.refl _ _⟩
  · go_enter Try.func19, Try.ntmps19
    go_wp2
    go_loopw [1, 5] (fun q i wr => ∃ k : Nat, k ≤ l.length ∧ i = .int .i64 (k : Int) ∧ q = .int .i64 (L - l.length - psz (lsz (fun _ => 0)) l k) ∧ (l.length : Int) + psz (lsz (fun _ => 0)) l k ≤ L ∧ Below w.heap.size w wr) (fun _ i _ => l.length - (intOf i).toNat)
    case atStart => exact ⟨0, Nat.zero_le _, rfl, by rw [psz_zero]; go_num, by rw [psz_zero]; omega, Below.refl _ _⟩
    case round =>
      obtain ⟨k, hk, rfl, rfl, hle, hb⟩ := hrel
      have HB := Lib.hid hb
      by_cases hlt : k < l.length
      · have hsu := Lib.hid (psz_succ (lsz (fun _ => 0)) l k hlt)
        have hle2 := Lib.hid (psz_le (lsz (fun _ => 0)) l (k + 1))
        have hokk := HK.out.at hlt
        have hhr : hi ≤ wr.heap.size := Nat.le_trans hhi hb.size
        obtain ⟨b, off, rfl, hlo, hhi', hc⟩ := (HS.out.later (hb.mono hhi) (Nat.le_refl _)).at k hlt
        clear hb
        rw [Nat.mul_one] at hc
        obtain ⟨a0, c0, hc0_, hs0⟩ := open_IntS hc
        clear hc
        generalize l.getD k default = x at *
        generalize psz (lsz (fun _ => 0)) l k = S at *
        have hZ := laws_szIntS (cap := c0) x (L - l.length - S) (by omega) (by omega) hokk wr hhr hs0
        by_cases hf : ((lsz (fun _ => 0) x : Nat) : Int) ≤ L - l.length - S
        · rw [szR_le hf] at hZ
          have HZ := Lib.hid hZ
          clear hZ hokk hs0
          go_wp2_with fail
          refine HZ.out.mono ?_
          rintro e w1 ⟨rfl, hb1⟩
          have HB1 := Lib.hid hb1
          clear hb1
          go_wp2
          go_roundw
          case rel => exact ⟨k + 1, by omega, by go_num, by rw [hsu.out]; go_num, by rw [hsu.out]; omega, HB.out.trans (HB1.out.mono HB.out.size)⟩
          case measure => simp [intOf]; omega
        · have fin := Lib.hid (szR_gt (n := lsz (lsz (fun _ => 0)) l) (L := L) (by have h1 := hsu.out; have h2 := hle2.out; omega))
          rw [szR_gt (by omega)] at hZ
          have HZ := Lib.hid hZ
          clear hZ hokk hs0
          go_wp2_with fail
          refine HZ.out.mono ?_
          rintro e w1 ⟨rfl, hb1⟩
          have HB1 := Lib.hid hb1
          clear hb1
          go_wp2
          go_ret
          exact ⟨ret_i fin.out.symm, HB.out.trans (HB1.out.mono HB.out.size)⟩
      · obtain rfl : k = l.length := by omega
        have fin := Lib.hid (szR_le (n := lsz (lsz (fun _ => 0)) l) (L := L) (by rw [show lsz (lsz (fun _ => 0)) l = l.length + (l.map (lsz (fun _ => 0))).sum from rfl]; rw [psz_all] at hle; omega))
        have fin2 := Lib.hid (psz_all (lsz (fun _ => 0)) l)
        go_wp2
        go_ret
        exact ⟨ret_i (by rw [fin.out, fin2.out, show lsz (lsz (fun _ => 0)) l = l.length + (l.map (lsz (fun _ => 0))).sum from rfl]; omega), HB.out⟩

theorem info_IntS : (Try.prog.info? 25).map (fun i => (i.zero, i.size, i.bytes)) = some (some (.slice none 0 0), 1, 24) := by kernel_rfl

set_option maxHeartbeats 1600000 in
set_option maxRecDepth 100000 in
theorem laws_toIntSS {lo hi : Nat} {a : Option Addr} {cap : Nat} (l : List (List Int)) (hsz : lsz (lsz (fun _ => 0)) l ≤ 1048576) (w : World) (hhi : hi ≤ w.heap.size) (hs : Sl lo hi w 1 l.length (fun k => lct 1 ictI (l.getD k default)) a) :
    Calls Try.prog 21 #[.slice a l.length cap] w fun e w' => ∃ a' cap', e = .returned (.slice a' l.length cap') ∧ Own w' (fun x => w.heap.size ≤ x ∧ x < w'.heap.size) (.sl 1 l.length (fun k => lct 1 ictI (l.getD k default))) (.slice a' l.length cap') ∧ Below w.heap.size w w' := by
  have HS := Lib.hid hs
  clear hs
  have HW := Lib.hid hsz
  have hn : l.length ≤ 1048576 := by unfold lsz at hsz; omega
  clear hsz
  obtain ⟨i0, hi', hz0, hz1, hz2⟩ := info_parts info_IntS
  go_enter Try.func21, Try.ntmps21
  go_wp2_with (at_make; refine wpList_make_full _ rfl (.tmp 6) (.tmp 6) 24 rfl w.heap.size 25 i0 (.slice none 0 0) 1 Try.underlying24 hi' hz0 hz1 .i64 .i64 (l.length : Int) (l.length : Int) l.length rfl rfl rfl rfl (by rw [hz2]; omega) (by unfold maxLen; omega) (Nat.le_refl _) ?_; intro w1 hown hgrow)
  have hb1 : Below w.heap.size w w1 := (Below.refl _ w).grown hgrow (Nat.le_refl _) (fun k hk => by cases hk)
  clear hgrow
  have hblk := (ownsRow_block hown).1
  go_loopw [4] (fun i wr => ∃ (k : Nat) (xs : List Value), k ≤ l.length ∧ i = .int .i64 (k : Int) ∧ wr.ownsRow w.heap.size 25 1 (.slice (some ⟨w.heap.size, 0, none⟩) l.length l.length) l.length xs ∧ Filled w.heap.size wr 1 k (fun k => lct 1 ictI (l.getD k default)) xs ∧ Below w.heap.size w wr) (fun i _ => l.length - (intOf i).toNat)
  case atStart => exact ⟨0, _, Nat.zero_le _, rfl, hown, Filled.zero hblk, hb1⟩
  case round =>
    clear hown hb1 hblk
    obtain ⟨k, xs, hk, rfl, hown, hfill, hb⟩ := hrel
    have hblk := ownsRow_block hown
    have HO := Lib.hid hown
    have HF := Lib.hid hfill
    have HB := Lib.hid hb
    clear hown hfill
    by_cases hlt : k < l.length
    · have hhr : hi ≤ wr.heap.size := Nat.le_trans hhi hb.size
      obtain ⟨b, off, rfl, hlo, hhi', hc⟩ := (HS.out.later (hb.mono hhi) (Nat.le_refl _)).at k hlt
      rw [Nat.mul_one] at hc
      obtain ⟨a0, c0, hc0_, hs0⟩ := open_IntS hc
      have hkn : k + 1 ≤ l.length * 1 := by omega
      have d0 := hblk.2.2.1 (k) (by omega)
      have z0 := hblk.2.2.2 (k)
      have hsz := hblk.1
      clear hblk hb hc
      have hxs := szle_at (f := (lsz (fun _ => 0))) l k hlt
      generalize hx : l.getD k default = x at *
      have HX := Lib.hid hx
      clear hx
      generalize xs.getD (k) Value.nilFunc = v0 at d0
      have HT := Lib.hid (laws_toIntS (cap := c0) x (by have h1 := HW.out; omega) wr hhr hs0)
      clear hxs hs0
      go_wp2_with fail
      refine HT.out.mono ?_
      rintro e w1 ⟨a0r, c0r, rfl, ho1, hb1⟩
      have HOR := Lib.hid ho1
      clear ho1
      have e0 := (hb1.cell (p := ⟨w.heap.size, k, none⟩) hsz).trans d0
      have y0 := (hb1.frozen (p := ⟨w.heap.size, k, none⟩) hsz).trans z0
      have HB1 := Lib.hid hb1
      clear hb1 d0 z0
      go_wp2
      go_roundw
      case rel =>
        have hst := HF.out.stored HB1.out hsz (ownsRow_below HO.out HB1.out) hlt [.slice a0r x.length c0r] rfl ((OwnR.one (by rw [HX.out]; exact HOR.out)))
        rw [Nat.mul_one] at hst
        exact ⟨k + 1, _, by omega, by go_num, hst.1, hst.2, setCells_below (Nat.le_refl _) [_] _ (HB.out.trans (HB1.out.mono HB.out.size))⟩
      case measure => simp [intOf]; omega
    · obtain rfl : k = l.length := by omega
      go_wp2
      go_ret
      exact ⟨_, _, rfl, HF.out.own hblk.1 hblk.2.2.1 hblk.2.2.2, hb⟩

set_option maxHeartbeats 1600000 in
set_option maxRecDepth 100000 in
theorem laws_eqIntSS {lo hi lo2 hi2 : Nat} {a a2 : Option Addr} {cap cap2 : Nat} (l : List (List Int)) (hsz : lsz (lsz (fun _ => 0)) l ≤ 1048576) (w : World) (hhi : hi ≤ w.heap.size) (hhi2 : hi2 ≤ w.heap.size) (hs : Sl lo hi w 1 l.length (fun k => lct 1 ictI (l.getD k default)) a) (hs2 : Sl lo2 hi2 w 1 l.length (fun k => lct 1 ictI (l.getD k default)) a2) :
    Calls Try.prog 24 #[.slice a l.length cap, .slice a2 l.length cap2] w fun e w' => e = .returned (.bool true) ∧ Below w.heap.size w w' := by
  have HS := Lib.hid hs
  have HS2 := Lib.hid hs2
  have HW := Lib.hid hsz
  have hn : l.length ≤ 1048576 := by unfold lsz at hsz; omega
  clear hs hs2 hsz
  go_enter Try.func24, Try.ntmps24
  go_wp2
  go_loopw [5] (fun i wr => ∃ k : Nat, k ≤ l.length ∧ i = .int .i64 (k : Int) ∧ Below w.heap.size w wr) (fun i _ => l.length - (intOf i).toNat)
  case atStart => exact ⟨0, Nat.zero_le _, rfl, Below.refl _ _⟩
  case round =>
    obtain ⟨k, hk, rfl, hb⟩ := hrel
    have HB := Lib.hid hb
    by_cases hlt : k < l.length
    · have hhr : hi ≤ wr.heap.size := Nat.le_trans hhi hb.size
      have hhr2 : hi2 ≤ wr.heap.size := Nat.le_trans hhi2 hb.size
      obtain ⟨b, off, rfl, _, hhi', hc⟩ := (HS.out.later (hb.mono hhi) (Nat.le_refl _)).at k hlt
      obtain ⟨b2, off2, rfl, _, hhi2', hc2⟩ := (HS2.out.later (hb.mono hhi2) (Nat.le_refl _)).at k hlt
      rw [Nat.mul_one] at hc
      obtain ⟨a0, c0, hc0_, hs0⟩ := open_IntS hc
      rw [Nat.mul_one] at hc2
      obtain ⟨a0q, c0q, hc0q_, hs0q⟩ := open_IntS hc2
      have hxs := szle_at (f := (lsz (fun _ => 0))) l k hlt
      clear hb hc hc2
      generalize l.getD k default = x at *
      have HT := Lib.hid (fun (w' : World) (hw : Below wr.heap.size wr w') => laws_eqIntS (cap := c0) (cap2 := c0q) x (by have h1 := HW.out; omega) w' (Nat.le_trans hhr hw.size) (Nat.le_trans hhr2 hw.size) (hs0.later hw hhr) (hs0q.later hw hhr2))
      clear hxs hs0 hs0q
      go_wp2_with fail
      go_region_with ((go_at_call 25; refine (HT.out _ (by first | exact Below.refl _ _ | exact (Below.refl _ _).drew | exact below_drewN (Below.refl _ _) _)).mono ?_; rintro e w1 ⟨rfl, hb1⟩))
      all_goals
        go_wp2
        go_roundw
        case rel =>
          refine ⟨k + 1, by omega, by go_num, ?_⟩
          have hb2 : Below wr.heap.size wr w1 := ⟨hb1.os, hb1.tape, hb1.output, hb1.size, hb1.block⟩
          repeat (first | exact HB.out.trans (hb2.mono HB.out.size) | apply Below.drew | refine below_drewN ?_ _)
        case measure => simp [intOf]; omega
    · go_wp2
      go_ret
      exact ⟨rfl, HB.out⟩
end Go.Proofs.Ythmgjlejejgecaa
