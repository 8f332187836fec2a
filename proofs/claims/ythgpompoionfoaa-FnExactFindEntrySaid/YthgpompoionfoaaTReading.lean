/-
  The type Reading of the laws: its data, and the contracts of the laws' own helpers on it.
-/
import Derived.Test.YthgpompoionfoaaTInstance
import Derived.WalkSpells
import Derived.WalkSmall
import Derived.WalkLawsBesides
import Derived.SliceStrings
import Derived.Deep.QuietTactic
import Derived.Deep.RegionWith
import Derived.BigQuiet
import Derived.Outline
import Derived.Laws.Rows
namespace Go.Proofs.Ythgpompoionfoaa
open Go.ChangeShapes Go.WideShapes Go.ChangeAt Go.RowKit Go.Deep

structure DReading where
  fAt : DInstance
  fValue : Int
  fSymbol : ByteArray
  deriving Inhabited

def DReading.ct (x : DReading) : Nat → Ct
  | 0 => .lit (.int .i64 x.fAt.fNode)
  | 1 => .lit (.string x.fAt.fName)
  | 2 => .lit (.int .i64 x.fValue)
  | 3 => .lit (.string x.fSymbol)
  | _ => .lit .nilFunc

def DReading.ok (x : DReading) : Prop := DInstance.ok x.fAt ∧ okI x.fValue ∧ okS x.fSymbol

def DReading.sz (x : DReading) : Nat := DInstance.sz x.fAt + x.fSymbol.size

theorem DReading.open {lo hi b o : Nat} {w : World} {x : DReading} (h : ∀ j, j < 4 → ∃ u, w.cell? ⟨b, o + j, none⟩ = some u ∧ Lies lo hi w (x.ct j) u) :
    w.cell? ⟨b, o, none⟩ = some (.int .i64 x.fAt.fNode) ∧ w.cell? ⟨b, o + 1, none⟩ = some (.string x.fAt.fName) ∧ w.cell? ⟨b, o + 2, none⟩ = some (.int .i64 x.fValue) ∧ w.cell? ⟨b, o + 3, none⟩ = some (.string x.fSymbol) := by
  obtain ⟨u0, hc0, hl0⟩ := h 0 (by decide)
  obtain rfl := lies_lit hl0
  obtain ⟨u1, hc1, hl1⟩ := h 1 (by decide)
  obtain rfl := lies_lit hl1
  obtain ⟨u2, hc2, hl2⟩ := h 2 (by decide)
  obtain rfl := lies_lit hl2
  obtain ⟨u3, hc3, hl3⟩ := h 3 (by decide)
  obtain rfl := lies_lit hl3
  exact ⟨hc0, hc1, hc2, hc3⟩

theorem opens_reading {H : Type} {enc : TypeId × Value → H} {w : World} (fuel : Nat) : Opens enc Try.prog w 78 4 DReading.ct DReading.ok fuel := by
  intro cs x h
  have hl := opens_len Try.underlying78 h
  obtain ⟨y0, k0, q0⟩ := opens_field Try.underlying78 h 0 _ rfl (ft := 27) (o := 0) (n := 2) rfl rfl (fun m _ => opens_instance m) (by kernel_rfl)
  obtain ⟨y1, k1, q1⟩ := opens_field Try.underlying78 h 1 _ rfl (ft := 3) (o := 2) (n := 1) rfl rfl (fun m _ => opens_int Try.underlying3 m) (by kernel_rfl)
  obtain ⟨y2, k2, q2⟩ := opens_field Try.underlying78 h 2 _ rfl (ft := 9) (o := 3) (n := 1) rfl rfl (fun m _ => opens_string Try.underlying9 m) (by kernel_rfl)
  refine ⟨⟨y0, y1, y2⟩, ⟨k0, k1, k2⟩, hl.trans (by kernel_rfl), fun j hj => ?_⟩
  match j, hj with
  | 0, _ => exact q0 0 (by decide)
  | 1, _ => exact q0 1 (by decide)
  | 2, _ => exact q1 0 (by decide)
  | 3, _ => exact q2 0 (by decide)

open Go.WideElems Go.WideMaps in
set_option maxRecDepth 100000 in
theorem arg_reading {H : Type} {enc : TypeId × Value → H} {W : World} {base : Nat} {v : Value} {d : DataW H} {p : List MemPlace} (hv : Value.okWide Try.prog W .any base 78 v) (h : DataW.Trod enc Try.prog W 0 (fun _ => true) true 78 v d p) :
    ∃ (x : DReading), v = .agg #[.int .i64 x.fAt.fNode, .string x.fAt.fName, .int .i64 x.fValue, .string x.fSymbol] ∧ x.ok := by
  obtain ⟨cs, rfl, hsz⟩ := okWide_struct Try.underlying78 hv
  obtain ⟨fuel, hf⟩ := h
  obtain ⟨x, hx, hl, hj⟩ := opens_reading fuel _ _ hf
  obtain ⟨l⟩ := cs
  match l, hl, hj with
  | [e0, e1, e2, e3], _, hj =>
    obtain ⟨u0, hu0, hl0⟩ := hj 0 (by decide)
    obtain rfl := lies_lit hl0
    obtain rfl : e0 = _ := Option.some.inj hu0
    obtain ⟨u1, hu1, hl1⟩ := hj 1 (by decide)
    obtain rfl := lies_lit hl1
    obtain rfl : e1 = _ := Option.some.inj hu1
    obtain ⟨u2, hu2, hl2⟩ := hj 2 (by decide)
    obtain rfl := lies_lit hl2
    obtain rfl : e2 = _ := Option.some.inj hu2
    obtain ⟨u3, hu3, hl3⟩ := hj 3 (by decide)
    obtain rfl := lies_lit hl3
    obtain rfl : e3 = _ := Option.some.inj hu3
    exact ⟨x, rfl, hx⟩

open Go.WideElems Go.WideMaps in
theorem arg_readingS {H : Type} {enc : TypeId × Value → H} {W : World} {v : Value} {d : DataW H} {p : List MemPlace} {a0 : Option Addr} {len cap : Nat} (hv : v = .slice a0 len cap) (h : DataW.Trod enc Try.prog W 0 (fun _ => true) true 63 v d p) :
    ∃ (l : List DReading) (a : Option Addr) (cap : Nat), v = .slice a l.length cap ∧ okL DReading.ok l ∧ Sl 0 W.heap.size W 4 l.length (fun k => DReading.ct (l.getD k default)) a := by
  subst hv
  obtain ⟨fuel, hf⟩ := h
  obtain ⟨x, hx, hl, hj⟩ := opens_slice Try.underlying63 (e := 78) (n := 4) (by kernel_rfl) (by decide) fuel (fun m _ => opens_reading m) _ _ hf
  obtain ⟨u0, hu0, hl0⟩ := hj 0 (by decide)
  obtain ⟨a, c, rfl, hs⟩ := lies_sl hl0
  exact ⟨x, a, c, Option.some.inj hu0, hx, hs⟩

set_option maxHeartbeats 1600000 in
set_option maxRecDepth 100000 in
theorem laws_szReading (x : DReading) (L : Int) (hL0 : 0 ≤ L) (hL1 : L ≤ 1048576) (hx : x.ok) (w : World) :
    Calls Try.prog 43 #[.agg #[.int .i64 x.fAt.fNode, .string x.fAt.fName, .int .i64 x.fValue, .string x.fSymbol], .int .i64 L] w fun e w' => e = .returned (.int .i64 (szR L x.sz)) ∧ Below w.heap.size w w' := by
  have HX := Lib.hid hx
  clear hx
  have okSymbol : x.fSymbol.size ≤ 9223372036854775807 := HX.out.2.2
  have HB0 := Lib.hid ((Below.refl w.heap.size w).alloc (Nat.le_refl _) (.cells #[.int .i64 x.fAt.fNode, .string x.fAt.fName, .int .i64 x.fValue, .string x.fSymbol] 78))
  by_cases h0 : L < ((DInstance.sz x.fAt : Nat) : Int)
  · skip
    have hz0 := fun (w' : World) => laws_szInstance x.fAt L (by omega) (by omega) HX.out.1 w'
    rw [szR_gt (by omega)] at hz0
    have HZ0 := Lib.hid hz0
    clear hz0
    have fin := Lib.hid (szR_gt (n := x.sz) (L := L) (by unfold DReading.sz; omega))
    go_enter Try.func43, Try.ntmps43
    go_wp2_with fail
    refine (HZ0.out _).mono ?_
    rintro e w1 ⟨rfl, hb1⟩
    have hsz1 : w.heap.size < w1.heap.size := Nat.lt_of_lt_of_le (by first | omega | (simp; done) | (simp; omega)) hb1.size
    have HB1 := Lib.hid (HB0.out.trans (hb1.mono HB0.out.size))
    clear hb1
    go_wp2
    go_ret
    exact ⟨ret_i (by rw [fin.out]), HB1.out⟩
  · skip
    by_cases h1 : (L - (DInstance.sz x.fAt : Nat)) < ((x.fSymbol.size : Nat) : Int)
    · skip
      have hz0 := fun (w' : World) => laws_szInstance x.fAt L (by omega) (by omega) HX.out.1 w'
      rw [szR_le (by omega)] at hz0
      have HZ0 := Lib.hid hz0
      clear hz0
      have fin := Lib.hid (szR_gt (n := x.sz) (L := L) (by unfold DReading.sz; omega))
      go_enter Try.func43, Try.ntmps43
      go_wp2_with fail
      refine (HZ0.out _).mono ?_
      rintro e w1 ⟨rfl, hb1⟩
      have hsz1 : w.heap.size < w1.heap.size := Nat.lt_of_lt_of_le (by first | omega | (simp; done) | (simp; omega)) hb1.size
      have x1_0_3 : w1.cell? ⟨w.heap.size, 3, none⟩ = some (.string x.fSymbol) := (hb1.cell (p := ⟨w.heap.size, 3, none⟩) (by first | omega | (simp; done) | (simp; omega) | (simp [World.setCell]; omega))).trans (by go_simp)
      have HB1 := Lib.hid (HB0.out.trans (hb1.mono HB0.out.size))
      clear hb1
      go_wp2
      go_ret
      exact ⟨ret_i (by rw [fin.out]), HB1.out⟩
    · skip
      have hz0 := fun (w' : World) => laws_szInstance x.fAt L (by omega) (by omega) HX.out.1 w'
      rw [szR_le (by omega)] at hz0
      have HZ0 := Lib.hid hz0
      clear hz0
      have fin := Lib.hid (szR_le (n := x.sz) (L := L) (by unfold DReading.sz; omega))
      go_enter Try.func43, Try.ntmps43
      go_wp2_with fail
      refine (HZ0.out _).mono ?_
      rintro e w1 ⟨rfl, hb1⟩
      have hsz1 : w.heap.size < w1.heap.size := Nat.lt_of_lt_of_le (by first | omega | (simp; done) | (simp; omega)) hb1.size
      have x1_0_3 : w1.cell? ⟨w.heap.size, 3, none⟩ = some (.string x.fSymbol) := (hb1.cell (p := ⟨w.heap.size, 3, none⟩) (by first | omega | (simp; done) | (simp; omega) | (simp [World.setCell]; omega))).trans (by go_simp)
      have HB1 := Lib.hid (HB0.out.trans (hb1.mono HB0.out.size))
      clear hb1
      go_wp2
      go_ret
      exact ⟨ret_i (by rw [fin.out]; unfold DReading.sz; omega), HB1.out⟩

set_option maxHeartbeats 1600000 in
set_option maxRecDepth 100000 in
theorem laws_szReadingS {lo hi : Nat} {a : Option Addr} {cap : Nat} (l : List DReading) (L : Int) (hL0 : 0 ≤ L) (hL1 : L ≤ 1048576) (hok : okL DReading.ok l) (w : World) (hhi : hi ≤ w.heap.size) (hs : Sl lo hi w 4 l.length (fun k => DReading.ct (l.getD k default)) a) :
    Calls Try.prog 40 #[.slice a l.length cap, .int .i64 L] w fun e w' => e = .returned (.int .i64 (szR L (lsz DReading.sz l))) ∧ Below w.heap.size w w' := by
  have HS := Lib.hid hs
  have HK := Lib.hid hok
  have hn : l.length ≤ 9223372036854775807 := hok.1
  clear hs hok
  by_cases hlong : L < ((l.length : Nat) : Int)
  · have fin := Lib.hid (szR_gt (n := lsz DReading.sz l) (L := L) (by unfold lsz; omega))
    go_enter Try.func40, Try.ntmps40
    go_wp2
    go_ret
    exact ⟨ret_i fin.out.symm, Below.refl _ _⟩
  · go_enter Try.func40, Try.ntmps40
    go_wp2
    go_loopw [1, 5] (fun q i wr => ∃ k : Nat, k ≤ l.length ∧ i = .int .i64 (k : Int) ∧ q = .int .i64 (L - l.length - psz DReading.sz l k) ∧ (l.length : Int) + psz DReading.sz l k ≤ L ∧ Below w.heap.size w wr) (fun _ i _ => l.length - (intOf i).toNat)
    case atStart => exact ⟨0, Nat.zero_le _, rfl, by rw [psz_zero]; go_num, by rw [psz_zero]; omega, Below.refl _ _⟩
    case round =>
      obtain ⟨k, hk, rfl, rfl, hle, hb⟩ := hrel
      have HB := Lib.hid hb
      by_cases hlt : k < l.length
      · have hsu := Lib.hid (psz_succ DReading.sz l k hlt)
        have hle2 := Lib.hid (psz_le DReading.sz l (k + 1))
        have hokk := HK.out.at hlt
        have hhr : hi ≤ wr.heap.size := Nat.le_trans hhi hb.size
        obtain ⟨b, off, rfl, hlo, hhi', hc⟩ := (HS.out.later (hb.mono hhi) (Nat.le_refl _)).at k hlt
        clear hb
        obtain ⟨hc0_, hc1_, hc2_, hc3_⟩ := DReading.open hc
        clear hc
        generalize l.getD k default = x at *
        generalize psz DReading.sz l k = S at *
        have hZ := laws_szReading x (L - l.length - S) (by omega) (by omega) hokk wr
        by_cases hf : ((x.sz : Nat) : Int) ≤ L - l.length - S
        · rw [szR_le hf] at hZ
          have HZ := Lib.hid hZ
          clear hZ hokk
          go_wp2_with fail
          refine HZ.out.mono ?_
          rintro e w1 ⟨rfl, hb1⟩
          have HB1 := Lib.hid hb1
          clear hb1
          go_wp2
          go_roundw
          case rel => exact ⟨k + 1, by omega, by go_num, by rw [hsu.out]; go_num, by rw [hsu.out]; omega, HB.out.trans (HB1.out.mono HB.out.size)⟩
          case measure => simp [intOf]; omega
        · have fin := Lib.hid (szR_gt (n := lsz DReading.sz l) (L := L) (by have h1 := hsu.out; have h2 := hle2.out; omega))
          rw [szR_gt (by omega)] at hZ
          have HZ := Lib.hid hZ
          clear hZ hokk
          go_wp2_with fail
          refine HZ.out.mono ?_
          rintro e w1 ⟨rfl, hb1⟩
          have HB1 := Lib.hid hb1
          clear hb1
          go_wp2
          go_ret
          exact ⟨ret_i fin.out.symm, HB.out.trans (HB1.out.mono HB.out.size)⟩
      · obtain rfl : k = l.length := by omega
        have fin := Lib.hid (szR_le (n := lsz DReading.sz l) (L := L) (by unfold lsz; rw [psz_all] at hle; omega))
        have fin2 := Lib.hid (psz_all DReading.sz l)
        go_wp2
        go_ret
        exact ⟨ret_i (by rw [fin.out, fin2.out]; unfold lsz; omega), HB.out⟩

set_option maxHeartbeats 1600000 in
set_option maxRecDepth 100000 in
theorem laws_toReading (x : DReading) (w : World) :
    Calls Try.prog 44 #[.agg #[.int .i64 x.fAt.fNode, .string x.fAt.fName, .int .i64 x.fValue, .string x.fSymbol]] w fun e w' => e = .returned (.agg #[.int .i64 x.fAt.fNode, .string x.fAt.fName, .int .i64 x.fValue, .string x.fSymbol]) ∧ Below w.heap.size w w' := by
  have HB0 := Lib.hid (((((Below.refl w.heap.size w).alloc (Nat.le_refl _) (.cells #[.int .i64 x.fAt.fNode, .string x.fAt.fName, .int .i64 x.fValue, .string x.fSymbol] 78)).alloc (by simp <;> omega) (.cells #[.int .i64 0, .string ⟨#[]⟩, .int .i64 0, .string ⟨#[]⟩] 70))).alloc (by simp <;> omega) (.cells #[.int .i64 0, .string ⟨#[]⟩, .int .i64 0, .string ⟨#[]⟩] 70))
  have HSZ0 := Lib.hid (show w.heap.size + 2 < (((w.alloc (.cells #[.int .i64 x.fAt.fNode, .string x.fAt.fName, .int .i64 x.fValue, .string x.fSymbol] 78)).alloc (.cells #[.int .i64 0, .string ⟨#[]⟩, .int .i64 0, .string ⟨#[]⟩] 70)).alloc (.cells #[.int .i64 0, .string ⟨#[]⟩, .int .i64 0, .string ⟨#[]⟩] 70)).heap.size by simp)
  have ht0 := fun (w' : World) => laws_toInstance x.fAt w'
  have HT0 := Lib.hid ht0
  clear ht0
  go_enter Try.func44, Try.ntmps44
  go_wp2_with fail
  refine (HT0.out _).mono ?_
  rintro e w1 ⟨rfl, hb1⟩
  have hsz1 : w.heap.size + 2 < w1.heap.size := Nat.lt_of_lt_of_le (by have h := HSZ0.out; first | (with_reducible exact h) | (simp; done) | (simp; omega) | (simp [World.setCell]; omega)) hb1.size
  have hlo1 : w.heap.size + 3 ≤ w1.heap.size := Nat.le_trans (by first | (with_reducible exact Nat.le_refl _) | (simp; done) | (simp; omega) | (simp [World.setCell]; omega)) hb1.size
  have hbw1 : Below w.heap.size w w1 := Below.trans ((by repeat (first | (with_reducible exact HB0.out) | (with_reducible exact Below.refl _ _) | (refine Below.setCell ?_ (by simp <;> omega) _) | (refine Below.alloc ?_ (by simp <;> omega) _)) : Below w.heap.size w _)) (hb1.mono (Below.size ((by repeat (first | (with_reducible exact HB0.out) | (with_reducible exact Below.refl _ _) | (refine Below.setCell ?_ (by simp <;> omega) _) | (refine Below.alloc ?_ (by simp <;> omega) _)) : Below w.heap.size w _))))
  have x1_0_2 : w1.cell? ⟨w.heap.size, 2, none⟩ = some (.int .i64 x.fValue) := (hb1.cell (p := ⟨w.heap.size, 2, none⟩) (by first | omega | (simp; done) | (simp; omega) | (simp [World.setCell]; omega))).trans (by go_simp)
  have x1_0_3 : w1.cell? ⟨w.heap.size, 3, none⟩ = some (.string x.fSymbol) := (hb1.cell (p := ⟨w.heap.size, 3, none⟩) (by first | omega | (simp; done) | (simp; omega) | (simp [World.setCell]; omega))).trans (by go_simp)
  have x1_1_0 : w1.cell? ⟨w.heap.size + 1, 0, none⟩ = some (.int .i64 0) := (hb1.cell (p := ⟨w.heap.size + 1, 0, none⟩) (by first | omega | (simp; done) | (simp; omega) | (simp [World.setCell]; omega))).trans (by go_simp)
  have z1_1_0 : w1.frozen? ⟨w.heap.size + 1, 0, none⟩ = false := (hb1.frozen (p := ⟨w.heap.size + 1, 0, none⟩) (by first | omega | (simp; done) | (simp; omega) | (simp [World.setCell]; omega))).trans (by go_simp)
  have x1_1_1 : w1.cell? ⟨w.heap.size + 1, 1, none⟩ = some (.string ⟨#[]⟩) := (hb1.cell (p := ⟨w.heap.size + 1, 1, none⟩) (by first | omega | (simp; done) | (simp; omega) | (simp [World.setCell]; omega))).trans (by go_simp)
  have z1_1_1 : w1.frozen? ⟨w.heap.size + 1, 1, none⟩ = false := (hb1.frozen (p := ⟨w.heap.size + 1, 1, none⟩) (by first | omega | (simp; done) | (simp; omega) | (simp [World.setCell]; omega))).trans (by go_simp)
  have x1_1_2 : w1.cell? ⟨w.heap.size + 1, 2, none⟩ = some (.int .i64 0) := (hb1.cell (p := ⟨w.heap.size + 1, 2, none⟩) (by first | omega | (simp; done) | (simp; omega) | (simp [World.setCell]; omega))).trans (by go_simp)
  have z1_1_2 : w1.frozen? ⟨w.heap.size + 1, 2, none⟩ = false := (hb1.frozen (p := ⟨w.heap.size + 1, 2, none⟩) (by first | omega | (simp; done) | (simp; omega) | (simp [World.setCell]; omega))).trans (by go_simp)
  have x1_1_3 : w1.cell? ⟨w.heap.size + 1, 3, none⟩ = some (.string ⟨#[]⟩) := (hb1.cell (p := ⟨w.heap.size + 1, 3, none⟩) (by first | omega | (simp; done) | (simp; omega) | (simp [World.setCell]; omega))).trans (by go_simp)
  have z1_1_3 : w1.frozen? ⟨w.heap.size + 1, 3, none⟩ = false := (hb1.frozen (p := ⟨w.heap.size + 1, 3, none⟩) (by first | omega | (simp; done) | (simp; omega) | (simp [World.setCell]; omega))).trans (by go_simp)
  have x1_2_0 : w1.cell? ⟨w.heap.size + 2, 0, none⟩ = some (.int .i64 0) := (hb1.cell (p := ⟨w.heap.size + 2, 0, none⟩) (by first | omega | (simp; done) | (simp; omega) | (simp [World.setCell]; omega))).trans (by go_simp)
  have z1_2_0 : w1.frozen? ⟨w.heap.size + 2, 0, none⟩ = false := (hb1.frozen (p := ⟨w.heap.size + 2, 0, none⟩) (by first | omega | (simp; done) | (simp; omega) | (simp [World.setCell]; omega))).trans (by go_simp)
  have x1_2_1 : w1.cell? ⟨w.heap.size + 2, 1, none⟩ = some (.string ⟨#[]⟩) := (hb1.cell (p := ⟨w.heap.size + 2, 1, none⟩) (by first | omega | (simp; done) | (simp; omega) | (simp [World.setCell]; omega))).trans (by go_simp)
  have z1_2_1 : w1.frozen? ⟨w.heap.size + 2, 1, none⟩ = false := (hb1.frozen (p := ⟨w.heap.size + 2, 1, none⟩) (by first | omega | (simp; done) | (simp; omega) | (simp [World.setCell]; omega))).trans (by go_simp)
  have x1_2_2 : w1.cell? ⟨w.heap.size + 2, 2, none⟩ = some (.int .i64 0) := (hb1.cell (p := ⟨w.heap.size + 2, 2, none⟩) (by first | omega | (simp; done) | (simp; omega) | (simp [World.setCell]; omega))).trans (by go_simp)
  have z1_2_2 : w1.frozen? ⟨w.heap.size + 2, 2, none⟩ = false := (hb1.frozen (p := ⟨w.heap.size + 2, 2, none⟩) (by first | omega | (simp; done) | (simp; omega) | (simp [World.setCell]; omega))).trans (by go_simp)
  have x1_2_3 : w1.cell? ⟨w.heap.size + 2, 3, none⟩ = some (.string ⟨#[]⟩) := (hb1.cell (p := ⟨w.heap.size + 2, 3, none⟩) (by first | omega | (simp; done) | (simp; omega) | (simp [World.setCell]; omega))).trans (by go_simp)
  have z1_2_3 : w1.frozen? ⟨w.heap.size + 2, 3, none⟩ = false := (hb1.frozen (p := ⟨w.heap.size + 2, 3, none⟩) (by first | omega | (simp; done) | (simp; omega) | (simp [World.setCell]; omega))).trans (by go_simp)
  have HG1 := Lib.hid (show w1.heap[w.heap.size + 1]? = some (.cells #[.int .i64 0, .string ⟨#[]⟩, .int .i64 0, .string ⟨#[]⟩] 70) from (hb1.block _ (by first | omega | (simp; done) | (simp; omega) | (simp [World.setCell]; omega))).trans (by (repeat (refine blk_other (by simp) ?_)); exact blk_alloc (by simp) (blk_new (by simp))))
  have HB1 := Lib.hid hbw1
  have HSZ1 := Lib.hid hsz1
  have HLO1 := Lib.hid hlo1
  clear hb1 hbw1 hsz1 hlo1
  go_wp2
  refine bodyPost_ret (v := .agg #[.int .i64 x.fAt.fNode, .string x.fAt.fName, .int .i64 x.fValue, .string x.fSymbol]) (results_cell_row Try.results44 _ _ (w.heap.size + 1) 70 #[.int .i64 x.fAt.fNode, .string x.fAt.fName, .int .i64 x.fValue, .string x.fSymbol] (0, 0) _ rfl (by refine Eq.trans (blk_set (cs := #[.int .i64 x.fAt.fNode, .string x.fAt.fName, .int .i64 x.fValue, .string ⟨#[]⟩]) (t := 70) (fr := (0, 0)) ?_) rfl; refine Eq.trans (blk_set (cs := #[.int .i64 x.fAt.fNode, .string x.fAt.fName, .int .i64 0, .string ⟨#[]⟩]) (t := 70) (fr := (0, 0)) ?_) rfl; refine Eq.trans (blk_set (cs := #[.int .i64 x.fAt.fNode, .string ⟨#[]⟩, .int .i64 0, .string ⟨#[]⟩]) (t := 70) (fr := (0, 0)) ?_) rfl; refine Eq.trans (blk_set (cs := #[.int .i64 0, .string ⟨#[]⟩, .int .i64 0, .string ⟨#[]⟩]) (t := 70) (fr := (0, 0)) ?_) rfl; repeat (first | (with_reducible exact HG1.out) | (refine blk_other (by simp) ?_))) Try.underlying70 rfl rfl) rfl ⟨rfl, (by repeat (first | (with_reducible exact HB1.out) | (with_reducible exact Below.refl _ _) | (refine Below.setCell ?_ (by simp <;> omega) _) | (refine Below.alloc ?_ (by simp <;> omega) _)) : Below w.heap.size w _)⟩

theorem info_Reading : (Try.prog.info? 70).map (fun i => (i.zero, i.size, i.bytes)) = some (some (.agg #[.int .i64 0, .string ⟨#[]⟩, .int .i64 0, .string ⟨#[]⟩]), 4, 48) := by kernel_rfl

set_option maxHeartbeats 1600000 in
set_option maxRecDepth 100000 in
theorem laws_toReadingS {lo hi : Nat} {a : Option Addr} {cap : Nat} (l : List DReading) (hsz : lsz DReading.sz l ≤ 1048576) (w : World) (hhi : hi ≤ w.heap.size) (hs : Sl lo hi w 4 l.length (fun k => DReading.ct (l.getD k default)) a) :
    Calls Try.prog 42 #[.slice a l.length cap] w fun e w' => ∃ a' cap', e = .returned (.slice a' l.length cap') ∧ Own w' (fun x => w.heap.size ≤ x ∧ x < w'.heap.size) (.sl 4 l.length (fun k => DReading.ct (l.getD k default))) (.slice a' l.length cap') ∧ Below w.heap.size w w' := by
  have HS := Lib.hid hs
  clear hs
  have HW := Lib.hid hsz
  have hn : l.length ≤ 1048576 := by unfold lsz at hsz; omega
  clear hsz
  obtain ⟨i0, hi', hz0, hz1, hz2⟩ := info_parts info_Reading
  go_enter Try.func42, Try.ntmps42
  go_wp2_with (at_make; refine wpList_make_full _ rfl (.tmp 6) (.tmp 6) 32 rfl w.heap.size 70 i0 (.agg #[.int .i64 0, .string ⟨#[]⟩, .int .i64 0, .string ⟨#[]⟩]) 4 Try.underlying32 hi' hz0 hz1 .i64 .i64 (l.length : Int) (l.length : Int) l.length rfl rfl rfl rfl (by rw [hz2]; omega) (by unfold maxLen; omega) (Nat.le_refl _) ?_; intro w1 hown hgrow)
  have hb1 : Below w.heap.size w w1 := (Below.refl _ w).grown hgrow (Nat.le_refl _) (fun k hk => by cases hk)
  clear hgrow
  have hblk := (ownsRow_block hown).1
  go_loopw [4] (fun i wr => ∃ (k : Nat) (xs : List Value), k ≤ l.length ∧ i = .int .i64 (k : Int) ∧ wr.ownsRow w.heap.size 70 4 (.slice (some ⟨w.heap.size, 0, none⟩) l.length l.length) l.length xs ∧ Filled w.heap.size wr 4 k (fun k => DReading.ct (l.getD k default)) xs ∧ Below w.heap.size w wr) (fun i _ => l.length - (intOf i).toNat)
  case atStart => exact ⟨0, _, Nat.zero_le _, rfl, hown, Filled.zero hblk, hb1⟩
  case round =>
    clear hown hb1 hblk
    obtain ⟨k, xs, hk, rfl, hown, hfill, hb⟩ := hrel
    have hblk := ownsRow_block hown
    have HO := Lib.hid hown
    have HF := Lib.hid hfill
    have HB := Lib.hid hb
    clear hown hfill
    by_cases hlt : k < l.length
    · have hhr : hi ≤ wr.heap.size := Nat.le_trans hhi hb.size
      obtain ⟨b, off, rfl, hlo, hhi', hc⟩ := (HS.out.later (hb.mono hhi) (Nat.le_refl _)).at k hlt
      obtain ⟨hc0_, hc1_, hc2_, hc3_⟩ := DReading.open hc
      have hkn : k * 4 + 4 ≤ l.length * 4 := by omega
      have d0 := hblk.2.2.1 (k * 4) (by omega)
      have z0 := hblk.2.2.2 (k * 4)
      have d1 := hblk.2.2.1 (k * 4 + 1) (by omega)
      have z1 := hblk.2.2.2 (k * 4 + 1)
      have d2 := hblk.2.2.1 (k * 4 + 2) (by omega)
      have z2 := hblk.2.2.2 (k * 4 + 2)
      have d3 := hblk.2.2.1 (k * 4 + 3) (by omega)
      have z3 := hblk.2.2.2 (k * 4 + 3)
      have hsz := hblk.1
      clear hblk hb hc
      generalize hx : l.getD k default = x at *
      have HX := Lib.hid hx
      clear hx
      generalize xs.getD (k * 4) Value.nilFunc = v0 at d0
      generalize xs.getD (k * 4 + 1) Value.nilFunc = v1 at d1
      generalize xs.getD (k * 4 + 2) Value.nilFunc = v2 at d2
      generalize xs.getD (k * 4 + 3) Value.nilFunc = v3 at d3
      have HT := Lib.hid (laws_toReading x wr)
      clear hkn
      go_wp2_with fail
      refine HT.out.mono ?_
      rintro e w1 ⟨rfl, hb1⟩
      have e0 := (hb1.cell (p := ⟨w.heap.size, k * 4, none⟩) hsz).trans d0
      have y0 := (hb1.frozen (p := ⟨w.heap.size, k * 4, none⟩) hsz).trans z0
      have e1 := (hb1.cell (p := ⟨w.heap.size, k * 4 + 1, none⟩) hsz).trans d1
      have y1 := (hb1.frozen (p := ⟨w.heap.size, k * 4 + 1, none⟩) hsz).trans z1
      have e2 := (hb1.cell (p := ⟨w.heap.size, k * 4 + 2, none⟩) hsz).trans d2
      have y2 := (hb1.frozen (p := ⟨w.heap.size, k * 4 + 2, none⟩) hsz).trans z2
      have e3 := (hb1.cell (p := ⟨w.heap.size, k * 4 + 3, none⟩) hsz).trans d3
      have y3 := (hb1.frozen (p := ⟨w.heap.size, k * 4 + 3, none⟩) hsz).trans z3
      have HB1 := Lib.hid hb1
      clear hb1 d0 z0 d1 z1 d2 z2 d3 z3
      go_wp2
      go_roundw
      case rel =>
        have hst := HF.out.stored HB1.out hsz (ownsRow_below HO.out HB1.out) hlt [.int .i64 x.fAt.fNode, .string x.fAt.fName, .int .i64 x.fValue, .string x.fSymbol] rfl (OwnR.lits fun j hj => by
          rw [HX.out]
          match j, hj with
          | 0, _ => rfl
          | 1, _ => rfl
          | 2, _ => rfl
          | 3, _ => rfl)
        exact ⟨k + 1, _, by omega, by go_num, hst.1, hst.2, setCells_below (Nat.le_refl _) [_, _, _, _] _ (HB.out.trans (HB1.out.mono HB.out.size))⟩
      case measure => simp [intOf]; omega
    · obtain rfl : k = l.length := by omega
      go_wp2
      go_ret
      exact ⟨_, _, rfl, HF.out.own hblk.1 hblk.2.2.1 hblk.2.2.2, hb⟩

set_option maxHeartbeats 1600000 in
set_option maxRecDepth 100000 in
theorem laws_eqReading (x : DReading) (w : World) :
    Calls Try.prog 37 #[.agg #[.int .i64 x.fAt.fNode, .string x.fAt.fName, .int .i64 x.fValue, .string x.fSymbol], .agg #[.int .i64 x.fAt.fNode, .string x.fAt.fName, .int .i64 x.fValue, .string x.fSymbol]] w fun e w' => e = .returned (.bool true) ∧ Below w.heap.size w w' := by
  have HB0 := Lib.hid (((Below.refl w.heap.size w).alloc (Nat.le_refl _) (.cells #[.int .i64 x.fAt.fNode, .string x.fAt.fName, .int .i64 x.fValue, .string x.fSymbol] 70)).alloc (by simp <;> omega) (.cells #[.int .i64 x.fAt.fNode, .string x.fAt.fName, .int .i64 x.fValue, .string x.fSymbol] 70))
  have ht0 := fun (w' : World) => laws_eqInstance x.fAt w'
  have HT0 := Lib.hid ht0
  clear ht0
  go_enter Try.func37, Try.ntmps37
  go_wp2_with fail
  refine (HT0.out _).mono ?_
  rintro e w1 ⟨rfl, hb1⟩
  have x1_0_2 : w1.cell? ⟨w.heap.size, 2, none⟩ = some (.int .i64 x.fValue) := (hb1.cell (p := ⟨w.heap.size, 2, none⟩) (by first | omega | (simp; done) | (simp; omega) | (simp [World.setCell]; omega))).trans (by go_simp)
  have x1_0_3 : w1.cell? ⟨w.heap.size, 3, none⟩ = some (.string x.fSymbol) := (hb1.cell (p := ⟨w.heap.size, 3, none⟩) (by first | omega | (simp; done) | (simp; omega) | (simp [World.setCell]; omega))).trans (by go_simp)
  have x1_1_2 : w1.cell? ⟨w.heap.size + 1, 2, none⟩ = some (.int .i64 x.fValue) := (hb1.cell (p := ⟨w.heap.size + 1, 2, none⟩) (by first | omega | (simp; done) | (simp; omega) | (simp [World.setCell]; omega))).trans (by go_simp)
  have x1_1_3 : w1.cell? ⟨w.heap.size + 1, 3, none⟩ = some (.string x.fSymbol) := (hb1.cell (p := ⟨w.heap.size + 1, 3, none⟩) (by first | omega | (simp; done) | (simp; omega) | (simp [World.setCell]; omega))).trans (by go_simp)
  have HB1 := Lib.hid (HB0.out.trans (hb1.mono HB0.out.size))
  clear hb1
  go_wp2
  go_ret
  exact ⟨rfl, HB1.out⟩

set_option maxHeartbeats 1600000 in
set_option maxRecDepth 100000 in
theorem laws_eqReadingS {lo hi lo2 hi2 : Nat} {a a2 : Option Addr} {cap cap2 : Nat} (l : List DReading) (hsz : lsz DReading.sz l ≤ 1048576) (w : World) (hhi : hi ≤ w.heap.size) (hhi2 : hi2 ≤ w.heap.size) (hs : Sl lo hi w 4 l.length (fun k => DReading.ct (l.getD k default)) a) (hs2 : Sl lo2 hi2 w 4 l.length (fun k => DReading.ct (l.getD k default)) a2) :
    Calls Try.prog 24 #[.slice a l.length cap, .slice a2 l.length cap2] w fun e w' => e = .returned (.bool true) ∧ Below w.heap.size w w' := by
  have HS := Lib.hid hs
  have HS2 := Lib.hid hs2
  have HW := Lib.hid hsz
  have hn : l.length ≤ 1048576 := by unfold lsz at hsz; omega
  clear hs hs2 hsz
  go_enter Try.func24, Try.ntmps24
  go_wp2
  go_loopw [5] (fun i wr => ∃ k : Nat, k ≤ l.length ∧ i = .int .i64 (k : Int) ∧ Below w.heap.size w wr) (fun i _ => l.length - (intOf i).toNat)
  case atStart => exact ⟨0, Nat.zero_le _, rfl, Below.refl _ _⟩
  case round =>
    obtain ⟨k, hk, rfl, hb⟩ := hrel
    have HB := Lib.hid hb
    by_cases hlt : k < l.length
    · have hhr : hi ≤ wr.heap.size := Nat.le_trans hhi hb.size
      have hhr2 : hi2 ≤ wr.heap.size := Nat.le_trans hhi2 hb.size
      obtain ⟨b, off, rfl, _, hhi', hc⟩ := (HS.out.later (hb.mono hhi) (Nat.le_refl _)).at k hlt
      obtain ⟨b2, off2, rfl, _, hhi2', hc2⟩ := (HS2.out.later (hb.mono hhi2) (Nat.le_refl _)).at k hlt
      obtain ⟨hc0_, hc1_, hc2_, hc3_⟩ := DReading.open hc
      obtain ⟨hc0q_, hc1q_, hc2q_, hc3q_⟩ := DReading.open hc2
      clear hb hc hc2
      generalize l.getD k default = x at *
      have HT := Lib.hid (fun (w' : World) => laws_eqReading x w')
      skip
      go_wp2_with fail
      go_region_with ((go_at_call 37; refine (HT.out _).mono ?_; rintro e w1 ⟨rfl, hb1⟩))
      all_goals
        go_wp2
        go_roundw
        case rel =>
          refine ⟨k + 1, by omega, by go_num, ?_⟩
          have hb2 : Below wr.heap.size wr w1 := ⟨hb1.os, hb1.tape, hb1.output, hb1.size, hb1.block⟩
          repeat (first | exact HB.out.trans (hb2.mono HB.out.size) | apply Below.drew | refine below_drewN ?_ _)
        case measure => simp [intOf]; omega
    · go_wp2
      go_ret
      exact ⟨rfl, HB.out⟩
end Go.Proofs.Ythgpompoionfoaa
