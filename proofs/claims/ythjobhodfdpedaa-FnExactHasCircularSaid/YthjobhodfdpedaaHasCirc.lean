/-
  HasCircular, in the model and in the program.
-/
import Derived.Test.YthjobhodfdpedaaTGrammar
import Derived.Test.YthjobhodfdpedaaIdx
namespace Go.Proofs.Ythjobhodfdpedaa
open Go.ChangeShapes Go.WideShapes Go.ChangeAt Go.RowKit Go.Deep

theorem idx_any {α : Type} [Inhabited α] (p : α → Bool) (l : List α) : decide (0 ≤ idxI p l) = l.any p := by
  unfold idxI
  cases h : l.findIdx? p with
  | none =>
    rw [List.findIdx?_eq_none_iff] at h
    have : l.any p = false := by rw [List.any_eq_false]; intro a ha; simp [h a ha]
    rw [this]; rfl
  | some k =>
    rw [List.findIdx?_eq_some_iff_getElem] at h
    obtain ⟨h1, h2, _⟩ := h
    have : l.any p = true := List.any_eq_true.2 ⟨l[k], List.getElem_mem _, h2⟩
    rw [this]; simp
theorem any_yes {α : Type} [Inhabited α] {p : α → Bool} {l : List α} {k : Nat} (hk : k < l.length) (h : p (l.getD k default) = true) : l.any p = true := by
  rw [List.getD_eq_getElem?_getD, List.getElem?_eq_getElem hk] at h
  exact List.any_eq_true.2 ⟨l[k], List.getElem_mem _, h⟩
theorem any_no {α : Type} [Inhabited α] {p : α → Bool} {l : List α} (h : ∀ k, k < l.length → p (l.getD k default) = false) : l.any p = false := by
  rw [List.any_eq_false]
  intro a ha
  obtain ⟨k, hk, rfl⟩ := List.mem_iff_getElem.1 ha
  have h1 := h k hk
  rw [List.getD_eq_getElem?_getD, List.getElem?_eq_getElem hk] at h1
  simpa using h1

def circA (a : DAttribute) : Bool := a.fCircular
def circS (s : DSymbol) : Bool := s.fAttributes.any circA
def hasCirc (g : DGrammar) : Bool := g.fSymbols.any circS
theorem symattrs_len {l : List DSymbol} (h : lsz DSymbol.sz l ≤ 1048576) {k : Nat} (hk : k < l.length) : (l.getD k default).fAttributes.length ≤ 1048576 := by
  have h1 := szle_at (f := DSymbol.sz) l k hk
  have h2 : (l.getD k default).fAttributes.length ≤ DSymbol.sz (l.getD k default) := by
    unfold DSymbol.sz lsz
    omega
  omega

set_option maxHeartbeats 3200000 in
set_option maxRecDepth 100000 in
theorem impl_circA (x : DAttribute) (w : World) :
    Calls Try.prog 16 #[.agg #[.string x.fName, .int .i64 x.fType, .int .i64 x.fMode, .bool x.fCircular]] w fun e w' => e = .returned (.bool (circA x)) ∧ Below w.heap.size w w' := by
  unfold circA
  go_enter Try.func16, Try.ntmps16
  go_wp2
  go_ret
  exact ⟨rfl, (Below.refl _ _).alloc (Nat.le_refl _) _⟩

set_option maxHeartbeats 3200000 in
set_option maxRecDepth 100000 in
theorem IndexFunc_circA {lo hi c : Nat} {a : Option Addr} (l : List DAttribute) (hl : lsz DAttribute.sz l ≤ 1048576) (w : World) (hhi : hi ≤ w.heap.size) (hs : Sl lo hi w 4 l.length (fun k => DAttribute.ct (l.getD k default)) a) :
    Calls Try.prog 24 #[.slice a l.length c, .func (.func 16) #[] #[]] w fun e w' => e = .returned (.int .i64 (idxI circA l)) ∧ Below w.heap.size w w' := by
  have HS := Lib.hid hs
  have HL := Lib.hid hl
  have hn : l.length ≤ 1048576 := by unfold lsz at hl; omega
  clear hs hl
  go_enter Try.func24, Try.ntmps24
  go_wp2
  go_loopw [8] (fun i wr => ∃ k : Nat, k ≤ l.length ∧ i = .int .i64 (k : Int) ∧ noneBelow circA l k ∧ Below w.heap.size w wr) (fun i _ => l.length - (intOf i).toNat)
  case atStart => exact ⟨0, Nat.zero_le _, rfl, noneBelow_zero _ _, Below.refl _ _⟩
  case round =>
    obtain ⟨k, hk, rfl, hno, hbl⟩ := hrel
    have HBL := Lib.hid hbl
    have HNO := Lib.hid hno
    clear hno
    by_cases hlt : k < l.length
    · have hhr : hi ≤ wr.heap.size := Nat.le_trans hhi hbl.size
      obtain ⟨b, off, rfl, _, _, hc⟩ := (HS.out.later (hbl.mono hhi) (Nat.le_refl _)).at k hlt
      obtain ⟨hc0, hc1, hc2, hc3⟩ := DAttribute.open hc
      have HC := Lib.hid (impl_circA (l.getD k default) wr)
      clear hbl hc
      cases hr : circA (l.getD k default)
      · have HPS := Lib.hid (noneBelow_succ HNO.out hr)
        rw [hr] at HC
        clear hr
        generalize l.getD k default = x at *
        go_wp2_with fail
        refine HC.out.mono ?_
        rintro e w1 ⟨rfl, hb1⟩
        have HB1 := Lib.hid (HBL.out.trans (hb1.mono HBL.out.size))
        clear hb1
        go_wp2
        go_roundw
        case rel => exact ⟨k + 1, by omega, by go_num, HPS.out, HB1.out⟩
        case measure => simp [intOf]; omega
      · have FIN := Lib.hid (idxI_at hlt hr HNO.out)
        rw [hr] at HC
        clear hr
        generalize l.getD k default = x at *
        go_wp2_with fail
        refine HC.out.mono ?_
        rintro e w1 ⟨rfl, hb1⟩
        have HB1 := Lib.hid (HBL.out.trans (hb1.mono HBL.out.size))
        clear hb1
        go_wp2
        go_ret
        exact ⟨ret_i FIN.out.symm, HB1.out⟩
    · obtain rfl : k = l.length := by omega
      have FIN := Lib.hid (idxI_none HNO.out)
      go_wp2
      go_ret
      exact ⟨ret_i FIN.out.symm, HBL.out⟩

set_option maxHeartbeats 3200000 in
set_option maxRecDepth 100000 in
theorem ContainsFunc_circA {lo hi c : Nat} {a : Option Addr} (l : List DAttribute) (hl : lsz DAttribute.sz l ≤ 1048576) (w : World) (hhi : hi ≤ w.heap.size) (hs : Sl lo hi w 4 l.length (fun k => DAttribute.ct (l.getD k default)) a) :
    Calls Try.prog 15 #[.slice a l.length c, .func (.func 16) #[] #[]] w fun e w' => e = .returned (.bool (l.any circA)) ∧ Below w.heap.size w w' := by
  have HI := Lib.hid (IndexFunc_circA (c := c) l hl w hhi hs)
  have HD := Lib.hid (idx_any circA l)
  clear hs hl
  generalize idxI circA l = q at *
  generalize l.any circA = r at *
  generalize l.length = n at *
  go_enter Try.func15, Try.ntmps15
  go_wp2_with fail
  refine HI.out.mono ?_
  rintro e w1 ⟨rfl, hb1⟩
  go_wp2
  go_ret
  exact ⟨ret_b HD.out, hb1⟩

set_option maxHeartbeats 3200000 in
set_option maxRecDepth 100000 in
theorem impl_circS {lo hi c1 : Nat} {a1 : Option Addr} (x : DSymbol) (hz : lsz DAttribute.sz x.fAttributes ≤ 1048576) (w : World) (hhi : hi ≤ w.heap.size) (hs : Sl lo hi w 4 x.fAttributes.length (fun k => DAttribute.ct (x.fAttributes.getD k default)) a1) :
    Calls Try.prog 14 #[.agg #[.string x.fName, .slice a1 x.fAttributes.length c1]] w fun e w' => e = .returned (.bool (circS x)) ∧ Below w.heap.size w w' := by
  unfold circS
  have HB := Lib.hid ((Below.refl w.heap.size w).alloc (Nat.le_refl _) (.cells #[.string x.fName, .slice a1 x.fAttributes.length c1] 39))
  have HC := Lib.hid (ContainsFunc_circA (c := c1) x.fAttributes hz _ (Nat.le_trans hhi HB.out.size) (hs.later HB.out hhi))
  clear hs hz
  generalize x.fAttributes.any circA = r at *
  generalize x.fAttributes.length = n at *
  go_enter Try.func14, Try.ntmps14
  go_wp2_with fail
  refine HC.out.mono ?_
  rintro e w1 ⟨rfl, hb1⟩
  have HB1 := Lib.hid (HB.out.trans (hb1.mono HB.out.size))
  clear hb1
  go_wp2
  go_ret
  exact ⟨rfl, HB1.out⟩

set_option maxHeartbeats 3200000 in
set_option maxRecDepth 100000 in
theorem IndexFunc_circS {lo hi c : Nat} {a : Option Addr} (l : List DSymbol) (hl : lsz DSymbol.sz l ≤ 1048576) (w : World) (hhi : hi ≤ w.heap.size) (hs : Sl lo hi w 2 l.length (fun k => DSymbol.ct (l.getD k default)) a) :
    Calls Try.prog 23 #[.slice a l.length c, .func (.func 14) #[] #[]] w fun e w' => e = .returned (.int .i64 (idxI circS l)) ∧ Below w.heap.size w w' := by
  have HS := Lib.hid hs
  have HL := Lib.hid hl
  have hn : l.length ≤ 1048576 := by unfold lsz at hl; omega
  clear hs hl
  go_enter Try.func23, Try.ntmps23
  go_wp2
  go_loopw [8] (fun i wr => ∃ k : Nat, k ≤ l.length ∧ i = .int .i64 (k : Int) ∧ noneBelow circS l k ∧ Below w.heap.size w wr) (fun i _ => l.length - (intOf i).toNat)
  case atStart => exact ⟨0, Nat.zero_le _, rfl, noneBelow_zero _ _, Below.refl _ _⟩
  case round =>
    obtain ⟨k, hk, rfl, hno, hbl⟩ := hrel
    have HBL := Lib.hid hbl
    have HNO := Lib.hid hno
    clear hno
    by_cases hlt : k < l.length
    · have hhr : hi ≤ wr.heap.size := Nat.le_trans hhi hbl.size
      obtain ⟨b, off, rfl, _, _, hc⟩ := (HS.out.later (hbl.mono hhi) (Nat.le_refl _)).at k hlt
      obtain ⟨a1, c1, hc0, hc1, hs1⟩ := DSymbol.open hc
      have HC := Lib.hid (impl_circS (c1 := c1) (l.getD k default) (by have h1 := szle_at (f := DSymbol.sz) l k hlt; have h2 := HL.out; have h3 : lsz DAttribute.sz (l.getD k default).fAttributes ≤ DSymbol.sz (l.getD k default) := (by unfold DSymbol.sz; omega); omega) wr hhr hs1)
      clear hbl hc
      cases hr : circS (l.getD k default)
      · have HPS := Lib.hid (noneBelow_succ HNO.out hr)
        rw [hr] at HC
        clear hr
        generalize l.getD k default = x at *
        go_wp2_with fail
        refine HC.out.mono ?_
        rintro e w1 ⟨rfl, hb1⟩
        have HB1 := Lib.hid (HBL.out.trans (hb1.mono HBL.out.size))
        clear hb1
        go_wp2
        go_roundw
        case rel => exact ⟨k + 1, by omega, by go_num, HPS.out, HB1.out⟩
        case measure => simp [intOf]; omega
      · have FIN := Lib.hid (idxI_at hlt hr HNO.out)
        rw [hr] at HC
        clear hr
        generalize l.getD k default = x at *
        go_wp2_with fail
        refine HC.out.mono ?_
        rintro e w1 ⟨rfl, hb1⟩
        have HB1 := Lib.hid (HBL.out.trans (hb1.mono HBL.out.size))
        clear hb1
        go_wp2
        go_ret
        exact ⟨ret_i FIN.out.symm, HB1.out⟩
    · obtain rfl : k = l.length := by omega
      have FIN := Lib.hid (idxI_none HNO.out)
      go_wp2
      go_ret
      exact ⟨ret_i FIN.out.symm, HBL.out⟩

set_option maxHeartbeats 3200000 in
set_option maxRecDepth 100000 in
theorem ContainsFunc_circS {lo hi c : Nat} {a : Option Addr} (l : List DSymbol) (hl : lsz DSymbol.sz l ≤ 1048576) (w : World) (hhi : hi ≤ w.heap.size) (hs : Sl lo hi w 2 l.length (fun k => DSymbol.ct (l.getD k default)) a) :
    Calls Try.prog 13 #[.slice a l.length c, .func (.func 14) #[] #[]] w fun e w' => e = .returned (.bool (l.any circS)) ∧ Below w.heap.size w w' := by
  have HI := Lib.hid (IndexFunc_circS (c := c) l hl w hhi hs)
  have HD := Lib.hid (idx_any circS l)
  clear hs hl
  generalize idxI circS l = q at *
  generalize l.any circS = r at *
  generalize l.length = n at *
  go_enter Try.func13, Try.ntmps13
  go_wp2_with fail
  refine HI.out.mono ?_
  rintro e w1 ⟨rfl, hb1⟩
  go_wp2
  go_ret
  exact ⟨ret_b HD.out, hb1⟩

set_option maxHeartbeats 3200000 in
set_option maxRecDepth 100000 in
theorem impl_HasCircular {lo hi : Nat} {a0 a1 : Option Addr} {c0_0 c0_1 : Nat} (g : DGrammar) (_ : g.ok) (hsz : g.sz ≤ 1048576) (w : World) (hhi : hi ≤ w.heap.size) (hs : Sl lo hi w 2 g.fSymbols.length (fun k => DSymbol.ct (g.fSymbols.getD k default)) a0) (_ : Sl lo hi w 6 g.fRules.length (fun k => DRule.ct (g.fRules.getD k default)) a1) :
    Calls Try.prog 7 #[.agg #[.slice a0 g.fSymbols.length c0_0, .slice a1 g.fRules.length c0_1]] w fun e w' => e = .returned (.bool (hasCirc g)) ∧ Below w.heap.size w w' := by
  unfold hasCirc
  have hz : lsz DSymbol.sz g.fSymbols ≤ 1048576 := by unfold DGrammar.sz at hsz; omega
  have HB := Lib.hid ((Below.refl w.heap.size w).alloc (Nat.le_refl _) (.cells #[.slice a0 g.fSymbols.length c0_0, .slice a1 g.fRules.length c0_1] 31))
  have HC := Lib.hid (ContainsFunc_circS (c := c0_0) g.fSymbols hz _ (Nat.le_trans hhi HB.out.size) (hs.later HB.out hhi))
  clear hs hz hsz
  generalize g.fSymbols.any circS = r at *
  generalize g.fSymbols.length = n at *
  generalize g.fRules.length = m at *
  go_enter Try.func7, Try.ntmps7
  go_wp2_with fail
  refine HC.out.mono ?_
  rintro e w1 ⟨rfl, hb1⟩
  have HB1 := Lib.hid (HB.out.trans (hb1.mono HB.out.size))
  clear hb1
  go_wp2
  go_ret
  exact ⟨rfl, HB1.out⟩

set_option maxHeartbeats 3200000 in
set_option maxRecDepth 100000 in
theorem spec_HasCircular {lo hi : Nat} {a0 a1 : Option Addr} {c0_0 c0_1 : Nat} (g : DGrammar) (_ : g.ok) (hsz : g.sz ≤ 1048576) (w : World) (hhi : hi ≤ w.heap.size) (hs : Sl lo hi w 2 g.fSymbols.length (fun k => DSymbol.ct (g.fSymbols.getD k default)) a0) (_ : Sl lo hi w 6 g.fRules.length (fun k => DRule.ct (g.fRules.getD k default)) a1) :
    Calls Try.prog 5 #[.agg #[.slice a0 g.fSymbols.length c0_0, .slice a1 g.fRules.length c0_1]] w fun e w' => e = .returned (.bool (hasCirc g)) ∧ Below w.heap.size w w' := by
  unfold hasCirc
  have hz : lsz DSymbol.sz g.fSymbols ≤ 1048576 := by unfold DGrammar.sz at hsz; omega
  have HB := Lib.hid ((Below.refl w.heap.size w).alloc (Nat.le_refl _) (.cells #[.slice a0 g.fSymbols.length c0_0, .slice a1 g.fRules.length c0_1] 31))
  have hn : g.fSymbols.length ≤ 1048576 := by unfold lsz at hz; omega
  have HKL := Lib.hid (fun k hk => symattrs_len hz (k := k) hk)
  have HS := Lib.hid (hs.later HB.out hhi)
  clear hs hz hsz
  generalize g.fSymbols = l at *
  generalize g.fRules.length = m at *
  go_enter Try.func5, Try.ntmps5
  go_wp2
  go_loop [3] (fun i => ∃ k : Nat, k ≤ l.length ∧ i = .int .i64 (k : Int) ∧ (∀ j, j < k → circS (l.getD j default) = false)) (fun i => l.length - (intOf i).toNat)
  case atStart => exact ⟨0, Nat.zero_le _, rfl, fun _ h => absurd h (Nat.not_lt_zero _)⟩
  case round =>
    obtain ⟨k, hk, rfl, hno⟩ := hrel
    have HNO := Lib.hid hno
    clear hno
    by_cases hlt : k < l.length
    · obtain ⟨b, off, rfl, _, _, hc⟩ := HS.out.at k hlt
      obtain ⟨a2, c2, hc0, hc1, hs1⟩ := DSymbol.open hc
      have HS1 := Lib.hid hs1
      have hkl := HKL.out k hlt
      clear hc hc0 hs1
      have HNS := Lib.hid (fun (h : circS (l.getD k default) = false) => (show ∀ j, j < k + 1 → circS (l.getD j default) = false from fun j hj => by
        by_cases hjk : j = k
        · subst hjk; exact h
        · exact HNO.out j (by omega)))
      have HY := Lib.hid (fun (h : circS (l.getD k default) = true) => any_yes (p := circS) hlt h)
      generalize hx : (l.getD k default).fAttributes = m2 at *
      have HCS := Lib.hid (show circS (l.getD k default) = m2.any circA by unfold circS; rw [hx])
      clear hx
      go_wp2
      go_loop [4] (fun i => ∃ j : Nat, j ≤ m2.length ∧ i = .int .i64 (j : Int) ∧ (∀ t, t < j → circA (m2.getD t default) = false)) (fun i => m2.length - (intOf i).toNat)
      case atStart => exact ⟨0, Nat.zero_le _, rfl, fun _ h => absurd h (Nat.not_lt_zero _)⟩
      case round =>
        obtain ⟨j, hj, rfl, hnj⟩ := hrel
        have HNJ := Lib.hid hnj
        clear hnj
        by_cases hjt : j < m2.length
        · obtain ⟨b2, off2, rfl, _, _, hd⟩ := HS1.out.at j hjt
          obtain ⟨hd0, hd1, hd2, hd3⟩ := DAttribute.open hd
          clear hd hd0 hd1 hd2
          cases hr : circA (m2.getD j default)
          · have HNJ2 := Lib.hid (show ∀ t, t < j + 1 → circA (m2.getD t default) = false from fun t ht => by
              by_cases htj : t = j
              · subst htj; exact hr
              · exact HNJ.out t (by omega))
            unfold circA at hr
            rw [hr] at hd3
            clear hr
            go_wp2
            go_round
            case rel => exact ⟨j + 1, by omega, by go_num, HNJ2.out⟩
            case measure => simp [intOf]; omega
          · have FIN := Lib.hid (HY.out (by rw [HCS.out]; exact any_yes (p := circA) hjt hr))
            unfold circA at hr
            rw [hr] at hd3
            clear hr
            go_wp2
            go_ret
            exact ⟨ret_b FIN.out.symm, HB.out⟩
        · obtain rfl : j = m2.length := by omega
          have HN2 := Lib.hid (HNS.out (by rw [HCS.out]; exact any_no HNJ.out))
          go_wp2
          go_round
          case rel => exact ⟨k + 1, by omega, by go_num, HN2.out⟩
          case measure => simp [intOf]; omega
    · obtain rfl : k = l.length := by omega
      have FIN := Lib.hid (any_no HNO.out)
      go_wp2
      go_ret
      exact ⟨ret_b FIN.out.symm, HB.out⟩
end Go.Proofs.Ythjobhodfdpedaa
