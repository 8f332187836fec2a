/-
  The occurrences of a rule: what OccurrencesOf and RequiredOccurrences list.
  OccurrencesOf of the model and of the program.
-/
import Derived.Test.YtnmepemmpeboeaaGreatZPlain
import Derived.Test.YtnmepemmpeboeaaGreatZz7
import Derived.Test.YtnmepemmpeboeaaGreatZGInv
import Derived.Test.YtnmepemmpeboeaaGreatZFreeA
import Derived.Test.YtnmepemmpeboeaaGreatZz4
import Derived.Maps.AppendAt
import Derived.Deep.QuietTactic
import Derived.BigQuiet
namespace Go.Proofs.YtnmepemmpeboeaaGreat
open Go.ChangeShapes Go.WideShapes Go.ChangeAt Go.RowKit Go.Deep

theorem info_Occ : (Tryz.prog.info? 68).map (fun i => (i.zero, i.size, i.bytes)) = some (some (.agg #[.int .i64 0, .string ⟨#[]⟩]), 2, 24) := by kernel_rfl
def vOcc (x : DOccurrence) : List Value := [.int .i64 x.fPos, .string x.fName]
theorem vOcc_len (x : DOccurrence) : (vOcc x).length = 2 := rfl
theorem vOcc_ct (x : DOccurrence) (c : Nat) (h : c < 2) : x.ct c = .lit ((vOcc x).getD c .nilFunc) := match c, h with | 0, _ => rfl | 1, _ => rfl
/-- The attributes of a list, as occurrences at a position. -/
def occP (k : Nat) (l : List DAttribute) : List DOccurrence := l.map fun a => ⟨(k : Int), a.fName⟩
theorem occP_step {k : Nat} {l : List DAttribute} {j : Nat} (hj : j < l.length) : occP k (l.take (j + 1)) = occP k (l.take j) ++ [⟨(k : Int), (l.getD j default).fName⟩] := by rw [take_snoc hj]; unfold occP; rw [List.map_append]; rfl
theorem occP_len (k : Nat) (l : List DAttribute) : (occP k l).length = l.length := List.length_map ..
/-- The lists of the positions, one behind the other. -/
def catL (f : Nat → List DOccurrence) : Nat → List DOccurrence
  | 0 => []
  | k + 1 => catL f k ++ f k
theorem catL_len {f : Nat → List DOccurrence} (hf : ∀ k, (f k).length ≤ 1048575) : ∀ k, (catL f k).length ≤ k * 1048575
  | 0 => by simp [catL]
  | k + 1 => by
    have h1 := catL_len hf k
    have h2 := hf k
    show (catL f k ++ f k).length ≤ _
    rw [List.length_append]
    omega
theorem sz1_at {α : Type} [Inhabited α] {f : α → Nat} : ∀ {l : List α} {k : Nat}, k < l.length → f (l.getD k default) + 1 ≤ lsz f l
  | [], k, h => absurd h (Nat.not_lt_zero _)
  | a :: l, 0, _ => by unfold lsz; rw [List.map_cons, List.sum_cons, List.length_cons]; show f a + 1 ≤ _; omega
  | a :: l, k + 1, h => by
    have ih := sz1_at (f := f) (l := l) (k := k) (by simpa using h)
    show f (l.getD k default) + 1 ≤ _
    unfold lsz at *
    rw [List.map_cons, List.sum_cons, List.length_cons]
    omega
theorem symG_len1 {g : DGrammar} (h : g.sz ≤ 1048576) (nm : ByteArray) : (symS g.fSymbols nm).fAttributes.length ≤ 1048575 := by
  have hz : lsz DSymbol.sz g.fSymbols ≤ 1048576 := by unfold DGrammar.sz at h; omega
  by_cases h0 : 0 ≤ idxI (PSym nm) g.fSymbols
  · obtain ⟨k, hk⟩ : ∃ k : Nat, idxI (PSym nm) g.fSymbols = k := ⟨(idxI (PSym nm) g.fSymbols).toNat, by omega⟩
    rw [symS_at hk]
    by_cases hl : k < g.fSymbols.length
    · have h1 := sz1_at (f := DSymbol.sz) hl
      have h2 : (g.fSymbols.getD k default).fAttributes.length ≤ DSymbol.sz (g.fSymbols.getD k default) := by unfold DSymbol.sz lsz; omega
      omega
    · rw [List.getD_eq_getElem?_getD, List.getElem?_eq_none (by omega)]
      exact Nat.zero_le _
  · unfold symS
    rw [if_neg h0]
    exact Nat.zero_le _
theorem plainS_len1 {g : DGrammar} (h : g.sz ≤ 1048576) (nm : ByteArray) : (plainS g nm).length ≤ 1048575 := by
  have h1 := symG_len1 h nm
  have h2 := plK_len (symS g.fSymbols nm).fAttributes (symS g.fSymbols nm).fAttributes.length
  unfold plainS plainL
  omega
theorem symbolAt_sz {x : DRule} (h : x.sz ≤ 1048576) (p : Int) : (symbolAt x p).size ≤ 1048576 := by
  unfold symbolAt
  split
  · unfold DRule.sz at h; omega
  · split
    · rename_i h1
      have h2 : lsz ByteArray.size x.fRight ≤ 1048576 := by unfold DRule.sz at h; omega
      have h3 := szle_at (f := ByteArray.size) x.fRight (p.toNat - 1) (by omega)
      omega
    · exact Nat.zero_le _
theorem symbolAt_ok {x : DRule} (h : x.sz ≤ 1048576) (p : Int) : okS (symbolAt x p) := by have := symbolAt_sz h p; unfold okS; omega
def occAt (g : DGrammar) (x : DRule) (k : Nat) : List DOccurrence := occP k (plainS g (symbolAt x k))
theorem occAt_len {g : DGrammar} (h : g.sz ≤ 1048576) (x : DRule) (k : Nat) : (occAt g x k).length ≤ 1048575 := by unfold occAt; rw [occP_len]; exact plainS_len1 h _
/-- The plain occurrences of a rule. -/
def occsOf (g : DGrammar) (x : DRule) : List DOccurrence := catL (occAt g x) (x.fRight.length + 1)
theorem rightlen {x : DRule} (h : x.sz ≤ 1048576) : x.fRight.length ≤ 1048576 := by unfold DRule.sz lsz at h; omega
theorem occsOf_len {g : DGrammar} (h : g.sz ≤ 1048576) {x : DRule} (hx : x.sz ≤ 1048576) : (occsOf g x).length ≤ 1099511627776 := by
  have h1 := catL_len (f := occAt g x) (occAt_len h x) (x.fRight.length + 1)
  have h2 := rightlen hx
  unfold occsOf
  omega
end Go.Proofs.YtnmepemmpeboeaaGreat
namespace Go.Proofs.YtnmepemmpeboeaaGreat
open Go.ChangeShapes Go.WideShapes Go.ChangeAt Go.RowKit Go.Deep

set_option maxHeartbeats 12800000 in
set_option maxRecDepth 100000 in
theorem spec_OccurrencesOf {lo hi : Nat} {a0 a1 b2 b4 b5 : Option Addr} {c0_0 c0_1 c1_0 c1_1 c1_2 : Nat} (g : DGrammar) (okg : g.ok) (hszg : g.sz ≤ 1048576) (x : DRule) (okx : x.ok) (hszx : x.sz ≤ 1048576) (w : World) (hhi : hi ≤ w.heap.size) (hs0 : Sl lo hi w 2 g.fSymbols.length (fun k => DSymbol.ct (g.fSymbols.getD k default)) a0) (hs1 : Sl lo hi w 6 g.fRules.length (fun k => DRule.ct (g.fRules.getD k default)) a1) (hs2 : Sl lo hi w 1 x.fRight.length (fun k => ictS (x.fRight.getD k default)) b2) (hs4 : Sl lo hi w 9 x.fEquations.length (fun k => DEquation.ct (x.fEquations.getD k default)) b4) (hs5 : Sl lo hi w 16 x.fContributions.length (fun k => DContribution.ct (x.fContributions.getD k default)) b5) :
    Calls Tryz.prog 22 #[.agg #[.slice a0 g.fSymbols.length c0_0, .slice a1 g.fRules.length c0_1], .agg #[.string x.fName, .string x.fLeft, .slice b2 x.fRight.length c1_0, .bool x.fLiteral, .slice b4 x.fEquations.length c1_1, .slice b5 x.fContributions.length c1_2]] w fun e w' => ∃ a c, e = .returned (.slice a (occsOf g x).length c) ∧ Own w' (fun z => w.heap.size ≤ z ∧ z < w'.heap.size) (.sl 2 (occsOf g x).length (fun k => DOccurrence.ct ((occsOf g x).getD k default))) (.slice a (occsOf g x).length c) ∧ Below w.heap.size w w' := by
  have hnx := rightlen hszx
  have HB := Lib.hid (((Below.refl w.heap.size w).alloc (Nat.le_refl _) (.cells #[.slice a0 g.fSymbols.length c0_0, .slice a1 g.fRules.length c0_1] 40)).alloc (by simp) (.cells #[.string x.fName, .string x.fLeft, .slice b2 x.fRight.length c1_0, .bool x.fLiteral, .slice b4 x.fEquations.length c1_1, .slice b5 x.fContributions.length c1_2] 45))
  have HS0 := Lib.hid (hs0.later HB.out hhi)
  have HS1 := Lib.hid (hs1.later HB.out hhi)
  have HS2 := Lib.hid (hs2.later HB.out hhi)
  have HS4 := Lib.hid (hs4.later HB.out hhi)
  have HS5 := Lib.hid (hs5.later HB.out hhi)
  have HHI := Lib.hid hhi
  have HSX := Lib.hid hszx
  have OKX := Lib.hid okx
  have HZG := Lib.hid hszg
  have OKG := Lib.hid okg
  have HLN := Lib.hid (fun k => catL_len (f := occAt g x) (occAt_len hszg x) k)
  have HRES := Lib.hid (show (occsOf g x) = catL (occAt g x) (x.fRight.length + 1) from rfl)
  have HGO := Lib.hid (fun (w' : World) (v : Value) (K : List DOccurrence) (h : w'.ownsRow (w.heap.size + 2) 68 2 v (K).length ((K).flatMap vOcc)) => grown_own (ct := DOccurrence.ct) (by decide) vOcc_len vOcc_ct h)
  obtain ⟨i0, hi', hz0, hz1, hz2⟩ := info_parts info_Occ
  clear hs0 hs1 hs2 hs4 hs5 hhi hszx okx hszg okg
  have HCG := Lib.hid (show ((w.alloc (.cells #[.slice a0 g.fSymbols.length c0_0, .slice a1 g.fRules.length c0_1] 40)).alloc (.cells #[.string x.fName, .string x.fLeft, .slice b2 x.fRight.length c1_0, .bool x.fLiteral, .slice b4 x.fEquations.length c1_1, .slice b5 x.fContributions.length c1_2] 45)).heap[w.heap.size]? = some (.cells #[.slice a0 g.fSymbols.length c0_0, .slice a1 g.fRules.length c0_1] 40) from blk_alloc (by simp) (blk_new rfl))
  have HCR := Lib.hid (show ((w.alloc (.cells #[.slice a0 g.fSymbols.length c0_0, .slice a1 g.fRules.length c0_1] 40)).alloc (.cells #[.string x.fName, .string x.fLeft, .slice b2 x.fRight.length c1_0, .bool x.fLiteral, .slice b4 x.fEquations.length c1_1, .slice b5 x.fContributions.length c1_2] 45)).heap[w.heap.size + 1]? = some (.cells #[.string x.fName, .string x.fLeft, .slice b2 x.fRight.length c1_0, .bool x.fLiteral, .slice b4 x.fEquations.length c1_1, .slice b5 x.fContributions.length c1_2] 45) from blk_new (by simp))
  have HO0 := Lib.hid (show (((w.alloc (.cells #[.slice a0 g.fSymbols.length c0_0, .slice a1 g.fRules.length c0_1] 40)).alloc (.cells #[.string x.fName, .string x.fLeft, .slice b2 x.fRight.length c1_0, .bool x.fLiteral, .slice b4 x.fEquations.length c1_1, .slice b5 x.fContributions.length c1_2] 45)).alloc (.cells #[] 68)).ownsRow (w.heap.size + 2) 68 2 (.slice (some ⟨w.heap.size + 2, 0, none⟩) 0 0) ([] : List DOccurrence).length (([] : List DOccurrence).flatMap vOcc) from by have h := grown_made (w := ((w.alloc (.cells #[.slice a0 g.fSymbols.length c0_0, .slice a1 g.fRules.length c0_1] 40)).alloc (.cells #[.string x.fName, .string x.fLeft, .slice b2 x.fRight.length c1_0, .bool x.fLiteral, .slice b4 x.fEquations.length c1_1, .slice b5 x.fContributions.length c1_2] 45))) (e := 68) (n := 2) (vals := vOcc); rw [show ((w.alloc (.cells #[.slice a0 g.fSymbols.length c0_0, .slice a1 g.fRules.length c0_1] 40)).alloc (.cells #[.string x.fName, .string x.fLeft, .slice b2 x.fRight.length c1_0, .bool x.fLiteral, .slice b4 x.fEquations.length c1_1, .slice b5 x.fContributions.length c1_2] 45)).heap.size = w.heap.size + 2 by simp] at h; exact h)
  have HE0 := Lib.hid (show Below (w.heap.size + 2) ((w.alloc (.cells #[.slice a0 g.fSymbols.length c0_0, .slice a1 g.fRules.length c0_1] 40)).alloc (.cells #[.string x.fName, .string x.fLeft, .slice b2 x.fRight.length c1_0, .bool x.fLiteral, .slice b4 x.fEquations.length c1_1, .slice b5 x.fContributions.length c1_2] 45)) (((w.alloc (.cells #[.slice a0 g.fSymbols.length c0_0, .slice a1 g.fRules.length c0_1] 40)).alloc (.cells #[.string x.fName, .string x.fLeft, .slice b2 x.fRight.length c1_0, .bool x.fLiteral, .slice b4 x.fEquations.length c1_1, .slice b5 x.fContributions.length c1_2] 45)).alloc (.cells #[] 68)) from (Below.refl _ _).alloc (by simp) _)
  have HZ0 := Lib.hid (show ((w.alloc (.cells #[.slice a0 g.fSymbols.length c0_0, .slice a1 g.fRules.length c0_1] 40)).alloc (.cells #[.string x.fName, .string x.fLeft, .slice b2 x.fRight.length c1_0, .bool x.fLiteral, .slice b4 x.fEquations.length c1_1, .slice b5 x.fContributions.length c1_2] 45)).heap.size = w.heap.size + 2 by simp)
  go_enter Tryz.func22, Tryz.ntmps22
  go_wp2
  go_loopw [5, 6] (fun v i wr => ∃ j : Nat, j ≤ x.fRight.length + 1 ∧ i = .int .i64 (j : Int) ∧ wr.ownsRow (w.heap.size + 2) 68 2 v (catL (occAt g x) j).length ((catL (occAt g x) j).flatMap vOcc) ∧ Below (w.heap.size + 2) ((w.alloc (.cells #[.slice a0 g.fSymbols.length c0_0, .slice a1 g.fRules.length c0_1] 40)).alloc (.cells #[.string x.fName, .string x.fLeft, .slice b2 x.fRight.length c1_0, .bool x.fLiteral, .slice b4 x.fEquations.length c1_1, .slice b5 x.fContributions.length c1_2] 45)) wr) (fun _ i _ => x.fRight.length + 1 - (intOf i).toNat)
  case atStart => exact ⟨0, Nat.zero_le _, rfl, HO0.out, HE0.out⟩
  case round =>
    obtain ⟨j, hj, rfl, hown, hbl⟩ := hrel
    obtain ⟨wq, rfl⟩ : ∃ wq : World, wq = wr := ⟨_, rfl⟩
    have HO := Lib.hid hown
    have HBL := Lib.hid hbl
    have hsz1 : w.heap.size + 2 ≤ wq.heap.size := by have := hbl.size; rw [HZ0.out] at this; exact this
    have hk0 : w.heap.size < wq.heap.size := by omega
    have hk1 : w.heap.size + 1 < wq.heap.size := by omega
    have HCG1 := Lib.hid ((hbl.block w.heap.size (by omega)).trans HCG.out)
    have HCR1 := Lib.hid ((hbl.block (w.heap.size + 1) (by omega)).trans HCR.out)
    have HLJ := Lib.hid (HLN.out j)
    have hjn : -9223372036854775808 ≤ (j : Int) ∧ (j : Int) ≤ 9223372036854775807 := by omega
    have HOJ := Lib.hid (show okI (j : Int) from hjn)
    have g0 : wq.cell? ⟨w.heap.size, 0, none⟩ = some (.slice a0 g.fSymbols.length c0_0) := pblk_cell (j := 0) (v := .slice a0 g.fSymbols.length c0_0) HCG1.out rfl
    have g1 : wq.cell? ⟨w.heap.size, 1, none⟩ = some (.slice a1 g.fRules.length c0_1) := pblk_cell (j := 1) (v := .slice a1 g.fRules.length c0_1) HCG1.out rfl
    have r0 : wq.cell? ⟨w.heap.size + 1, 0, none⟩ = some (.string x.fName) := pblk_cell (j := 0) (v := .string x.fName) HCR1.out rfl
    have r1 : wq.cell? ⟨w.heap.size + 1, 1, none⟩ = some (.string x.fLeft) := pblk_cell (j := 1) (v := .string x.fLeft) HCR1.out rfl
    have r2 : wq.cell? ⟨w.heap.size + 1, 2, none⟩ = some (.slice b2 x.fRight.length c1_0) := pblk_cell (j := 2) (v := .slice b2 x.fRight.length c1_0) HCR1.out rfl
    have r3 : wq.cell? ⟨w.heap.size + 1, 3, none⟩ = some (.bool x.fLiteral) := pblk_cell (j := 3) (v := .bool x.fLiteral) HCR1.out rfl
    have r4 : wq.cell? ⟨w.heap.size + 1, 4, none⟩ = some (.slice b4 x.fEquations.length c1_1) := pblk_cell (j := 4) (v := .slice b4 x.fEquations.length c1_1) HCR1.out rfl
    have r5 : wq.cell? ⟨w.heap.size + 1, 5, none⟩ = some (.slice b5 x.fContributions.length c1_2) := pblk_cell (j := 5) (v := .slice b5 x.fContributions.length c1_2) HCR1.out rfl
    have HB1 := Lib.hid (show Below w.heap.size w wq from HB.out.trans (hbl.mono (by omega)))
    clear hown hbl
    by_cases hlt : j < x.fRight.length + 1
    · have HST := Lib.hid (show catL (occAt g x) (j + 1) = catL (occAt g x) j ++ occAt g x j from rfl)
      generalize catL (occAt g x) j = K at *
      have hle : ((j : Int) ≤ (x.fRight.length : Int)) := by omega
      go_wp2_with fail
      refine wp_region_free [([], none), ([], none), ([], none), ([1, 2], none), ([0, 3], none), ([4], none)] [0, 1, 2, 3, 4, 5] (fun jq9 V L H wx => match jq9 with | 0 => V 0 = .agg #[.slice a0 g.fSymbols.length c0_0, .slice a1 g.fRules.length c0_1] | 1 => V 1 = .agg #[.string x.fName, .string x.fLeft, .slice b2 x.fRight.length c1_0, .bool x.fLiteral, .slice b4 x.fEquations.length c1_1, .slice b5 x.fContributions.length c1_2] | 2 => V 2 = .int .i64 (j : Int) | 3 => V 3 = .string (symbolAt x (j : Int)) | 4 => ∃ a9 c9, V 4 = .slice a9 (plainS g (symbolAt x (j : Int))).length c9 ∧ Own wx (fun y => L ≤ y ∧ y < H) (.sl 4 (plainS g (symbolAt x (j : Int))).length (fun k => DAttribute.ct ((plainS g (symbolAt x (j : Int))).getD k default))) (.slice a9 (plainS g (symbolAt x (j : Int))).length c9) | 5 => V 5 = V 4 | _ => True) (by kernel_rfl) (by kernel_rfl) ?loc ?lasts ?walk
      case loc =>
        intro k V V' L H wx h0 h1 hG
        match k with
        | 0 =>
          try dsimp only at hG ⊢
          rw [← h0]
          exact hG
        | 1 =>
          try dsimp only at hG ⊢
          rw [← h0]
          exact hG
        | 2 =>
          try dsimp only at hG ⊢
          rw [← h0]
          exact hG
        | 3 =>
          try dsimp only at hG ⊢
          rw [← h0]
          exact hG
        | 4 =>
          try dsimp only at hG ⊢
          rw [← h0]
          exact hG
        | 5 =>
          have e4 := h1 4 (by decide)
          try dsimp only at hG ⊢
          rw [← h0, ← e4]
          exact hG
        | n + 6 => trivial
      case lasts =>
        intro i hi V L H wx wy hB hH hk
        match i, hi with
        | 0, _ => exact fun h => h
        | 1, _ => exact fun h => h
        | 2, _ => exact fun h => h
        | 3, _ => exact fun h => h
        | 4, _ => exact fun ⟨a9, c9, hv, ho0⟩ => ⟨a9, c9, hv, ho0.kept (hk.sub fun x hx => .inr hx)⟩
        | 5, _ => exact fun h => h
        | n + 6, hn => exact absurd hn (by simp)
      case walk =>
        simp (maxSteps := 4000000) only [free, Nat.reduceAdd, Act.put, List.setIfInBounds_toArray, List.set_cons_succ, List.set_cons_zero]
        refine ⟨?_, ?_, ?_, ?_, ?_, ?_, ?_⟩
        · intro V L H w1 hb1 hd
          clear hd
          have g0 : w1.cell? ⟨w.heap.size, 0, none⟩ = some (.slice a0 g.fSymbols.length c0_0) := (hb1.cell (p := ⟨w.heap.size, 0, none⟩) (by assumption)).trans g0
          have g1 : w1.cell? ⟨w.heap.size, 1, none⟩ = some (.slice a1 g.fRules.length c0_1) := (hb1.cell (p := ⟨w.heap.size, 1, none⟩) (by assumption)).trans g1
          go_wp2_with fail
          exact freePost _ rfl ⟨Below.refl _ _, upd_self⟩
        · intro V L H w1 hb1 hd
          clear hd
          have r0 : w1.cell? ⟨w.heap.size + 1, 0, none⟩ = some (.string x.fName) := (hb1.cell (p := ⟨w.heap.size + 1, 0, none⟩) (by assumption)).trans r0
          have r1 : w1.cell? ⟨w.heap.size + 1, 1, none⟩ = some (.string x.fLeft) := (hb1.cell (p := ⟨w.heap.size + 1, 1, none⟩) (by assumption)).trans r1
          have r2 : w1.cell? ⟨w.heap.size + 1, 2, none⟩ = some (.slice b2 x.fRight.length c1_0) := (hb1.cell (p := ⟨w.heap.size + 1, 2, none⟩) (by assumption)).trans r2
          have r3 : w1.cell? ⟨w.heap.size + 1, 3, none⟩ = some (.bool x.fLiteral) := (hb1.cell (p := ⟨w.heap.size + 1, 3, none⟩) (by assumption)).trans r3
          have r4 : w1.cell? ⟨w.heap.size + 1, 4, none⟩ = some (.slice b4 x.fEquations.length c1_1) := (hb1.cell (p := ⟨w.heap.size + 1, 4, none⟩) (by assumption)).trans r4
          have r5 : w1.cell? ⟨w.heap.size + 1, 5, none⟩ = some (.slice b5 x.fContributions.length c1_2) := (hb1.cell (p := ⟨w.heap.size + 1, 5, none⟩) (by assumption)).trans r5
          go_wp2_with fail
          exact freePost _ rfl ⟨Below.refl _ _, upd_self⟩
        · intro V L H w1 hb1 hd
          clear hd
          go_wp2_with fail
          exact freePost _ rfl ⟨Below.refl _ _, upd_self⟩
        · intro V L H w1 hb1 hd
          obtain ⟨⟨hL1, hM1, hH1, hv1⟩, ⟨hL2, hM2, hH2, hv2⟩, -⟩ := hd
          rw [hv1, hv2]
          have HV1 := Lib.hid hv1
          have HV2 := Lib.hid hv2
          clear hv1 hv2
          go_wp2_with fail
          refine (spec_SymbolAt (c0_0 := c1_0) (c0_1 := c1_1) (c0_2 := c1_2) x OKX.out HSX.out (j : Int) HOJ.out _ (Nat.le_trans (Nat.le_trans HHI.out (by omega)) hb1.size) (HS2.out.later (HBL.out.mono (by omega) |>.trans (hb1.mono (by omega))) HHI.out) (HS4.out.later (HBL.out.mono (by omega) |>.trans (hb1.mono (by omega))) HHI.out) (HS5.out.later (HBL.out.mono (by omega) |>.trans (hb1.mono (by omega))) HHI.out)).mono ?_
          rintro e w2 ⟨rfl, hb2⟩
          go_wp2_with fail
          exact freePost _ rfl ⟨hb2, upd_self⟩
        · intro V L H w1 hb1 hd
          obtain ⟨⟨hL0, hM0, hH0, hv0⟩, ⟨hL3, hM3, hH3, hv3⟩, -⟩ := hd
          rw [hv0, hv3]
          have HV0 := Lib.hid hv0
          have HV3 := Lib.hid hv3
          clear hv0 hv3
          go_wp2_with fail
          refine (spec_PlainAttributes (c0_0 := c0_0) (c0_1 := c0_1) g OKG.out HZG.out (symbolAt x (j : Int)) (symbolAt_ok HSX.out _) (symbolAt_sz HSX.out _) _ (Nat.le_trans (Nat.le_trans HHI.out (by omega)) hb1.size) (HS0.out.later (HBL.out.mono (by omega) |>.trans (hb1.mono (by omega))) HHI.out) (HS1.out.later (HBL.out.mono (by omega) |>.trans (hb1.mono (by omega))) HHI.out)).mono ?_
          rintro e w2 ⟨a9, c9, rfl, ho, hb2⟩
          go_wp2_with fail
          exact freePost _ rfl ⟨hb2, Exists.intro a9 (Exists.intro c9 (And.intro (upd_self) (ho)))⟩
        · intro V L H w1 hb1 hd
          obtain ⟨⟨hL4, hM4, hH4, a9, c9, hv4, ho4_0⟩, -⟩ := hd
          rw [hv4]
          have HV4 := Lib.hid hv4
          clear hv4
          go_wp2_with fail
          exact freePost _ rfl ⟨Below.refl _ _, upd_self.trans (HV4.out.symm.trans (upd_ne (by decide)).symm)⟩
        · intro V L H w1 hb1 hd hap hdead
          obtain ⟨⟨hL0, hM0, hH0, hv0⟩, ⟨hL1, hM1, hH1, hv1⟩, ⟨hL2, hM2, hH2, hv2⟩, ⟨hL3, hM3, hH3, hv3⟩, ⟨hL4, hM4, hH4, a9, c9, hv4, ho4_0⟩, ⟨hL5, hM5, hH5, hv5⟩, -⟩ := hd
          have hv5' := hv5.trans hv4
          rw [hv0, hv1, hv2, hv3, hv4, hv5']
          clear hv0 hv1 hv2 hv3 hv4 hv5' hv5
          have g0 : w1.cell? ⟨w.heap.size, 0, none⟩ = some (.slice a0 g.fSymbols.length c0_0) := (hb1.cell (p := ⟨w.heap.size, 0, none⟩) (by assumption)).trans g0
          have g1 : w1.cell? ⟨w.heap.size, 1, none⟩ = some (.slice a1 g.fRules.length c0_1) := (hb1.cell (p := ⟨w.heap.size, 1, none⟩) (by assumption)).trans g1
          have r0 : w1.cell? ⟨w.heap.size + 1, 0, none⟩ = some (.string x.fName) := (hb1.cell (p := ⟨w.heap.size + 1, 0, none⟩) (by assumption)).trans r0
          have r1 : w1.cell? ⟨w.heap.size + 1, 1, none⟩ = some (.string x.fLeft) := (hb1.cell (p := ⟨w.heap.size + 1, 1, none⟩) (by assumption)).trans r1
          have r2 : w1.cell? ⟨w.heap.size + 1, 2, none⟩ = some (.slice b2 x.fRight.length c1_0) := (hb1.cell (p := ⟨w.heap.size + 1, 2, none⟩) (by assumption)).trans r2
          have r3 : w1.cell? ⟨w.heap.size + 1, 3, none⟩ = some (.bool x.fLiteral) := (hb1.cell (p := ⟨w.heap.size + 1, 3, none⟩) (by assumption)).trans r3
          have r4 : w1.cell? ⟨w.heap.size + 1, 4, none⟩ = some (.slice b4 x.fEquations.length c1_1) := (hb1.cell (p := ⟨w.heap.size + 1, 4, none⟩) (by assumption)).trans r4
          have r5 : w1.cell? ⟨w.heap.size + 1, 5, none⟩ = some (.slice b5 x.fContributions.length c1_2) := (hb1.cell (p := ⟨w.heap.size + 1, 5, none⟩) (by assumption)).trans r5
          have HSA : Hid (Sl wq.heap.size w1.heap.size w1 4 (plainS g (symbolAt x (j : Int))).length (fun k => DAttribute.ct ((plainS g (symbolAt x (j : Int))).getD k default)) a9) := Sl.of (ho4_0.lies fun y hy => ⟨Nat.le_trans hL4 hy.1, Nat.lt_of_lt_of_le hy.2 hH4⟩)
          have HLA := Lib.hid (show (plainS g (symbolAt x (j : Int))).length ≤ 1048576 from plainS_len HZG.out _)
          have HAT := Lib.hid (show occAt g x j = occP j (plainS g (symbolAt x (j : Int))) from rfl)
          have HO1 := Lib.hid (own_below2 HO.out hb1)
          have HBL1 := Lib.hid (HBL.out.trans (hb1.mono hsz1))
          have hsz2 : wq.heap.size ≤ w1.heap.size := hb1.size
          have HOLT := Lib.hid (fun g hg => HO.out.lt g hg)
          clear hb1 ho4_0 hap hdead
          generalize hlst : (plainS g (symbolAt x (j : Int))) = lst at *
          clear hlst
          go_wp2
          go_loopw [5, 8] (fun v i wr => ∃ t : Nat, t ≤ lst.length ∧ i = .int .i64 (t : Int) ∧ wr.ownsRow (w.heap.size + 2) 68 2 v (K ++ occP j (lst.take t)).length ((K ++ occP j (lst.take t)).flatMap vOcc) ∧ ∃ v0, GInv v0 w1 v wr ∧ (∀ g, v0.ownBlock = some g → w.heap.size + 2 ≤ g ∧ g < wq.heap.size)) (fun _ i _ => lst.length - (intOf i).toNat)
          case atStart =>
            refine ⟨0, Nat.zero_le _, rfl, ?_, _, GInv.start (by repeat (first | (with_reducible exact Below.refl _ _) | (with_reducible apply Below.drew) | (with_reducible refine below_drewN ?_ _) | (refine Below.setCell ?_ (by first | omega | (simp <;> omega)) _) | (refine Below.alloc ?_ (by first | omega | (simp <;> omega)) _))), HOLT.out⟩
            rw [show occP j (lst.take 0) = [] from rfl, List.append_nil]
            exact own_below2 HO1.out (by repeat (first | (with_reducible exact Below.refl _ _) | (with_reducible apply Below.drew) | (with_reducible refine below_drewN ?_ _) | (refine Below.setCell ?_ (by first | omega | (simp <;> omega)) _) | (refine Below.alloc ?_ (by first | omega | (simp <;> omega)) _)))
          case round =>
            obtain ⟨t, ht, rfl, hown, v0, hinv, hv0⟩ := hrel
            have HOR := Lib.hid hown
            have HIR := Lib.hid hinv
            have hszr : w1.heap.size ≤ wr.heap.size := hinv.1.size
            have HAR := Lib.hid (hinv.sl HSA.out (fun g hg => by have := hv0 g hg; omega) (by omega))
            have hlen : (K ++ occP j (lst.take t)).length ≤ 1099513724928 := by
              have h1 := HLJ.out
              have h2 := HLA.out
              rw [List.length_append, occP_len]
              have h3 : (lst.take t).length ≤ lst.length := by rw [List.length_take]; omega
              omega
            have HV0 := Lib.hid hv0
            clear hown hinv hv0
            by_cases hlt2 : t < lst.length
            · obtain ⟨b, off, rfl, _, hbh, hc⟩ := HAR.out.at t hlt2
              obtain ⟨hd_0, hd_1, hd_2, hd_3⟩ := DAttribute.open hc
              have hbw2 : b < wr.heap.size := by omega
              have htI : (0 : Int) ≤ (t : Int) ∧ (t : Int) < (lst.length : Int) := by omega
              have htB : t ≤ 1048576 := by have := HLA.out; omega
              have HSTP := Lib.hid (occP_step (k := j) hlt2)
              clear hc
              generalize occP j (lst.take t) = KP at *
              generalize lst.getD t default = at1 at *
              obtain ⟨t0, t1, t2, t3⟩ := at1
              dsimp only at *
              have hgb : (w.heap.size + 2) ≤ wr.heap.size := by omega
              go_wp2_with (at_builtin; refine wpList_append_own_at _ rfl (.tmp 28) (.tmp 36) 59 rfl (w.heap.size + 2) 68 i0 (.agg #[.int .i64 0, .string ⟨#[]⟩]) 2 24 Tryz.underlying59 hi' hz0 hz1 hz2 rfl (by decide) _ _ _ rfl (HOR.out.alloc _) ⟨wr.heap.size, 0, none⟩ 1 1 [.int .i64 (j : Int), .string t0] rfl rfl (by intro q u hu; rcases q with _ | _ | q <;> simp at hu <;> subst hu <;> first | (go_simp; done) | exact (cell_of_row _ _ _ _ _ _ (blk_new (by simp))).trans rfl) (by intro u hu; simp at hu; rcases hu with rfl | rfl <;> rfl) (by unfold maxLen; omega) (by omega) (by simp <;> omega) ?_; intro v' w9 hown' hgrow hnil hat)
              have R1 := Lib.hid (grown_one (l := K ++ KP) (x := (⟨(j : Int), t0⟩ : DOccurrence)) (vals := vOcc) hown' rfl)
              rw [List.append_assoc, show KP ++ [(⟨(j : Int), t0⟩ : DOccurrence)] = _ from HSTP.out.symm] at R1
              have R3 := Lib.hid ((HIR.out.later (show Below wr.heap.size wr _ from (by repeat (first | (with_reducible exact Below.refl _ _) | (with_reducible apply Below.drew) | (with_reducible refine below_drewN ?_ _) | (refine Below.setCell ?_ (by first | omega | (simp <;> omega)) _) | (refine Below.alloc ?_ (by first | omega | (simp <;> omega)) _))))).grow hgrow hat)
              clear hown' hgrow hnil hat
              go_wp2
              go_roundw
              case rel => exact ⟨t + 1, by omega, by go_num, R1.out, v0, R3.out, HV0.out⟩
              case measure => simp [intOf]; omega
            · obtain rfl : t = lst.length := by omega
              have ho := HOR.out
              rw [List.take_length, ← HAT.out, ← HST.out] at ho
              have HOF := Lib.hid ho
              have HBF := Lib.hid (HIR.out.below (fun g hg => (HV0.out g hg).1) HBL1.out (by omega))
              clear ho
              go_wp2
              go_roundw
              case rel => exact ⟨j + 1, by omega, by go_num, HOF.out, HBF.out⟩
              case measure => simp [intOf]; omega
    · obtain rfl : j = x.fRight.length + 1 := by omega
      have hle : ¬ (((x.fRight.length + 1 : Nat) : Int) ≤ (x.fRight.length : Int)) := by omega
      go_wp2
      go_ret
      have ho := HO.out
      rw [← HRES.out] at ho
      obtain ⟨a, c, h1, h2⟩ := HGO.out _ _ _ ho
      exact ⟨a, c, congrArg Ending.returned h1, h2.sub fun z hz => ⟨by omega, hz.2⟩, HB1.out⟩

set_option maxHeartbeats 12800000 in
set_option maxRecDepth 100000 in
theorem impl_OccurrencesOf {lo hi : Nat} {a0 a1 b2 b4 b5 : Option Addr} {c0_0 c0_1 c1_0 c1_1 c1_2 : Nat} (g : DGrammar) (okg : g.ok) (hszg : g.sz ≤ 1048576) (x : DRule) (okx : x.ok) (hszx : x.sz ≤ 1048576) (w : World) (hhi : hi ≤ w.heap.size) (hs0 : Sl lo hi w 2 g.fSymbols.length (fun k => DSymbol.ct (g.fSymbols.getD k default)) a0) (hs1 : Sl lo hi w 6 g.fRules.length (fun k => DRule.ct (g.fRules.getD k default)) a1) (hs2 : Sl lo hi w 1 x.fRight.length (fun k => ictS (x.fRight.getD k default)) b2) (hs4 : Sl lo hi w 9 x.fEquations.length (fun k => DEquation.ct (x.fEquations.getD k default)) b4) (hs5 : Sl lo hi w 16 x.fContributions.length (fun k => DContribution.ct (x.fContributions.getD k default)) b5) :
    Calls Tryz.prog 33 #[.agg #[.slice a0 g.fSymbols.length c0_0, .slice a1 g.fRules.length c0_1], .agg #[.string x.fName, .string x.fLeft, .slice b2 x.fRight.length c1_0, .bool x.fLiteral, .slice b4 x.fEquations.length c1_1, .slice b5 x.fContributions.length c1_2]] w fun e w' => ∃ a c, e = .returned (.slice a (occsOf g x).length c) ∧ Own w' (fun z => w.heap.size ≤ z ∧ z < w'.heap.size) (.sl 2 (occsOf g x).length (fun k => DOccurrence.ct ((occsOf g x).getD k default))) (.slice a (occsOf g x).length c) ∧ Below w.heap.size w w' := by
  have hnx := rightlen hszx
  have HB := Lib.hid (((Below.refl w.heap.size w).alloc (Nat.le_refl _) (.cells #[.slice a0 g.fSymbols.length c0_0, .slice a1 g.fRules.length c0_1] 40)).alloc (by simp) (.cells #[.string x.fName, .string x.fLeft, .slice b2 x.fRight.length c1_0, .bool x.fLiteral, .slice b4 x.fEquations.length c1_1, .slice b5 x.fContributions.length c1_2] 45))
  have HS0 := Lib.hid (hs0.later HB.out hhi)
  have HS1 := Lib.hid (hs1.later HB.out hhi)
  have HS2 := Lib.hid (hs2.later HB.out hhi)
  have HS4 := Lib.hid (hs4.later HB.out hhi)
  have HS5 := Lib.hid (hs5.later HB.out hhi)
  have HHI := Lib.hid hhi
  have HSX := Lib.hid hszx
  have OKX := Lib.hid okx
  have HZG := Lib.hid hszg
  have OKG := Lib.hid okg
  have HLN := Lib.hid (fun k => catL_len (f := occAt g x) (occAt_len hszg x) k)
  have HRES := Lib.hid (show (occsOf g x) = catL (occAt g x) (x.fRight.length + 1) from rfl)
  have HGO := Lib.hid (fun (w' : World) (v : Value) (K : List DOccurrence) (h : w'.ownsRow (w.heap.size + 2) 68 2 v (K).length ((K).flatMap vOcc)) => grown_own (ct := DOccurrence.ct) (by decide) vOcc_len vOcc_ct h)
  obtain ⟨i0, hi', hz0, hz1, hz2⟩ := info_parts info_Occ
  clear hs0 hs1 hs2 hs4 hs5 hhi hszx okx hszg okg
  have HCG := Lib.hid (show ((w.alloc (.cells #[.slice a0 g.fSymbols.length c0_0, .slice a1 g.fRules.length c0_1] 40)).alloc (.cells #[.string x.fName, .string x.fLeft, .slice b2 x.fRight.length c1_0, .bool x.fLiteral, .slice b4 x.fEquations.length c1_1, .slice b5 x.fContributions.length c1_2] 45)).heap[w.heap.size]? = some (.cells #[.slice a0 g.fSymbols.length c0_0, .slice a1 g.fRules.length c0_1] 40) from blk_alloc (by simp) (blk_new rfl))
  have HCR := Lib.hid (show ((w.alloc (.cells #[.slice a0 g.fSymbols.length c0_0, .slice a1 g.fRules.length c0_1] 40)).alloc (.cells #[.string x.fName, .string x.fLeft, .slice b2 x.fRight.length c1_0, .bool x.fLiteral, .slice b4 x.fEquations.length c1_1, .slice b5 x.fContributions.length c1_2] 45)).heap[w.heap.size + 1]? = some (.cells #[.string x.fName, .string x.fLeft, .slice b2 x.fRight.length c1_0, .bool x.fLiteral, .slice b4 x.fEquations.length c1_1, .slice b5 x.fContributions.length c1_2] 45) from blk_new (by simp))
  have HE0 := Lib.hid (show Below (w.heap.size + 2) ((w.alloc (.cells #[.slice a0 g.fSymbols.length c0_0, .slice a1 g.fRules.length c0_1] 40)).alloc (.cells #[.string x.fName, .string x.fLeft, .slice b2 x.fRight.length c1_0, .bool x.fLiteral, .slice b4 x.fEquations.length c1_1, .slice b5 x.fContributions.length c1_2] 45)) ((w.alloc (.cells #[.slice a0 g.fSymbols.length c0_0, .slice a1 g.fRules.length c0_1] 40)).alloc (.cells #[.string x.fName, .string x.fLeft, .slice b2 x.fRight.length c1_0, .bool x.fLiteral, .slice b4 x.fEquations.length c1_1, .slice b5 x.fContributions.length c1_2] 45)) from Below.refl _ _)
  have HZ0 := Lib.hid (show ((w.alloc (.cells #[.slice a0 g.fSymbols.length c0_0, .slice a1 g.fRules.length c0_1] 40)).alloc (.cells #[.string x.fName, .string x.fLeft, .slice b2 x.fRight.length c1_0, .bool x.fLiteral, .slice b4 x.fEquations.length c1_1, .slice b5 x.fContributions.length c1_2] 45)).heap.size = w.heap.size + 2 by simp)
  go_enter Tryz.func33, Tryz.ntmps33
  go_wp2
  go_loopw [5, 13] (fun v i wr => ∃ j : Nat, j ≤ x.fRight.length + 1 ∧ i = .int .i64 (j : Int) ∧ wr.ownsRow (w.heap.size + 2) 68 2 v (catL (occAt g x) j).length ((catL (occAt g x) j).flatMap vOcc) ∧ Below (w.heap.size + 2) ((w.alloc (.cells #[.slice a0 g.fSymbols.length c0_0, .slice a1 g.fRules.length c0_1] 40)).alloc (.cells #[.string x.fName, .string x.fLeft, .slice b2 x.fRight.length c1_0, .bool x.fLiteral, .slice b4 x.fEquations.length c1_1, .slice b5 x.fContributions.length c1_2] 45)) wr) (fun _ i _ => x.fRight.length + 1 - (intOf i).toNat)
  case atStart => exact ⟨0, Nat.zero_le _, rfl, grown_nil, HE0.out⟩
  case round =>
    obtain ⟨j, hj, rfl, hown, hbl⟩ := hrel
    obtain ⟨wq, rfl⟩ : ∃ wq : World, wq = wr := ⟨_, rfl⟩
    have HO := Lib.hid hown
    have HBL := Lib.hid hbl
    have hsz1 : w.heap.size + 2 ≤ wq.heap.size := by have := hbl.size; rw [HZ0.out] at this; exact this
    have hk0 : w.heap.size < wq.heap.size := by omega
    have hk1 : w.heap.size + 1 < wq.heap.size := by omega
    have HCG1 := Lib.hid ((hbl.block w.heap.size (by omega)).trans HCG.out)
    have HCR1 := Lib.hid ((hbl.block (w.heap.size + 1) (by omega)).trans HCR.out)
    have HLJ := Lib.hid (HLN.out j)
    have hjn : -9223372036854775808 ≤ (j : Int) ∧ (j : Int) ≤ 9223372036854775807 := by omega
    have HOJ := Lib.hid (show okI (j : Int) from hjn)
    have g0 : wq.cell? ⟨w.heap.size, 0, none⟩ = some (.slice a0 g.fSymbols.length c0_0) := pblk_cell (j := 0) (v := .slice a0 g.fSymbols.length c0_0) HCG1.out rfl
    have g1 : wq.cell? ⟨w.heap.size, 1, none⟩ = some (.slice a1 g.fRules.length c0_1) := pblk_cell (j := 1) (v := .slice a1 g.fRules.length c0_1) HCG1.out rfl
    have r0 : wq.cell? ⟨w.heap.size + 1, 0, none⟩ = some (.string x.fName) := pblk_cell (j := 0) (v := .string x.fName) HCR1.out rfl
    have r1 : wq.cell? ⟨w.heap.size + 1, 1, none⟩ = some (.string x.fLeft) := pblk_cell (j := 1) (v := .string x.fLeft) HCR1.out rfl
    have r2 : wq.cell? ⟨w.heap.size + 1, 2, none⟩ = some (.slice b2 x.fRight.length c1_0) := pblk_cell (j := 2) (v := .slice b2 x.fRight.length c1_0) HCR1.out rfl
    have r3 : wq.cell? ⟨w.heap.size + 1, 3, none⟩ = some (.bool x.fLiteral) := pblk_cell (j := 3) (v := .bool x.fLiteral) HCR1.out rfl
    have r4 : wq.cell? ⟨w.heap.size + 1, 4, none⟩ = some (.slice b4 x.fEquations.length c1_1) := pblk_cell (j := 4) (v := .slice b4 x.fEquations.length c1_1) HCR1.out rfl
    have r5 : wq.cell? ⟨w.heap.size + 1, 5, none⟩ = some (.slice b5 x.fContributions.length c1_2) := pblk_cell (j := 5) (v := .slice b5 x.fContributions.length c1_2) HCR1.out rfl
    have HB1 := Lib.hid (show Below w.heap.size w wq from HB.out.trans (hbl.mono (by omega)))
    clear hown hbl
    by_cases hlt : j < x.fRight.length + 1
    · have HST := Lib.hid (show catL (occAt g x) (j + 1) = catL (occAt g x) j ++ occAt g x j from rfl)
      generalize catL (occAt g x) j = K at *
      have hle : ((j : Int) < (x.fRight.length : Int) + 1) := by omega
      go_wp2_with fail
      refine wp_region_free [([], none), ([], none), ([], none), ([1, 2], none), ([0, 3], none), ([4], none), ([], none)] [0, 1, 2, 3, 4, 5, 6] (fun jq9 V L H wx => match jq9 with | 0 => V 0 = .agg #[.slice a0 g.fSymbols.length c0_0, .slice a1 g.fRules.length c0_1] | 1 => V 1 = .agg #[.string x.fName, .string x.fLeft, .slice b2 x.fRight.length c1_0, .bool x.fLiteral, .slice b4 x.fEquations.length c1_1, .slice b5 x.fContributions.length c1_2] | 2 => V 2 = .int .i64 (j : Int) | 3 => V 3 = .string (symbolAt x (j : Int)) | 4 => ∃ a9 c9, V 4 = .slice a9 (plainS g (symbolAt x (j : Int))).length c9 ∧ Own wx (fun y => L ≤ y ∧ y < H) (.sl 4 (plainS g (symbolAt x (j : Int))).length (fun k => DAttribute.ct ((plainS g (symbolAt x (j : Int))).getD k default))) (.slice a9 (plainS g (symbolAt x (j : Int))).length c9) | 5 => V 5 = .int .i64 ((plainS g (symbolAt x (j : Int))).length : Int) | 6 => V 6 = .int .i64 0 | _ => True) (by kernel_rfl) (by kernel_rfl) ?loc ?lasts ?walk
      case loc =>
        intro k V V' L H wx h0 h1 hG
        match k with
        | 0 =>
          try dsimp only at hG ⊢
          rw [← h0]
          exact hG
        | 1 =>
          try dsimp only at hG ⊢
          rw [← h0]
          exact hG
        | 2 =>
          try dsimp only at hG ⊢
          rw [← h0]
          exact hG
        | 3 =>
          try dsimp only at hG ⊢
          rw [← h0]
          exact hG
        | 4 =>
          try dsimp only at hG ⊢
          rw [← h0]
          exact hG
        | 5 =>
          try dsimp only at hG ⊢
          rw [← h0]
          exact hG
        | 6 =>
          try dsimp only at hG ⊢
          rw [← h0]
          exact hG
        | n + 7 => trivial
      case lasts =>
        intro i hi V L H wx wy hB hH hk
        match i, hi with
        | 0, _ => exact fun h => h
        | 1, _ => exact fun h => h
        | 2, _ => exact fun h => h
        | 3, _ => exact fun h => h
        | 4, _ => exact fun ⟨a9, c9, hv, ho0⟩ => ⟨a9, c9, hv, ho0.kept (hk.sub fun x hx => .inr hx)⟩
        | 5, _ => exact fun h => h
        | 6, _ => exact fun h => h
        | n + 7, hn => exact absurd hn (by simp)
      case walk =>
        simp (maxSteps := 4000000) only [free, Nat.reduceAdd, Act.put, List.setIfInBounds_toArray, List.set_cons_succ, List.set_cons_zero]
        refine ⟨?_, ?_, ?_, ?_, ?_, ?_, ?_, ?_⟩
        · intro V L H w1 hb1 hd
          clear hd
          have g0 : w1.cell? ⟨w.heap.size, 0, none⟩ = some (.slice a0 g.fSymbols.length c0_0) := (hb1.cell (p := ⟨w.heap.size, 0, none⟩) (by assumption)).trans g0
          have g1 : w1.cell? ⟨w.heap.size, 1, none⟩ = some (.slice a1 g.fRules.length c0_1) := (hb1.cell (p := ⟨w.heap.size, 1, none⟩) (by assumption)).trans g1
          go_wp2_with fail
          exact freePost _ rfl ⟨Below.refl _ _, upd_self⟩
        · intro V L H w1 hb1 hd
          clear hd
          have r0 : w1.cell? ⟨w.heap.size + 1, 0, none⟩ = some (.string x.fName) := (hb1.cell (p := ⟨w.heap.size + 1, 0, none⟩) (by assumption)).trans r0
          have r1 : w1.cell? ⟨w.heap.size + 1, 1, none⟩ = some (.string x.fLeft) := (hb1.cell (p := ⟨w.heap.size + 1, 1, none⟩) (by assumption)).trans r1
          have r2 : w1.cell? ⟨w.heap.size + 1, 2, none⟩ = some (.slice b2 x.fRight.length c1_0) := (hb1.cell (p := ⟨w.heap.size + 1, 2, none⟩) (by assumption)).trans r2
          have r3 : w1.cell? ⟨w.heap.size + 1, 3, none⟩ = some (.bool x.fLiteral) := (hb1.cell (p := ⟨w.heap.size + 1, 3, none⟩) (by assumption)).trans r3
          have r4 : w1.cell? ⟨w.heap.size + 1, 4, none⟩ = some (.slice b4 x.fEquations.length c1_1) := (hb1.cell (p := ⟨w.heap.size + 1, 4, none⟩) (by assumption)).trans r4
          have r5 : w1.cell? ⟨w.heap.size + 1, 5, none⟩ = some (.slice b5 x.fContributions.length c1_2) := (hb1.cell (p := ⟨w.heap.size + 1, 5, none⟩) (by assumption)).trans r5
          go_wp2_with fail
          exact freePost _ rfl ⟨Below.refl _ _, upd_self⟩
        · intro V L H w1 hb1 hd
          clear hd
          go_wp2_with fail
          exact freePost _ rfl ⟨Below.refl _ _, upd_self⟩
        · intro V L H w1 hb1 hd
          obtain ⟨⟨hL1, hM1, hH1, hv1⟩, ⟨hL2, hM2, hH2, hv2⟩, -⟩ := hd
          rw [hv1, hv2]
          have HV1 := Lib.hid hv1
          have HV2 := Lib.hid hv2
          clear hv1 hv2
          go_wp2_with fail
          refine (impl_SymbolAt (c0_0 := c1_0) (c0_1 := c1_1) (c0_2 := c1_2) x OKX.out HSX.out (j : Int) HOJ.out _ (Nat.le_trans (Nat.le_trans HHI.out (by omega)) hb1.size) (HS2.out.later (HBL.out.mono (by omega) |>.trans (hb1.mono (by omega))) HHI.out) (HS4.out.later (HBL.out.mono (by omega) |>.trans (hb1.mono (by omega))) HHI.out) (HS5.out.later (HBL.out.mono (by omega) |>.trans (hb1.mono (by omega))) HHI.out)).mono ?_
          rintro e w2 ⟨rfl, hb2⟩
          go_wp2_with fail
          exact freePost _ rfl ⟨hb2, upd_self⟩
        · intro V L H w1 hb1 hd
          obtain ⟨⟨hL0, hM0, hH0, hv0⟩, ⟨hL3, hM3, hH3, hv3⟩, -⟩ := hd
          rw [hv0, hv3]
          have HV0 := Lib.hid hv0
          have HV3 := Lib.hid hv3
          clear hv0 hv3
          go_wp2_with fail
          refine (impl_PlainAttributes (c0_0 := c0_0) (c0_1 := c0_1) g OKG.out HZG.out (symbolAt x (j : Int)) (symbolAt_ok HSX.out _) (symbolAt_sz HSX.out _) _ (Nat.le_trans (Nat.le_trans HHI.out (by omega)) hb1.size) (HS0.out.later (HBL.out.mono (by omega) |>.trans (hb1.mono (by omega))) HHI.out) (HS1.out.later (HBL.out.mono (by omega) |>.trans (hb1.mono (by omega))) HHI.out)).mono ?_
          rintro e w2 ⟨a9, c9, rfl, ho, hb2⟩
          go_wp2_with fail
          exact freePost _ rfl ⟨hb2, Exists.intro a9 (Exists.intro c9 (And.intro (upd_self) (ho)))⟩
        · intro V L H w1 hb1 hd
          obtain ⟨⟨hL4, hM4, hH4, a9, c9, hv4, ho4_0⟩, -⟩ := hd
          rw [hv4]
          have HV4 := Lib.hid hv4
          clear hv4
          go_wp2_with fail
          exact freePost _ rfl ⟨Below.refl _ _, upd_self⟩
        · intro V L H w1 hb1 hd
          clear hd
          go_wp2_with fail
          exact freePost _ rfl ⟨Below.refl _ _, upd_self⟩
        · intro V L H w1 hb1 hd hap hdead
          obtain ⟨⟨hL0, hM0, hH0, hv0⟩, ⟨hL1, hM1, hH1, hv1⟩, ⟨hL2, hM2, hH2, hv2⟩, ⟨hL3, hM3, hH3, hv3⟩, ⟨hL4, hM4, hH4, a9, c9, hv4, ho4_0⟩, ⟨hL5, hM5, hH5, hv5⟩, ⟨hL6, hM6, hH6, hv6⟩, -⟩ := hd
          rw [hv0, hv1, hv2, hv3, hv4, hv5, hv6]
          clear hv0 hv1 hv2 hv3 hv4 hv5 hv6
          have g0 : w1.cell? ⟨w.heap.size, 0, none⟩ = some (.slice a0 g.fSymbols.length c0_0) := (hb1.cell (p := ⟨w.heap.size, 0, none⟩) (by assumption)).trans g0
          have g1 : w1.cell? ⟨w.heap.size, 1, none⟩ = some (.slice a1 g.fRules.length c0_1) := (hb1.cell (p := ⟨w.heap.size, 1, none⟩) (by assumption)).trans g1
          have r0 : w1.cell? ⟨w.heap.size + 1, 0, none⟩ = some (.string x.fName) := (hb1.cell (p := ⟨w.heap.size + 1, 0, none⟩) (by assumption)).trans r0
          have r1 : w1.cell? ⟨w.heap.size + 1, 1, none⟩ = some (.string x.fLeft) := (hb1.cell (p := ⟨w.heap.size + 1, 1, none⟩) (by assumption)).trans r1
          have r2 : w1.cell? ⟨w.heap.size + 1, 2, none⟩ = some (.slice b2 x.fRight.length c1_0) := (hb1.cell (p := ⟨w.heap.size + 1, 2, none⟩) (by assumption)).trans r2
          have r3 : w1.cell? ⟨w.heap.size + 1, 3, none⟩ = some (.bool x.fLiteral) := (hb1.cell (p := ⟨w.heap.size + 1, 3, none⟩) (by assumption)).trans r3
          have r4 : w1.cell? ⟨w.heap.size + 1, 4, none⟩ = some (.slice b4 x.fEquations.length c1_1) := (hb1.cell (p := ⟨w.heap.size + 1, 4, none⟩) (by assumption)).trans r4
          have r5 : w1.cell? ⟨w.heap.size + 1, 5, none⟩ = some (.slice b5 x.fContributions.length c1_2) := (hb1.cell (p := ⟨w.heap.size + 1, 5, none⟩) (by assumption)).trans r5
          have HSA : Hid (Sl wq.heap.size w1.heap.size w1 4 (plainS g (symbolAt x (j : Int))).length (fun k => DAttribute.ct ((plainS g (symbolAt x (j : Int))).getD k default)) a9) := Sl.of (ho4_0.lies fun y hy => ⟨Nat.le_trans hL4 hy.1, Nat.lt_of_lt_of_le hy.2 hH4⟩)
          have HLA := Lib.hid (show (plainS g (symbolAt x (j : Int))).length ≤ 1048576 from plainS_len HZG.out _)
          have HAT := Lib.hid (show occAt g x j = occP j (plainS g (symbolAt x (j : Int))) from rfl)
          have HO1 := Lib.hid (own_below2 HO.out hb1)
          have HBL1 := Lib.hid (HBL.out.trans (hb1.mono hsz1))
          have hsz2 : wq.heap.size ≤ w1.heap.size := hb1.size
          have HOLT := Lib.hid (fun g hg => HO.out.lt g hg)
          clear hb1 ho4_0 hap hdead
          generalize hlst : (plainS g (symbolAt x (j : Int))) = lst at *
          clear hlst
          go_wp2
          go_loopw [5, 22] (fun v i wr => ∃ t : Nat, t ≤ lst.length ∧ i = .int .i64 (t : Int) ∧ wr.ownsRow (w.heap.size + 2) 68 2 v (K ++ occP j (lst.take t)).length ((K ++ occP j (lst.take t)).flatMap vOcc) ∧ ∃ v0, GInv v0 w1 v wr ∧ (∀ g, v0.ownBlock = some g → w.heap.size + 2 ≤ g ∧ g < wq.heap.size)) (fun _ i _ => lst.length - (intOf i).toNat)
          case atStart =>
            refine ⟨0, Nat.zero_le _, rfl, ?_, _, GInv.start (by repeat (first | (with_reducible exact Below.refl _ _) | (with_reducible apply Below.drew) | (with_reducible refine below_drewN ?_ _) | (refine Below.setCell ?_ (by first | omega | (simp <;> omega)) _) | (refine Below.alloc ?_ (by first | omega | (simp <;> omega)) _))), HOLT.out⟩
            rw [show occP j (lst.take 0) = [] from rfl, List.append_nil]
            exact own_below2 HO1.out (by repeat (first | (with_reducible exact Below.refl _ _) | (with_reducible apply Below.drew) | (with_reducible refine below_drewN ?_ _) | (refine Below.setCell ?_ (by first | omega | (simp <;> omega)) _) | (refine Below.alloc ?_ (by first | omega | (simp <;> omega)) _)))
          case round =>
            obtain ⟨t, ht, rfl, hown, v0, hinv, hv0⟩ := hrel
            have HOR := Lib.hid hown
            have HIR := Lib.hid hinv
            have hszr : w1.heap.size ≤ wr.heap.size := hinv.1.size
            have HAR := Lib.hid (hinv.sl HSA.out (fun g hg => by have := hv0 g hg; omega) (by omega))
            have hlen : (K ++ occP j (lst.take t)).length ≤ 1099513724928 := by
              have h1 := HLJ.out
              have h2 := HLA.out
              rw [List.length_append, occP_len]
              have h3 : (lst.take t).length ≤ lst.length := by rw [List.length_take]; omega
              omega
            have HV0 := Lib.hid hv0
            clear hown hinv hv0
            by_cases hlt2 : t < lst.length
            · obtain ⟨b, off, rfl, _, hbh, hc⟩ := HAR.out.at t hlt2
              obtain ⟨hd_0, hd_1, hd_2, hd_3⟩ := DAttribute.open hc
              have hbw2 : b < wr.heap.size := by omega
              have htI : (0 : Int) ≤ (t : Int) ∧ (t : Int) < (lst.length : Int) := by omega
              have htB : t ≤ 1048576 := by have := HLA.out; omega
              have HSTP := Lib.hid (occP_step (k := j) hlt2)
              clear hc
              generalize occP j (lst.take t) = KP at *
              generalize lst.getD t default = at1 at *
              obtain ⟨t0, t1, t2, t3⟩ := at1
              dsimp only at *
              have hgb : (w.heap.size + 2) ≤ wr.heap.size := by omega
              go_wp2_with (at_builtin; refine wpList_append_own_at _ rfl (.tmp 26) (.tmp 31) 59 rfl (w.heap.size + 2) 68 i0 (.agg #[.int .i64 0, .string ⟨#[]⟩]) 2 24 Tryz.underlying59 hi' hz0 hz1 hz2 rfl (by decide) _ _ _ rfl ((HOR.out.alloc _).alloc _) ⟨wr.heap.size + 1, 0, none⟩ 1 1 [.int .i64 (j : Int), .string t0] rfl rfl (by intro q u hu; rcases q with _ | _ | q <;> simp at hu <;> subst hu <;> first | (go_simp; done) | exact (cell_of_row _ _ _ _ _ _ (blk_new (by simp))).trans rfl) (by intro u hu; simp at hu; rcases hu with rfl | rfl <;> rfl) (by unfold maxLen; omega) (by omega) (by simp <;> omega) ?_; intro v' w9 hown' hgrow hnil hat)
              have R1 := Lib.hid (grown_one (l := K ++ KP) (x := (⟨(j : Int), t0⟩ : DOccurrence)) (vals := vOcc) hown' rfl)
              rw [List.append_assoc, show KP ++ [(⟨(j : Int), t0⟩ : DOccurrence)] = _ from HSTP.out.symm] at R1
              have R3 := Lib.hid ((HIR.out.later (show Below wr.heap.size wr _ from (by repeat (first | (with_reducible exact Below.refl _ _) | (with_reducible apply Below.drew) | (with_reducible refine below_drewN ?_ _) | (refine Below.setCell ?_ (by first | omega | (simp <;> omega)) _) | (refine Below.alloc ?_ (by first | omega | (simp <;> omega)) _))))).grow hgrow hat)
              clear hown' hgrow hnil hat
              go_wp2
              go_roundw
              case rel => exact ⟨t + 1, by omega, by go_num, R1.out, v0, R3.out, HV0.out⟩
              case measure => simp [intOf]; omega
            · obtain rfl : t = lst.length := by omega
              have ho := HOR.out
              rw [List.take_length, ← HAT.out, ← HST.out] at ho
              have HOF := Lib.hid ho
              have HBF := Lib.hid (HIR.out.below (fun g hg => (HV0.out g hg).1) HBL1.out (by omega))
              clear ho
              go_wp2
              go_roundw
              case rel => exact ⟨j + 1, by omega, by go_num, HOF.out, HBF.out⟩
              case measure => simp [intOf]; omega
    · obtain rfl : j = x.fRight.length + 1 := by omega
      have hle : ¬ (((x.fRight.length + 1 : Nat) : Int) < (x.fRight.length : Int) + 1) := by omega
      go_wp2
      go_ret
      have ho := HO.out
      rw [← HRES.out] at ho
      obtain ⟨a, c, h1, h2⟩ := HGO.out _ _ _ ho
      exact ⟨a, c, congrArg Ending.returned h1, h2.sub fun z hz => ⟨by omega, hz.2⟩, HB1.out⟩
end Go.Proofs.YtnmepemmpeboeaaGreat
