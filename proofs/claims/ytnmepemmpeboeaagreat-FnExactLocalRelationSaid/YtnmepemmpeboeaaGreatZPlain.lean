/-
  PlainAttributes of the model and of the program.
-/
import Derived.Test.YtnmepemmpeboeaaGreatZz14
import Derived.Test.YtnmepemmpeboeaaGreatZz3
import Derived.Test.YtnmepemmpeboeaaGreatZFree
import Derived.Maps.AppendAt
namespace Go.Proofs.YtnmepemmpeboeaaGreat
open Go.ChangeShapes Go.WideShapes Go.ChangeAt Go.RowKit Go.Deep

theorem info_int8 : (Tryz.prog.info? 3).map (fun i => (i.zero, i.size, i.bytes)) = some (some (.int .i64 0), 1, 8) := by kernel_rfl
def vIx (z : Int) : List Value := [.int .i64 z]
theorem vIx_len (z : Int) : (vIx z).length = 1 := rfl
theorem vIx_ct (z : Int) (c : Nat) (h : c < 1) : ictI z c = .lit ((vIx z).getD c .nilFunc) := match c, h with | 0, _ => rfl
theorem own_below2 {w w' : World} {base : Nat} {e : TypeId} {size : Nat} {v : Value} {n : Nat} {xs : List Value} (h : w.ownsRow base e size v n xs) (hb : Below w.heap.size w w') : w'.ownsRow base e size v n xs :=
  h.kept (row := none) ⟨hb.os, hb.tape, hb.output, hb.size, fun k hk _ => hb.block k hk⟩ (by cases v.ownBlock <;> simp)
def plB (m : Int) : Bool := m == 1 || m == 2
theorem plB_1 {m : Int} (h : m = 1) : plB m = true := by unfold plB; rw [h]; rfl
theorem plB_2 {m : Int} (h : m = 2) : plB m = true := by unfold plB; rw [h]; rfl
theorem plB_0 {m : Int} (h1 : m ≠ 1) (h2 : m ≠ 2) : plB m = false := by unfold plB; simp [h1, h2]
/-- The indices of the plain attributes among the first k. -/
def ixs (l : List DAttribute) : Nat → List Int
  | 0 => []
  | k + 1 => ixs l k ++ if plB (l.getD k default).fMode = true then [(k : Int)] else []
theorem ixs_yes {l : List DAttribute} {k : Nat} (h : plB (l.getD k default).fMode = true) : ixs l (k + 1) = ixs l k ++ [(k : Int)] := by show ixs l k ++ _ = _; rw [if_pos h]
theorem ixs_no {l : List DAttribute} {k : Nat} (h : plB (l.getD k default).fMode = false) : ixs l (k + 1) = ixs l k := by show ixs l k ++ _ = _; rw [if_neg (by rw [h]; decide), List.append_nil]
theorem ixs_mem (l : List DAttribute) : ∀ k, ∀ i ∈ ixs l k, 0 ≤ i ∧ i < (k : Int)
  | 0, i, h => absurd h (by simp [ixs])
  | k + 1, i, h => by
    rcases List.mem_append.1 h with h | h
    · have := ixs_mem l k i h; omega
    · split at h
      · have : i = (k : Int) := by simpa using h
        omega
      · simp at h
theorem ixs_len (l : List DAttribute) : ∀ k, (ixs l k).length ≤ k
  | 0 => Nat.le_refl _
  | k + 1 => by
    have h := ixs_len l k
    show (ixs l k ++ _).length ≤ _
    rw [List.length_append]
    have : (if plB (l.getD k default).fMode = true then [(k : Int)] else []).length ≤ 1 := by split <;> simp
    omega
def atI (l : List DAttribute) (i : Int) : DAttribute := l.getD i.toNat default
def plK (l : List DAttribute) (k : Nat) : List DAttribute := (ixs l k).map (atI l)
def plainL (l : List DAttribute) : List DAttribute := plK l l.length
theorem plK_yes {l : List DAttribute} {k : Nat} (h : plB (l.getD k default).fMode = true) : plK l (k + 1) = plK l k ++ [l.getD k default] := by unfold plK; rw [ixs_yes h, List.map_append]; rfl
theorem plK_no {l : List DAttribute} {k : Nat} (h : plB (l.getD k default).fMode = false) : plK l (k + 1) = plK l k := by unfold plK; rw [ixs_no h]
theorem plK_len (l : List DAttribute) (k : Nat) : (plK l k).length ≤ k := by unfold plK; rw [List.length_map]; exact ixs_len l k
theorem plK_sz (l : List DAttribute) : ∀ k, k ≤ l.length → lsz DAttribute.sz (plK l k) ≤ lsz DAttribute.sz (l.take k)
  | 0, _ => by simp [plK, ixs, lsz]
  | k + 1, h => by
    have ih := plK_sz l k (by omega)
    rw [take_snoc (show k < l.length by omega)]
    cases hb : plB (l.getD k default).fMode
    · rw [plK_no hb]
      unfold lsz at *
      rw [List.length_append, List.map_append, List.sum_append]
      omega
    · rw [plK_yes hb]
      unfold lsz at *
      rw [List.length_append, List.map_append, List.sum_append, List.length_append, List.map_append, List.sum_append]
      omega
def plainS (g : DGrammar) (nm : ByteArray) : List DAttribute := plainL (symS g.fSymbols nm).fAttributes
theorem plainS_sz {g : DGrammar} (h : g.sz ≤ 1048576) (nm : ByteArray) : lsz DAttribute.sz (plainS g nm) ≤ 1048576 := by
  have h1 := sym_sz h nm
  have h2 := plK_sz (symS g.fSymbols nm).fAttributes (symS g.fSymbols nm).fAttributes.length (Nat.le_refl _)
  rw [List.take_length] at h2
  have h3 : lsz DAttribute.sz (symS g.fSymbols nm).fAttributes ≤ DSymbol.sz (symS g.fSymbols nm) := by unfold DSymbol.sz; omega
  unfold plainS plainL
  omega
theorem plainS_len {g : DGrammar} (h : g.sz ≤ 1048576) (nm : ByteArray) : (plainS g nm).length ≤ 1048576 := by
  have h1 := plainS_sz h nm
  unfold lsz at h1
  omega

set_option maxHeartbeats 1600000 in
set_option maxRecDepth 100000 in
theorem impl_isPlain (a : DAttribute) (w : World) :
    Calls Tryz.prog 93 #[.agg #[.string a.fName, .int .i64 a.fType, .int .i64 a.fMode, .bool a.fCircular]] w fun e w' => e = .returned (.bool (plB a.fMode)) ∧ Below w.heap.size w w' := by
  have HB := Lib.hid ((Below.refl w.heap.size w).alloc (Nat.le_refl _) (.cells #[.string a.fName, .int .i64 a.fType, .int .i64 a.fMode, .bool a.fCircular] 106))
  generalize a.fMode = m at *
  by_cases h1 : m = 1
  · have FIN := Lib.hid (plB_1 h1)
    subst h1
    go_enter Tryz.func93, Tryz.ntmps93
    go_wp2
    go_ret
    exact ⟨ret_b (by rw [FIN.out]), HB.out⟩
  · by_cases h2 : m = 2
    · have FIN := Lib.hid (plB_2 h2)
      subst h2
      go_enter Tryz.func93, Tryz.ntmps93
      go_wp2
      go_ret
      exact ⟨ret_b (by rw [FIN.out]), HB.out⟩
    · have FIN := Lib.hid (plB_0 h1 h2)
      have hd1 : (m == 1) = false := by simpa using h1
      have hd2 : (m == 2) = false := by simpa using h2
      clear h1 h2
      go_enter Tryz.func93, Tryz.ntmps93
      go_wp2
      go_ret
      exact ⟨ret_b (by rw [FIN.out]), HB.out⟩

theorem touches_of_below {L H : Nat} {a w : World} (hb : Below a.heap.size a w) : Touches L H a w := ⟨hb.os, hb.tape, hb.output, hb.size, fun k hk _ => hb.block k hk⟩
theorem below_touches {n L H : Nat} {w w1 wr : World} (hb : Below n w w1) (hT : Touches L H w1 wr) (hL : n ≤ L) (hn : n ≤ w1.heap.size) : Below n w wr :=
  ⟨hT.os.trans hb.os, hT.tape.trans hb.tape, hT.output.trans hb.output, Nat.le_trans hb.size hT.size, fun k hk => (hT.block k (by omega) (by omega)).trans (hb.block k hk)⟩
/-- The model's list lies in block B or behind the variable's block; of the blocks up to the variable's none but B is written. -/
def PInv (B : Nat) (w1 : World) (x v : Value) (wr : World) : Prop :=
  Touches B (B + 1) w1 wr ∧ w1.heap.size < wr.heap.size ∧ wr.cell? ⟨w1.heap.size, 1, none⟩ = some x ∧ ∀ g, v.ownBlock = some g → g = B ∨ w1.heap.size < g
theorem PInv.next {B : Nat} {w1 wr w9 : World} {o : Obj} {v v' x : Value} (h : PInv B w1 x v wr) (hB : B < w1.heap.size) (hg : (wr.alloc o).grownBy w9 v.ownBlock) (hat : v'.ownBlock = v.ownBlock ∨ v'.ownBlock = some (wr.alloc o).heap.size) : PInv B w1 x v' w9 := by
  obtain ⟨hT, hs, hq, hob⟩ := h
  have hsz : (wr.alloc o).heap.size = wr.heap.size + 1 := by simp
  have hgs := hg.size
  rw [hsz] at hgs
  have hblk : ∀ k, k < wr.heap.size → k ≠ B → (k ≤ w1.heap.size) → w9.heap[k]? = wr.heap[k]? := fun k hk hkB hk1 =>
    (hg.block k (by rw [hsz]; omega) (fun e => by rcases hob k e.symm with h | h <;> omega)).trans (Below.heap_alloc _ _ _ hk)
  refine ⟨⟨hg.os.trans hT.os, hg.tape.trans hT.tape, hg.output.trans hT.output, by have := hT.size; omega, fun k hk hn => (hblk k (by omega) (by omega) (by omega)).trans (hT.block k hk hn)⟩, by omega, ?_, fun g hg' => ?_⟩
  · rw [World.cell?_of_block (a := ⟨w1.heap.size, 1, none⟩) (hblk w1.heap.size hs (by omega) (Nat.le_refl _))]
    exact hq
  · rcases hat with h | h
    · rw [h] at hg'; exact hob g hg'
    · rw [h] at hg'
      cases hg'
      right
      rw [hsz]; omega

set_option maxHeartbeats 6400000 in
set_option maxRecDepth 100000 in
theorem impl_indicesWhere {lo hi c : Nat} {a : Option Addr} (l : List DAttribute) (hn : l.length ≤ 1048576) (w : World) (hhi : hi ≤ w.heap.size) (hs : Sl lo hi w 4 l.length (fun k => DAttribute.ct (l.getD k default)) a) :
    Calls Tryz.prog 92 #[.slice a l.length c, .func (.func 93) #[] #[]] w fun e w' => ∃ b d, e = .returned (.slice b (ixs l l.length).length d) ∧ Own w' (fun y => w.heap.size ≤ y ∧ y < w'.heap.size) (.sl 1 (ixs l l.length).length (fun k => ictI ((ixs l l.length).getD k default))) (.slice b (ixs l l.length).length d) ∧ Below w.heap.size w w' := by
  have HGO := Lib.hid (fun (w' : World) (v : Value) (K : List Int) (h : w'.ownsRow w.heap.size 3 1 v (K).length ((K).flatMap vIx)) => grown_own (ct := ictI) (by decide) vIx_len vIx_ct h)
  have HS := Lib.hid hs
  have HHI := Lib.hid hhi
  obtain ⟨i0, hi', hz0, hz1, hz2⟩ := info_parts info_int8
  clear hs hhi
  go_enter Tryz.func92, Tryz.ntmps92
  go_wp2
  go_loopw [5, 10] (fun v i wr => ∃ j : Nat, j ≤ l.length ∧ i = .int .i64 (j : Int) ∧ wr.ownsRow w.heap.size 3 1 v (ixs l j).length ((ixs l j).flatMap vIx) ∧ Below w.heap.size w wr) (fun _ i _ => l.length - (intOf i).toNat)
  case atStart => exact ⟨0, Nat.zero_le _, rfl, grown_nil, Below.refl _ _⟩
  case round =>
    obtain ⟨j, hj, rfl, hown, hbl⟩ := hrel
    have HO := Lib.hid hown
    have HBL := Lib.hid hbl
    have hsz1 : w.heap.size ≤ wr.heap.size := hbl.size
    have hlen : (ixs l j).length ≤ 1048576 := by have := ixs_len l j; omega
    clear hown hbl
    by_cases hlt : j < l.length
    · obtain ⟨b, off, rfl, _, hbh, hc⟩ := (HS.out.later HBL.out HHI.out).at j hlt
      obtain ⟨hc0, hc1, hc2, hc3⟩ := DAttribute.open hc
      have hbw : b < wr.heap.size := by have := HHI.out; omega
      have hjI : (0 : Int) ≤ (j : Int) ∧ (j : Int) < (l.length : Int) := by omega
      have HY := Lib.hid (fun (h : plB (l.getD j default).fMode = true) => ixs_yes h)
      have HN := Lib.hid (fun (h : plB (l.getD j default).fMode = false) => ixs_no h)
      clear hc
      generalize hx : l.getD j default = at1 at *
      generalize ixs l j = K at *
      clear hx
      have HP := Lib.hid (fun (W : World) => impl_isPlain at1 W)
      cases hB : plB at1.fMode
      · have HE := Lib.hid (HN.out hB)
        rw [hB] at HP
        clear hB HY HN
        generalize at1.fName = t0 at *
        generalize at1.fType = t1 at *
        generalize at1.fMode = t2 at *
        generalize at1.fCircular = t3 at *
        go_wp2_with fail
        refine (HP.out _).mono ?_
        rintro e w1 ⟨rfl, hb0⟩
        have hb1 : Below wr.heap.size wr w1 := (show Below wr.heap.size wr _ from (by repeat (first | (with_reducible exact hx) | (with_reducible exact Below.refl _ _) | (with_reducible apply Below.drew) | (with_reducible refine below_drewN ?_ _) | (refine Below.setCell ?_ (by first | omega | (simp <;> omega)) _) | (refine Below.alloc ?_ (by first | omega | (simp <;> omega)) _)))).trans (hb0.mono (Below.size (show Below wr.heap.size wr _ from (by repeat (first | (with_reducible exact hx) | (with_reducible exact Below.refl _ _) | (with_reducible apply Below.drew) | (with_reducible refine below_drewN ?_ _) | (refine Below.setCell ?_ (by first | omega | (simp <;> omega)) _) | (refine Below.alloc ?_ (by first | omega | (simp <;> omega)) _))))))
        have HO1 := Lib.hid (own_below2 HO.out hb1)
        have HBL1 := Lib.hid (HBL.out.trans (hb1.mono hsz1))
        have hszw := hb1.size
        clear hb0 hb1
        go_wp2
        go_roundw
        case rel => exact ⟨j + 1, by omega, by go_num, by rw [HE.out]; exact HO1.out, HBL1.out⟩
        case measure => simp [intOf]; omega
      · have HE := Lib.hid (HY.out hB)
        rw [hB] at HP
        clear hB HY HN
        generalize at1.fName = t0 at *
        generalize at1.fType = t1 at *
        generalize at1.fMode = t2 at *
        generalize at1.fCircular = t3 at *
        go_wp2_with fail
        refine (HP.out _).mono ?_
        rintro e w1 ⟨rfl, hb0⟩
        have hb1 : Below wr.heap.size wr w1 := (show Below wr.heap.size wr _ from (by repeat (first | (with_reducible exact hx) | (with_reducible exact Below.refl _ _) | (with_reducible apply Below.drew) | (with_reducible refine below_drewN ?_ _) | (refine Below.setCell ?_ (by first | omega | (simp <;> omega)) _) | (refine Below.alloc ?_ (by first | omega | (simp <;> omega)) _)))).trans (hb0.mono (Below.size (show Below wr.heap.size wr _ from (by repeat (first | (with_reducible exact hx) | (with_reducible exact Below.refl _ _) | (with_reducible apply Below.drew) | (with_reducible refine below_drewN ?_ _) | (refine Below.setCell ?_ (by first | omega | (simp <;> omega)) _) | (refine Below.alloc ?_ (by first | omega | (simp <;> omega)) _))))))
        have HO1 := Lib.hid (own_below2 HO.out hb1)
        have HBL1 := Lib.hid (HBL.out.trans (hb1.mono hsz1))
        have hszw := hb1.size
        clear hb0 hb1
        go_wp2_with (at_builtin; refine wpList_append_own _ rfl (.tmp 18) (.tmp 20) 33 rfl (w.heap.size) 3 i0 (.int .i64 0) 1 8 Tryz.underlying33 hi' hz0 hz1 hz2 rfl (by decide) _ _ _ rfl (HO1.out.alloc _) ⟨w1.heap.size, 0, none⟩ 1 1 [.int .i64 (j : Int)] rfl rfl (cell_one_new _ _ _) (by intro u hu; simp at hu; subst hu; rfl) (by unfold maxLen; omega) (by omega) (by simp <;> omega) ?_; intro v' w9 hown' hgrow hnil)
        have R1 := Lib.hid (grown_one (l := K) (x := (j : Int)) (vals := vIx) hown' rfl)
        rw [show K ++ [(j : Int)] = ixs l (j + 1) from HE.out.symm] at R1
        have R3 := Lib.hid (show Below w.heap.size w w9 from (HBL1.out.alloc (by omega) _).grown hgrow (by first | omega | (simp <;> omega)) (fun g hg => (HO1.out.lt g hg).1))
        clear hown' hgrow hnil
        go_wp2
        go_roundw
        case rel => exact ⟨j + 1, by omega, by go_num, R1.out, R3.out⟩
        case measure => simp [intOf]; omega
    · obtain rfl : j = l.length := by omega
      go_wp2
      go_ret
      obtain ⟨b, d, h1, h2⟩ := HGO.out _ _ _ HO.out
      exact ⟨b, d, congrArg Ending.returned h1, h2, HBL.out⟩

def vAtt (x : DAttribute) : List Value := [.string x.fName, .int .i64 x.fType, .int .i64 x.fMode, .bool x.fCircular]
theorem vAtt_len (x : DAttribute) : (vAtt x).length = 4 := rfl
theorem vAtt_ct (x : DAttribute) (c : Nat) (h : c < 4) : x.ct c = .lit ((vAtt x).getD c .nilFunc) := match c, h with | 0, _ => rfl | 1, _ => rfl | 2, _ => rfl | 3, _ => rfl
set_option maxHeartbeats 6400000 in
set_option maxRecDepth 100000 in
theorem impl_PlainAttributes {lo hi : Nat} {a0 a1 : Option Addr} {c0_0 c0_1 : Nat} (g : DGrammar) (_ : g.ok) (hsz : g.sz ≤ 1048576) (nm : ByteArray) (_ : okS nm) (_ : nm.size ≤ 1048576) (w : World) (hhi : hi ≤ w.heap.size) (hs : Sl lo hi w 2 g.fSymbols.length (fun k => DSymbol.ct (g.fSymbols.getD k default)) a0) (_ : Sl lo hi w 6 g.fRules.length (fun k => DRule.ct (g.fRules.getD k default)) a1) :
    Calls Tryz.prog 65 #[.agg #[.slice a0 g.fSymbols.length c0_0, .slice a1 g.fRules.length c0_1], .string nm] w fun e w' => ∃ a c, e = .returned (.slice a (plainS g nm).length c) ∧ Own w' (fun z => w.heap.size ≤ z ∧ z < w'.heap.size) (.sl 4 (plainS g nm).length (fun k => DAttribute.ct ((plainS g nm).getD k default))) (.slice a (plainS g nm).length c) ∧ Below w.heap.size w w' := by
  have hzs : lsz DSymbol.sz g.fSymbols ≤ 1048576 := by unfold DGrammar.sz at hsz; omega
  have HSL := Lib.hid (sym_len hzs nm)
  have HZS := Lib.hid hzs
  have HRES := Lib.hid (show plainS g nm = plainL (symS g.fSymbols nm).fAttributes from rfl)
  have HB := Lib.hid ((Below.refl w.heap.size w).alloc (Nat.le_refl _) (.cells #[.slice a0 g.fSymbols.length c0_0, .slice a1 g.fRules.length c0_1] 40))
  have HSY := Lib.hid (hs.later HB.out hhi)
  have HHI := Lib.hid (Nat.le_trans hhi HB.out.size)
  have HHI0 := Lib.hid hhi
  obtain ⟨i0, hi', hz0, hz1, hz2⟩ := info_parts info_Attribute
  clear hs hsz hhi hzs
  go_enter Tryz.func65, Tryz.ntmps65
  go_wp2_with fail
  refine (impl_symbolNamed (c0 := c0_0) (c1 := c0_1) (a1 := a1) (n1 := g.fRules.length) g.fSymbols HZS.out nm _ HHI.out HSY.out).mono ?_
  rintro e w1 ⟨⟨a9, c9, rfl, hs9⟩, hb1⟩
  have HB1 := Lib.hid (HB.out.trans (hb1.mono HB.out.size))
  have hsz1 : w.heap.size + 1 ≤ w1.heap.size := by have := hb1.size; simp at this; omega
  have HH1 := Lib.hid (Nat.le_trans HHI.out hb1.size)
  have HS1 := Lib.hid hs9
  clear hb1 hs9
  generalize (symS g.fSymbols nm) = s at *
  go_wp2_with fail
  refine (impl_indicesWhere (c := c9) s.fAttributes HSL.out _ (Nat.le_trans HH1.out (Below.size (show Below w1.heap.size w1 _ from (by repeat (first | (with_reducible exact hx) | (with_reducible exact Below.refl _ _) | (with_reducible apply Below.drew) | (with_reducible refine below_drewN ?_ _) | (refine Below.setCell ?_ (by first | omega | (simp <;> omega)) _) | (refine Below.alloc ?_ (by first | omega | (simp <;> omega)) _)))))) (HS1.out.later (show Below w1.heap.size w1 _ from (by repeat (first | (with_reducible exact hx) | (with_reducible exact Below.refl _ _) | (with_reducible apply Below.drew) | (with_reducible refine below_drewN ?_ _) | (refine Below.setCell ?_ (by first | omega | (simp <;> omega)) _) | (refine Below.alloc ?_ (by first | omega | (simp <;> omega)) _)))) HH1.out)).mono ?_
  rintro e w2 ⟨bi, di, rfl, hoi, hb2⟩
  have hst2 : Below w1.heap.size w1 w2 := (show Below w1.heap.size w1 _ from (by repeat (first | (with_reducible exact hx) | (with_reducible exact Below.refl _ _) | (with_reducible apply Below.drew) | (with_reducible refine below_drewN ?_ _) | (refine Below.setCell ?_ (by first | omega | (simp <;> omega)) _) | (refine Below.alloc ?_ (by first | omega | (simp <;> omega)) _)))).trans (hb2.mono (Below.size (show Below w1.heap.size w1 _ from (by repeat (first | (with_reducible exact hx) | (with_reducible exact Below.refl _ _) | (with_reducible apply Below.drew) | (with_reducible refine below_drewN ?_ _) | (refine Below.setCell ?_ (by first | omega | (simp <;> omega)) _) | (refine Below.alloc ?_ (by first | omega | (simp <;> omega)) _))))))
  have hlv : w1.heap.size < w2.heap.size := Nat.lt_of_lt_of_le (by first | (simp; done) | (simp [World.setCell]; done)) hb2.size
  have s0 : w2.cell? ⟨w1.heap.size, 0, none⟩ = some (.string s.fName) := (hb2.cell (p := ⟨w1.heap.size, 0, none⟩) (by first | (simp; done) | (simp [World.setCell]; done))).trans (by go_simp)
  have s1 : w2.cell? ⟨w1.heap.size, 1, none⟩ = some (.slice a9 s.fAttributes.length c9) := (hb2.cell (p := ⟨w1.heap.size, 1, none⟩) (by first | (simp; done) | (simp [World.setCell]; done))).trans (by go_simp)
  have HC1 := Lib.hid s1
  have HSA := Lib.hid (HS1.out.later hst2 HH1.out)
  have HIX := Lib.hid (Sl.of (hoi.lies (lo := 0) (hi := w2.heap.size) (fun y hy => ⟨Nat.zero_le _, hy.2⟩)))
  have HB2 := Lib.hid (HB1.out.trans (hst2.mono (by omega)))
  have HMEM := Lib.hid (ixs_mem s.fAttributes s.fAttributes.length)
  have hil : (ixs s.fAttributes s.fAttributes.length).length ≤ 1048576 := by have h1 := ixs_len s.fAttributes s.fAttributes.length; have h2 := HSL.out; omega
  have HPL := Lib.hid (show plainL s.fAttributes = (ixs s.fAttributes s.fAttributes.length).map (atI s.fAttributes) from rfl)
  have hsz2 := hst2.size
  have HH2 := Lib.hid (Nat.le_trans HH1.out hst2.size)
  have hsl := HSL.out
  clear hb2 hst2 hoi s0 s1
  generalize ixs s.fAttributes s.fAttributes.length = I at *
  generalize s.fAttributes = l at *
  go_wp2
  go_loopw [7, 20] (fun v i wr => ∃ j : Nat, j ≤ I.length ∧ i = .int .i64 (j : Int) ∧ wr.ownsRow w2.heap.size 106 4 v ((I.take j).map (atI l)).length (((I.take j).map (atI l)).flatMap vAtt) ∧ Below w2.heap.size w2 wr) (fun _ i _ => I.length - (intOf i).toNat)
  case atStart => exact ⟨0, Nat.zero_le _, rfl, grown_nil, Below.refl _ _⟩
  case round =>
    obtain ⟨j, hj, rfl, hown, hbl⟩ := hrel
    have HO := Lib.hid hown
    have HBL := Lib.hid hbl
    have hszr : w2.heap.size ≤ wr.heap.size := hbl.size
    have hlen : ((I.take j).map (atI l)).length ≤ 1048576 := by rw [List.length_map, List.length_take]; omega
    have q1 : wr.cell? ⟨w1.heap.size, 1, none⟩ = some (.slice a9 l.length c9) := (hbl.cell (p := ⟨w1.heap.size, 1, none⟩) hlv).trans HC1.out
    have hkv : w1.heap.size < wr.heap.size := by omega
    clear hown hbl
    by_cases hlt : j < I.length
    · obtain ⟨b, off, rfl, _, hbh, hc⟩ := (HIX.out.later HBL.out (Nat.le_refl _)).at j hlt
      obtain ⟨u, hcu, hlu⟩ := hc 0 (by decide)
      have hcu2 : wr.cell? ⟨b, off + j, none⟩ = some (.int .i64 (I.getD j default)) := by rw [← lies_lit hlu]; simpa using hcu
      have hbw : b < wr.heap.size := by omega
      have hjI : (0 : Int) ≤ (j : Int) ∧ (j : Int) < (I.length : Int) := by omega
      have hm := HMEM.out (I.getD j default) (by rw [List.getD_eq_getElem?_getD, List.getElem?_eq_getElem hlt]; exact List.getElem_mem hlt)
      have HST := Lib.hid (show (I.take (j + 1)).map (atI l) = (I.take j).map (atI l) ++ [atI l (I.getD j default)] from by rw [take_snoc hlt, List.map_append]; rfl)
      clear hc hcu hlu
      generalize I.getD j default = z at *
      obtain ⟨q, rfl⟩ : ∃ q : Nat, z = (q : Int) := ⟨z.toNat, by omega⟩
      have hq : q < l.length := by omega
      have hqI : (0 : Int) ≤ (q : Int) ∧ (q : Int) < (l.length : Int) := hm
      obtain ⟨b2, off2, rfl, _, hbh2, hd⟩ := (HSA.out.later HBL.out HH2.out).at q hq
      obtain ⟨hd0, hd1, hd2, hd3⟩ := DAttribute.open hd
      have hbw2 : b2 < wr.heap.size := by have := HH2.out; omega
      rw [show atI l (q : Int) = l.getD q default from rfl] at HST
      clear hd hm
      generalize (I.take j).map (atI l) = K at *
      generalize hy : l.getD q default = at1 at *
      clear hy
      obtain ⟨t0, t1, t2, t3⟩ := at1
      dsimp only at hd0 hd1 hd2 hd3
      go_wp2_with (at_builtin; refine wpList_append_own _ rfl (.tmp 24) (.tmp 30) 102 rfl (w2.heap.size) 106 i0 (.agg #[.string ⟨#[]⟩, .int .i64 0, .int .i64 0, .bool false]) 4 40 Tryz.underlying102 hi' hz0 hz1 hz2 rfl (by decide) _ _ _ rfl (HO.out.alloc _) ⟨wr.heap.size, 0, none⟩ 1 1 [.string t0, .int .i64 t1, .int .i64 t2, .bool t3] rfl rfl (by intro q u hu; rcases q with _ | _ | _ | _ | q <;> simp at hu <;> subst hu <;> first | (go_simp; done) | exact (cell_of_row _ _ _ _ _ _ (blk_new (by simp))).trans rfl) (by intro u hu; simp at hu; rcases hu with rfl | rfl | rfl | rfl <;> rfl) (by unfold maxLen; omega) (by omega) (by simp <;> omega) ?_; intro v' w9 hown' hgrow hnil)
      have R1 := Lib.hid (grown_one (l := K) (x := (⟨t0, t1, t2, t3⟩ : DAttribute)) (vals := vAtt) hown' rfl)
      rw [show K ++ [(⟨t0, t1, t2, t3⟩ : DAttribute)] = (I.take (j + 1)).map (atI l) from HST.out.symm] at R1
      have R3 := Lib.hid (show Below w2.heap.size w2 w9 from (HBL.out.alloc (by omega) _).grown hgrow (by first | omega | (simp <;> omega)) (fun g hg => (HO.out.lt g hg).1))
      clear hown' hgrow hnil
      go_wp2
      go_roundw
      case rel => exact ⟨j + 1, by omega, by go_num, R1.out, R3.out⟩
      case measure => simp [intOf]; omega
    · obtain rfl : j = I.length := by omega
      go_wp2
      go_ret
      have ho := HO.out
      rw [List.take_length, ← HPL.out] at ho
      obtain ⟨a, c, h1, h2⟩ := grown_own (ct := DAttribute.ct) (by decide) vAtt_len vAtt_ct ho
      rw [HRES.out]
      exact ⟨a, c, congrArg Ending.returned h1, h2.sub fun z hz => ⟨by omega, hz.2⟩, HB2.out.trans (HBL.out.mono (by omega))⟩

set_option maxHeartbeats 6400000 in
set_option maxRecDepth 100000 in
theorem spec_PlainAttributes {lo hi : Nat} {a0 a1 : Option Addr} {c0_0 c0_1 : Nat} (g : DGrammar) (_ : g.ok) (hsz : g.sz ≤ 1048576) (nm : ByteArray) (_ : okS nm) (_ : nm.size ≤ 1048576) (w : World) (hhi : hi ≤ w.heap.size) (hs : Sl lo hi w 2 g.fSymbols.length (fun k => DSymbol.ct (g.fSymbols.getD k default)) a0) (_ : Sl lo hi w 6 g.fRules.length (fun k => DRule.ct (g.fRules.getD k default)) a1) :
    Calls Tryz.prog 55 #[.agg #[.slice a0 g.fSymbols.length c0_0, .slice a1 g.fRules.length c0_1], .string nm] w fun e w' => ∃ a c, e = .returned (.slice a (plainS g nm).length c) ∧ Own w' (fun z => w.heap.size ≤ z ∧ z < w'.heap.size) (.sl 4 (plainS g nm).length (fun k => DAttribute.ct ((plainS g nm).getD k default))) (.slice a (plainS g nm).length c) ∧ Below w.heap.size w w' := by
  have hzs : lsz DSymbol.sz g.fSymbols ≤ 1048576 := by unfold DGrammar.sz at hsz; omega
  have HSL := Lib.hid (sym_len hzs nm)
  have HZS := Lib.hid hzs
  have HRES := Lib.hid (show plainS g nm = plainL (symS g.fSymbols nm).fAttributes from rfl)
  have HB := Lib.hid ((Below.refl w.heap.size w).alloc (Nat.le_refl _) (.cells #[.slice a0 g.fSymbols.length c0_0, .slice a1 g.fRules.length c0_1] 40))
  have HSY := Lib.hid (hs.later HB.out hhi)
  have HHI := Lib.hid (Nat.le_trans hhi HB.out.size)
  have HHI0 := Lib.hid hhi
  obtain ⟨i0, hi', hz0, hz1, hz2⟩ := info_parts info_Attribute
  clear hs hsz hhi hzs
  go_enter Tryz.func55, Tryz.ntmps55
  go_wp2_with fail
  refine (spec_FindSymbolO (c0 := c0_0) (c1 := c0_1) (a1 := a1) (n1 := g.fRules.length) g.fSymbols HZS.out nm _ (Nat.le_trans HHI.out (Below.size (show Below (w.alloc (.cells #[.slice a0 g.fSymbols.length c0_0, .slice a1 g.fRules.length c0_1] 40)).heap.size (w.alloc (.cells #[.slice a0 g.fSymbols.length c0_0, .slice a1 g.fRules.length c0_1] 40)) _ from (by repeat (first | (with_reducible exact hx) | (with_reducible exact Below.refl _ _) | (with_reducible apply Below.drew) | (with_reducible refine below_drewN ?_ _) | (refine Below.setCell ?_ (by first | omega | (simp <;> omega)) _) | (refine Below.alloc ?_ (by first | omega | (simp <;> omega)) _)))))) (HSY.out.later (show Below (w.alloc (.cells #[.slice a0 g.fSymbols.length c0_0, .slice a1 g.fRules.length c0_1] 40)).heap.size (w.alloc (.cells #[.slice a0 g.fSymbols.length c0_0, .slice a1 g.fRules.length c0_1] 40)) _ from (by repeat (first | (with_reducible exact hx) | (with_reducible exact Below.refl _ _) | (with_reducible apply Below.drew) | (with_reducible refine below_drewN ?_ _) | (refine Below.setCell ?_ (by first | omega | (simp <;> omega)) _) | (refine Below.alloc ?_ (by first | omega | (simp <;> omega)) _)))) HHI.out)).mono ?_
  rintro e w1 ⟨⟨a9, c9, rfl, ho9⟩, hb1⟩
  have HB1 := Lib.hid ((HB.out.trans (show Below w.heap.size (w.alloc (.cells #[.slice a0 g.fSymbols.length c0_0, .slice a1 g.fRules.length c0_1] 40)) _ from (by repeat (first | (with_reducible exact hx) | (with_reducible exact Below.refl _ _) | (with_reducible apply Below.drew) | (with_reducible refine below_drewN ?_ _) | (refine Below.setCell ?_ (by first | omega | (simp <;> omega)) _) | (refine Below.alloc ?_ (by first | omega | (simp <;> omega)) _))))).trans (hb1.mono (by simp; omega)))
  have hsz1 : w.heap.size + 2 ≤ w1.heap.size := by have := hb1.size; simp at this; omega
  have HO1 := Lib.hid (own_below2 (show ((w.alloc (.cells #[.slice a0 g.fSymbols.length c0_0, .slice a1 g.fRules.length c0_1] 40)).alloc (.cells #[] 106)).ownsRow (w.heap.size + 1) 106 4 (.slice (some ⟨w.heap.size + 1, 0, none⟩) 0 0) (([] : List DAttribute)).length ((([] : List DAttribute)).flatMap vAtt) from by have h := (grown_made (w := (w.alloc (.cells #[.slice a0 g.fSymbols.length c0_0, .slice a1 g.fRules.length c0_1] 40))) (e := 106) (n := 4) (vals := vAtt)); simpa using h) hb1)
  have HSA := Lib.hid (show Sl (w.heap.size + 2) w1.heap.size w1 4 (symS g.fSymbols nm).fAttributes.length (fun k => DAttribute.ct ((symS g.fSymbols nm).fAttributes.getD k default)) a9 from Sl.of (ho9.lies (fun y hy => ⟨by have h1 := hy.1; simp at h1; omega, hy.2⟩)))
  clear hb1 ho9
  generalize (symS g.fSymbols nm) = s at *
  have hsl := HSL.out
  have hpk := fun k => plK_len s.fAttributes k
  have HPK := Lib.hid hpk
  have HYES := Lib.hid (fun (k : Nat) (h : plB (s.fAttributes.getD k default).fMode = true) => plK_yes h)
  have HNO := Lib.hid (fun (k : Nat) (h : plB (s.fAttributes.getD k default).fMode = false) => plK_no h)
  have HPL := Lib.hid (show plainL s.fAttributes = plK s.fAttributes s.fAttributes.length from rfl)
  have HZ0 := Lib.hid (show plK s.fAttributes 0 = [] from rfl)
  clear hpk
  generalize plK s.fAttributes = pk at *
  generalize s.fAttributes = l at *
  go_wp2
  go_loopw [5, 8] (fun v i wr => ∃ j : Nat, j ≤ l.length ∧ i = .int .i64 (j : Int) ∧ wr.ownsRow (w.heap.size + 1) 106 4 v (pk j).length ((pk j).flatMap vAtt) ∧ PInv (w.heap.size + 1) w1 (.slice a9 l.length c9) v wr) (fun _ i _ => l.length - (intOf i).toNat)
  case atStart =>
    refine ⟨0, Nat.zero_le _, rfl, ?_, ?_, ?_, ?_, ?_⟩
    · rw [HZ0.out]; exact own_below2 HO1.out (by repeat (first | (with_reducible exact hx) | (with_reducible exact Below.refl _ _) | (with_reducible apply Below.drew) | (with_reducible refine below_drewN ?_ _) | (refine Below.setCell ?_ (by first | omega | (simp <;> omega)) _) | (refine Below.alloc ?_ (by first | omega | (simp <;> omega)) _)))
    · exact touches_of_below (by repeat (first | (with_reducible exact hx) | (with_reducible exact Below.refl _ _) | (with_reducible apply Below.drew) | (with_reducible refine below_drewN ?_ _) | (refine Below.setCell ?_ (by first | omega | (simp <;> omega)) _) | (refine Below.alloc ?_ (by first | omega | (simp <;> omega)) _)))
    · first | (simp; done) | (simp [World.setCell]; done)
    · go_simp
    · intro q hq; left; cases hq; rfl
  case round =>
    obtain ⟨j, hj, rfl, hown, hinv⟩ := hrel
    have HO := Lib.hid hown
    have HI := Lib.hid hinv
    have hkv : w1.heap.size < wr.heap.size := hinv.2.1
    have q1 : wr.cell? ⟨w1.heap.size, 1, none⟩ = some (.slice a9 l.length c9) := hinv.2.2.1
    have hlen : (pk j).length ≤ 1048576 := by have h1 := HPK.out j; omega
    have hT := hinv.1
    have HAT := Lib.hid (sl_kept (F := fun b => w.heap.size + 2 ≤ b ∧ b < w1.heap.size) HSA.out ⟨hT.size, fun b hF hb => hT.block b hb (by omega)⟩ (fun b h1 h2 => ⟨h1, h2⟩) (Nat.le_refl _))
    clear hown hinv hT
    by_cases hlt : j < l.length
    · obtain ⟨b, off, rfl, hbl2, hbh, hc⟩ := HAT.out.at j hlt
      obtain ⟨hd0, hd1, hd2, hd3⟩ := DAttribute.open hc
      have hbw2 : b < wr.heap.size := by omega
      have hjI : (0 : Int) ≤ (j : Int) ∧ (j : Int) < (l.length : Int) := by omega
      have HY := Lib.hid (HYES.out j)
      have HN := Lib.hid (HNO.out j)
      clear hc
      generalize hpj : pk j = K at *
      generalize hpj1 : pk (j + 1) = K1 at *
      have HPJ1 := Lib.hid hpj1
      clear hpj hpj1
      generalize hy : l.getD j default = at1 at *
      clear hy
      obtain ⟨t0, t1, t2, t3⟩ := at1
      dsimp only at hd0 hd1 hd2 hd3
      by_cases h1 : t2 = 1
      · have HE := Lib.hid (HY.out (plB_1 h1))
        have hd : (t2 == 1) = true := by rw [h1]; rfl
        clear h1 HY HN
        go_wp2_with (at_builtin; refine wpList_append_own_at _ rfl (.tmp 39) (.tmp 45) 102 rfl (w.heap.size + 1) 106 i0 (.agg #[.string ⟨#[]⟩, .int .i64 0, .int .i64 0, .bool false]) 4 40 Tryz.underlying102 hi' hz0 hz1 hz2 rfl (by decide) _ _ _ rfl (HO.out.alloc _) ⟨wr.heap.size, 0, none⟩ 1 1 [.string t0, .int .i64 t1, .int .i64 t2, .bool t3] rfl rfl (by intro q u hu; rcases q with _ | _ | _ | _ | q <;> simp at hu <;> subst hu <;> first | (go_simp; done) | exact (cell_of_row _ _ _ _ _ _ (blk_new (by simp))).trans rfl) (by intro u hu; simp at hu; rcases hu with rfl | rfl | rfl | rfl <;> rfl) (by unfold maxLen; omega) (by omega) (by simp <;> omega) ?_; intro v' w9 hown' hgrow hnil hat)
        have R1 := Lib.hid (grown_one (l := K) (x := (⟨t0, t1, t2, t3⟩ : DAttribute)) (vals := vAtt) hown' rfl)
        rw [show K ++ [(⟨t0, t1, t2, t3⟩ : DAttribute)] = K1 from HE.out.symm] at R1
        have R3 := Lib.hid (HI.out.next (by omega) hgrow hat)
        clear hown' hgrow hnil hat
        go_wp2
        go_roundw
        case rel => exact ⟨j + 1, by omega, by go_num, by rw [HPJ1.out]; exact R1.out, R3.out⟩
        case measure => simp [intOf]; omega
      · have hd1 : (t2 == 1) = false := by simpa using h1
        by_cases h2 : t2 = 2
        · have HE := Lib.hid (HY.out (plB_2 h2))
          have hdd : (t2 == 2) = true := by rw [h2]; rfl
          clear h1 h2 HY HN
          go_wp2_with (at_builtin; refine wpList_append_own_at _ rfl (.tmp 39) (.tmp 45) 102 rfl (w.heap.size + 1) 106 i0 (.agg #[.string ⟨#[]⟩, .int .i64 0, .int .i64 0, .bool false]) 4 40 Tryz.underlying102 hi' hz0 hz1 hz2 rfl (by decide) _ _ _ rfl (HO.out.alloc _) ⟨wr.heap.size, 0, none⟩ 1 1 [.string t0, .int .i64 t1, .int .i64 t2, .bool t3] rfl rfl (by intro q u hu; rcases q with _ | _ | _ | _ | q <;> simp at hu <;> subst hu <;> first | (go_simp; done) | exact (cell_of_row _ _ _ _ _ _ (blk_new (by simp))).trans rfl) (by intro u hu; simp at hu; rcases hu with rfl | rfl | rfl | rfl <;> rfl) (by unfold maxLen; omega) (by omega) (by simp <;> omega) ?_; intro v' w9 hown' hgrow hnil hat)
          have R1 := Lib.hid (grown_one (l := K) (x := (⟨t0, t1, t2, t3⟩ : DAttribute)) (vals := vAtt) hown' rfl)
          rw [show K ++ [(⟨t0, t1, t2, t3⟩ : DAttribute)] = K1 from HE.out.symm] at R1
          have R3 := Lib.hid (HI.out.next (by omega) hgrow hat)
          clear hown' hgrow hnil hat
          go_wp2
          go_roundw
          case rel => exact ⟨j + 1, by omega, by go_num, by rw [HPJ1.out]; exact R1.out, R3.out⟩
          case measure => simp [intOf]; omega
        · have HE := Lib.hid (HN.out (plB_0 h1 h2))
          have hdd : (t2 == 2) = false := by simpa using h2
          clear h1 h2 HY HN
          go_wp2
          go_roundw
          case rel => exact ⟨j + 1, by omega, by go_num, by rw [HPJ1.out, HE.out]; exact HO.out, HI.out⟩
          case measure => simp [intOf]; omega
    · obtain rfl : j = l.length := by omega
      go_wp2
      go_ret
      have ho := HO.out
      rw [← HPL.out] at ho
      obtain ⟨a, c, h1, h2⟩ := grown_own (ct := DAttribute.ct) (by decide) vAtt_len vAtt_ct ho
      rw [HRES.out]
      exact ⟨a, c, congrArg Ending.returned h1, h2.sub fun z hz => ⟨by omega, hz.2⟩, below_touches HB1.out HI.out.1 (by omega) (by omega)⟩
end Go.Proofs.YtnmepemmpeboeaaGreat
