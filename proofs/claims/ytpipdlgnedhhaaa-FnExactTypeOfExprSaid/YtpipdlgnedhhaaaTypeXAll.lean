/-
  The first index of an element that meets a test, as a number.
  slices.Clone over a list of Attribute.
  The symbol of a name: symbolNamed of the program, FindSymbol of the model.
  append(s, list...) inside a region that draws its order.
  The model's copy of a symbol.
  The program's copy of a symbol.
  FindSymbol, in the model and in the program, the answer in memory of its own.
  SymbolAt, in the model and in the program.
  FindAttribute, in the model and in the program.
  MayUse of the model and of the program.
  TypeOfExpr: what it computes, and the program's side.
-/
import Derived.Test.YtpipdlgnedhhaaaTSz
import Derived.Test.YtpipdlgnedhhaaaSpread
import Derived.Lib.SlicesS
import Derived.Test.YtpipdlgnedhhaaaTAttribute
import Derived.WalkSpells
import Derived.WalkSmall
import Derived.WalkLawsBesides
import Derived.SliceStrings
import Derived.Deep.QuietTactic
import Derived.Deep.RegionWith
import Derived.BigQuiet
import Derived.Outline
import Derived.Laws.Rows
import Derived.Test.YtpipdlgnedhhaaaTGrammar
import Derived.Deep.RegionLaw
import Derived.Deep.AppendLies
import Derived.Lib.Strings
import Derived.Test.YtpipdlgnedhhaaaTSymbol
import Derived.Test.YtpipdlgnedhhaaaTRule
import Derived.Test.YtpipdlgnedhhaaaInR
import Derived.Test.YtpipdlgnedhhaaaFree
import Derived.Test.YtpipdlgnedhhaaaTyping
import Derived.Test.YtpipdlgnedhhaaaApply
import Derived.Test.YtpipdlgnedhhaaaFreeA
namespace Go.Proofs.Ytpipdlgnedhhaaa
open Go.ChangeShapes Go.WideShapes Go.ChangeAt Go.RowKit Go.Deep


/-- The first index at which p holds, -1 if there is none. -/
def idxI {α : Type} (p : α → Bool) (l : List α) : Int := match l.findIdx? p with | some k => (k : Int) | none => -1
theorem idxI_none {α : Type} [Inhabited α] {p : α → Bool} {l : List α} (h : ∀ i, i < l.length → p (l.getD i default) = false) : idxI p l = -1 := by
  unfold idxI
  have : l.findIdx? p = none := by
    rw [List.findIdx?_eq_none_iff]
    intro x hx
    obtain ⟨i, hi, rfl⟩ := List.getElem_of_mem hx
    have := h i hi
    rw [List.getD_eq_getElem?_getD, List.getElem?_eq_getElem hi] at this
    simpa using this
  rw [this]
theorem idxI_at {α : Type} [Inhabited α] {p : α → Bool} {l : List α} {k : Nat} (hk : k < l.length) (hp : p (l.getD k default) = true) (h : ∀ i, i < k → p (l.getD i default) = false) : idxI p l = k := by
  unfold idxI
  have : l.findIdx? p = some k := by
    rw [List.findIdx?_eq_some_iff_getElem]
    refine ⟨hk, ?_, fun i hi => ?_⟩
    · rw [List.getD_eq_getElem?_getD, List.getElem?_eq_getElem hk] at hp; simpa using hp
    · have := h i hi
      rw [List.getD_eq_getElem?_getD, List.getElem?_eq_getElem (by omega)] at this
      simpa using this
  rw [this]
/-- No index below k meets the test. -/
def noneBelow {α : Type} [Inhabited α] (p : α → Bool) (l : List α) (k : Nat) : Prop := ∀ i, i < k → p (l.getD i default) = false
theorem noneBelow_zero {α : Type} [Inhabited α] (p : α → Bool) (l : List α) : noneBelow p l 0 := fun _ h => absurd h (Nat.not_lt_zero _)
theorem noneBelow_succ {α : Type} [Inhabited α] {p : α → Bool} {l : List α} {k : Nat} (h : noneBelow p l k) (hp : p (l.getD k default) = false) : noneBelow p l (k + 1) := by
  intro i hi
  by_cases hik : i = k
  · subst hik; exact hp
  · exact h i (by omega)

end Go.Proofs.Ytpipdlgnedhhaaa

namespace Go.Proofs.Ytpipdlgnedhhaaa
open Go.ChangeShapes Go.WideShapes Go.ChangeAt Go.RowKit Go.Deep


def vAttribute (x : DAttribute) : List Value := [.string x.fName, .int .i64 x.fType, .int .i64 x.fMode, .bool x.fCircular]
theorem vAttribute_len (x : DAttribute) : (vAttribute x).length = 4 := rfl
theorem vAttribute_ct (x : DAttribute) (c : Nat) (h : c < 4) : x.ct c = .lit ((vAttribute x).getD c .nilFunc) := match c, h with | 0, _ => rfl | 1, _ => rfl | 2, _ => rfl | 3, _ => rfl
theorem vAttribute_one (x : DAttribute) : ∀ u ∈ vAttribute x, u.oneCell' = true := by
  intro u hu
  simp only [vAttribute, List.mem_cons, List.not_mem_nil, or_false] at hu
  rcases hu with rfl | rfl | rfl | rfl <;> rfl

end Go.Proofs.Ytpipdlgnedhhaaa

namespace Go.Proofs.Ytpipdlgnedhhaaa
open Go.ChangeShapes Go.WideShapes Go.ChangeAt Go.RowKit Go.Deep


theorem toList_inj9 {x y : ByteArray} (h : x.toList = y.toList) : x = y := by
  rw [Lib.toList_data, Lib.toList_data] at h
  cases x; cases y
  simp only at h
  rw [ByteArray.mk.injEq]
  exact Array.toList_inj.1 h
def PSym (nm : ByteArray) (y : DSymbol) : Bool := y.fName.toList == nm.toList
theorem PSym_yes {nm : ByteArray} {y : DSymbol} (h : y.fName = nm) : PSym nm y = true := by unfold PSym; rw [h]; simp
theorem PSym_no {nm : ByteArray} {y : DSymbol} (h : y.fName ≠ nm) : PSym nm y = false := beq_eq_false_iff_ne.2 (fun e => h (toList_inj9 e))
def noSym : DSymbol := ⟨⟨#[]⟩, []⟩
/-- The first symbol of the name. -/
def symS (l : List DSymbol) (nm : ByteArray) : DSymbol := if 0 ≤ idxI (PSym nm) l then l.getD (idxI (PSym nm) l).toNat default else noSym
def symB (l : List DSymbol) (nm : ByteArray) : Bool := decide (0 ≤ idxI (PSym nm) l)
theorem symS_at {l : List DSymbol} {nm : ByteArray} {k : Nat} (h : idxI (PSym nm) l = k) : symS l nm = l.getD k default := by unfold symS; rw [h, if_pos (by omega), Int.toNat_natCast]
theorem symB_at {l : List DSymbol} {nm : ByteArray} {k : Nat} (h : idxI (PSym nm) l = k) : symB l nm = true := by unfold symB; rw [h]; exact decide_eq_true (by omega)
theorem symS_none {l : List DSymbol} {nm : ByteArray} (h : idxI (PSym nm) l = -1) : symS l nm = noSym := by unfold symS; rw [h, if_neg (by omega)]
theorem symB_none {l : List DSymbol} {nm : ByteArray} (h : idxI (PSym nm) l = -1) : symB l nm = false := by unfold symB; rw [h]; exact decide_eq_false (by omega)
theorem sym_attrs {l : List DSymbol} (h : lsz DSymbol.sz l ≤ 1048576) {k : Nat} (hk : k < l.length) : (l.getD k default).fAttributes.length ≤ 1048576 := by
  have h1 := szle_at (f := DSymbol.sz) l k hk
  have h2 : (l.getD k default).fAttributes.length ≤ DSymbol.sz (l.getD k default) := by
    unfold DSymbol.sz lsz
    omega
  omega
theorem sym_len {l : List DSymbol} (h : lsz DSymbol.sz l ≤ 1048576) (nm : ByteArray) : (symS l nm).fAttributes.length ≤ 1048576 := by
  by_cases h0 : 0 ≤ idxI (PSym nm) l
  · obtain ⟨k, hk⟩ : ∃ k : Nat, idxI (PSym nm) l = k := ⟨(idxI (PSym nm) l).toNat, by omega⟩
    rw [symS_at hk]
    by_cases hl : k < l.length
    · exact sym_attrs h hl
    · rw [List.getD_eq_getElem?_getD, List.getElem?_eq_none (by omega)]
      exact Nat.zero_le _
  · unfold symS
    rw [if_neg h0]
    exact Nat.zero_le _
/-- A symbol s that a call hands out, its attributes in blocks of its own from B on. -/
def SymOwn (B : Nat) (s : DSymbol) (b : Bool) (w' : World) (e : Ending) : Prop :=
  ∃ a c, e = .returned (.tuple #[.agg #[.string s.fName, .slice a s.fAttributes.length c], .bool b]) ∧ Own w' (fun y => B ≤ y ∧ y < w'.heap.size) (.sl 4 s.fAttributes.length (fun k => DAttribute.ct (s.fAttributes.getD k default))) (.slice a s.fAttributes.length c)
/-- A symbol s that a call hands out, with its attributes in the blocks up to hi. -/
def SymOut (lo hi : Nat) (s : DSymbol) (b : Bool) (w' : World) (e : Ending) : Prop :=
  ∃ a c, e = .returned (.tuple #[.agg #[.string s.fName, .slice a s.fAttributes.length c], .bool b]) ∧ Sl lo hi w' 4 s.fAttributes.length (fun k => DAttribute.ct (s.fAttributes.getD k default)) a

set_option maxHeartbeats 6400000 in
set_option maxRecDepth 100000 in
theorem impl_symbolNamed {lo hi n1 c0 c1 : Nat} {a0 a1 : Option Addr} (l : List DSymbol) (hz : lsz DSymbol.sz l ≤ 1048576) (nm : ByteArray) (w : World) (hhi : hi ≤ w.heap.size) (hs : Sl lo hi w 2 l.length (fun k => DSymbol.ct (l.getD k default)) a0) :
    Calls Try.prog 72 #[.agg #[.slice a0 l.length c0, .slice a1 n1 c1], .string nm] w fun e w' => SymOut lo hi (symS l nm) (symB l nm) w' e ∧ Below w.heap.size w w' := by
  have hn : l.length ≤ 1048576 := by unfold lsz at hz; omega
  have HB := Lib.hid (((Below.refl w.heap.size w).alloc (Nat.le_refl _) (.cells #[.slice a0 l.length c0, .slice a1 n1 c1] 41)).alloc (by simp <;> omega) (.cells #[.string ⟨#[]⟩, .slice none 0 0] 104))
  have HSZ := Lib.hid (show ((w.alloc (.cells #[.slice a0 l.length c0, .slice a1 n1 c1] 41)).alloc (.cells #[.string ⟨#[]⟩, .slice none 0 0] 104)).heap.size = w.heap.size + 2 by simp)
  have HE := Lib.hid (show Below (w.heap.size + 2) ((w.alloc (.cells #[.slice a0 l.length c0, .slice a1 n1 c1] 41)).alloc (.cells #[.string ⟨#[]⟩, .slice none 0 0] 104)) ((w.alloc (.cells #[.slice a0 l.length c0, .slice a1 n1 c1] 41)).alloc (.cells #[.string ⟨#[]⟩, .slice none 0 0] 104)) from Below.refl _ _)
  have HX := Lib.hid (show ((w.alloc (.cells #[.slice a0 l.length c0, .slice a1 n1 c1] 41)).alloc (.cells #[.string ⟨#[]⟩, .slice none 0 0] 104)).cell? ⟨w.heap.size, 0, none⟩ = some (.slice a0 l.length c0) by go_simp)
  have HG := Lib.hid (show ((w.alloc (.cells #[.slice a0 l.length c0, .slice a1 n1 c1] 41)).alloc (.cells #[.string ⟨#[]⟩, .slice none 0 0] 104)).heap[w.heap.size + 1]? = some (.cells #[.string ⟨#[]⟩, .slice none 0 0] 104) from blk_new (by simp))
  have HS := Lib.hid (hs.later HB.out hhi)
  have HHI := Lib.hid hhi
  have HZ := Lib.hid hz
  clear hs hhi hz
  go_enter Try.func72, Try.ntmps72
  go_wp2
  go_loopw [11] (fun i wr => ∃ k : Nat, k ≤ l.length ∧ i = .int .i64 (k : Int) ∧ noneBelow (PSym nm) l k ∧ Below (w.heap.size + 2) ((w.alloc (.cells #[.slice a0 l.length c0, .slice a1 n1 c1] 41)).alloc (.cells #[.string ⟨#[]⟩, .slice none 0 0] 104)) wr) (fun i _ => l.length - (intOf i).toNat)
  case atStart => exact ⟨0, Nat.zero_le _, rfl, noneBelow_zero _ _, HE.out⟩
  case round =>
    obtain ⟨k, hk, rfl, hno, hbl⟩ := hrel
    have HN := Lib.hid hno
    have HBL := Lib.hid hbl
    have hsz1 : w.heap.size + 2 ≤ wr.heap.size := by have := hbl.size; rw [HSZ.out] at this; exact this
    have hw1 : w.heap.size + 1 < wr.heap.size := by omega
    have HGR := Lib.hid ((hbl.block (w.heap.size + 1) (by omega)).trans HG.out)
    have y0 : wr.cell? ⟨w.heap.size + 1, 0, none⟩ = some (.string ⟨#[]⟩) := (cell_of_row _ _ _ _ _ _ HGR.out).trans rfl
    have y1 : wr.cell? ⟨w.heap.size + 1, 1, none⟩ = some (.slice none 0 0) := (cell_of_row _ _ _ _ _ _ HGR.out).trans rfl
    have f0 : wr.frozen? ⟨w.heap.size + 1, 0, none⟩ = false := frozen_of_row _ _ _ _ _ HGR.out
    have f1 : wr.frozen? ⟨w.heap.size + 1, 1, none⟩ = false := frozen_of_row _ _ _ _ _ HGR.out
    clear hno hbl
    by_cases hlt : k < l.length
    · obtain ⟨b, off, rfl, _, hbh, hc⟩ := (HS.out.later (HBL.out.mono (Nat.le_trans HHI.out (by omega))) (Nat.le_refl _)).at k hlt
      obtain ⟨a1s, c1s, hc0, hc1, hs1⟩ := DSymbol.open hc
      have hbw : b < wr.heap.size := Nat.lt_of_lt_of_le hbh (Nat.le_trans HHI.out (by omega))
      clear hc
      by_cases he : (l.getD k default).fName = nm
      · have hix := idxI_at (p := PSym nm) hlt (PSym_yes he) HN.out
        have fin := Lib.hid (show ∀ w' e, SymOut lo hi (symS l nm) (symB l nm) w' e = SymOut lo hi (l.getD k default) true w' e from fun w' e => by rw [symS_at hix, symB_at hix])
        have hnm := Lib.hid he
        rw [he] at hc0
        have HS1 := Lib.hid hs1
        clear he hix hs1
        generalize hx : l.getD k default = x at *
        clear hx
        go_wp2
        refine bodyPost_ret (v := .tuple #[.agg #[.string nm, .slice a1s x.fAttributes.length c1s], .bool true]) (results_cell_tmp Try.results72 _ _ (w.heap.size + 1) 104 #[.string nm, .slice a1s x.fAttributes.length c1s] (0, 0) _ rfl (by refine blk_alloc (by simp [World.setCell] <;> omega) ?_; refine Eq.trans (blk_set (cs := #[.string nm, .slice none 0 0]) (t := 104) (fr := (0, 0)) ?_) rfl; refine Eq.trans (blk_set (cs := #[.string ⟨#[]⟩, .slice none 0 0]) (t := 104) (fr := (0, 0)) ?_) rfl; exact HGR.out) Try.underlying104 rfl (by kernel_rfl)) rfl ⟨?_, ?_⟩
        · rw [fin.out]
          refine ⟨a1s, c1s, by rw [hnm.out], HS1.out.frame fun b o h1 h2 => World.cell?_of_block (a := ⟨b, o, none⟩) ?_⟩
          have := HHI.out
          refine blk_alloc (by simp [World.setCell] <;> omega) ?_
          refine blk_other (by simp <;> omega) (blk_other (by simp <;> omega) rfl)
        · have HBW := Lib.hid (HB.out.trans (HBL.out.mono (show w.heap.size ≤ w.heap.size + 2 by omega)))
          repeat (first | (with_reducible exact HBW.out) | (with_reducible apply Below.drew) | (with_reducible refine below_drewN ?_ _) | (with_reducible refine Below.alloc ?_ ?_ _) | (with_reducible refine Below.setCell ?_ ?_ _))
          all_goals (first | omega | (simp <;> omega))
      · have HN2 := Lib.hid (noneBelow_succ HN.out (k := k) (PSym_no he))
        have e2 : ((l.getD k default).fName.toList == nm.toList) = false := PSym_no he
        clear he hs1
        generalize (l.getD k default).fName = q at *
        generalize (l.getD k default).fAttributes.length = m at *
        go_wp2
        go_roundw
        case rel =>
          refine ⟨k + 1, by omega, by go_num, HN2.out, ?_⟩
          repeat (first | (with_reducible exact HBL.out) | (with_reducible apply Below.drew) | (with_reducible refine below_drewN ?_ _) | (with_reducible refine Below.alloc ?_ ?_ _) | (with_reducible refine Below.setCell ?_ ?_ _))
          all_goals (first | omega | (simp <;> omega))
        case measure => simp [intOf]; omega
    · obtain rfl : k = l.length := by omega
      have hix := idxI_none (p := PSym nm) HN.out
      have fin := Lib.hid (show ∀ w' e, SymOut lo hi (symS l nm) (symB l nm) w' e = SymOut lo hi noSym false w' e from fun w' e => by rw [symS_none hix, symB_none hix])
      clear hix
      go_wp2
      refine bodyPost_ret (v := .tuple #[.agg #[.string ⟨#[]⟩, .slice none 0 0], .bool false]) (results_cell_tmp Try.results72 _ _ (w.heap.size + 1) 104 #[.string ⟨#[]⟩, .slice none 0 0] (0, 0) _ rfl (by refine Eq.trans (blk_set (cs := #[.string ⟨#[]⟩, .slice none 0 0]) (t := 104) (fr := (0, 0)) ?_) rfl; refine Eq.trans (blk_set (cs := #[.string ⟨#[]⟩, .slice none 0 0]) (t := 104) (fr := (0, 0)) ?_) rfl; exact HGR.out) Try.underlying104 rfl (by kernel_rfl)) rfl ⟨?_, ?_⟩
      · rw [fin.out]
        exact ⟨none, 0, rfl, Sl.nil⟩
      · have HBW := Lib.hid (HB.out.trans (HBL.out.mono (show w.heap.size ≤ w.heap.size + 2 by omega)))
        repeat (first | (with_reducible exact HBW.out) | (with_reducible apply Below.drew) | (with_reducible refine below_drewN ?_ _) | (with_reducible refine Below.alloc ?_ ?_ _) | (with_reducible refine Below.setCell ?_ ?_ _))
        all_goals (first | omega | (simp <;> omega))

end Go.Proofs.Ytpipdlgnedhhaaa

namespace Go.Proofs.Ytpipdlgnedhhaaa
open Go.ChangeShapes Go.WideShapes Go.ChangeAt Go.RowKit Go.Deep


theorem step_append_own {P : Program} (w : World) {ops : Array Oper} {o : Oper} {a : Act} {K : Act → World → Prop} {Q : Exit → Act → World → Prop} {E : Prop} (hgd : o.guard = none) (s x : Operand) (t : TypeId)
    (ho : o.op = .call { callee := .builtin .append, args := #[s, x], argTypes := #[t, t] })
    (base : Nat) (e : TypeId) (i : TypeInfo) (z : Value) (size bytes : Nat) (ht : P.underlying t = some (.slice e)) (hi : P.info? e = some i) (hz : i.zero = some z)
    (hsize : i.size = size) (hby : i.bytes = bytes) (hzs : z.cells.size = size) (hsz : 0 < size)
    (v : Value) (n : Nat) (xs : List Value) (hs : a.eval s = v) (hown : w.ownsRow base e size v n xs)
    (ad : Addr) (m c : Nat) (news : List Value) (hx : a.eval x = .slice (some ad) m c) (hl : news.length = m * size) (hnews : ∀ j u, news[j]? = some u → w.cell? (ad.add j) = some u) (h1 : ∀ u ∈ news, u.oneCell' = true)
    (h63 : n + m ≤ maxLen) (hbytes : (n + m) * bytes ≤ 140737488355328) (hbase : base ≤ w.heap.size)
    (h : ∀ v' w', w'.ownsRow base e size v' (n + m) (xs ++ news) → w.grownBy w' v.ownBlock → (v' = .slice none 0 0 ↔ v = .slice none 0 0 ∧ m = 0) → K (a.put o.dst v') w') :
    if Region.wanted o (yielded ops a.tmps) = true then Oper.wp P o a w K Q else E := by
  have hw : Region.wanted o (yielded ops a.tmps) = true := by simp [Region.wanted, hgd]
  rw [if_pos hw]
  exact wp_append_own w s x t ho base e i z size bytes ht hi hz hsize hby hzs hsz v n xs hs hown ad m c news hx hl hnews h1 h63 hbytes hbase h
/-- An append of nil leaves the slice and the world. -/
theorem step_append_none {P : Program} (w : World) {ops : Array Oper} {o : Oper} {a : Act} {K : Act → World → Prop} {Q : Exit → Act → World → Prop} {E : Prop} (hgd : o.guard = none) (s x : Operand) (t : TypeId)
    (ho : o.op = .call { callee := .builtin .append, args := #[s, x], argTypes := #[t, t] })
    (base : Nat) (e : TypeId) (i : TypeInfo) (size : Nat) (ht : P.underlying t = some (.slice e)) (hi : P.info? e = some i)
    (v : Value) (n : Nat) (xs : List Value) (hs : a.eval s = v) (hown : w.ownsRow base e size v n xs) (c : Nat) (hx : a.eval x = .slice none 0 c) (h : K (a.put o.dst v) w) :
    if Region.wanted o (yielded ops a.tmps) = true then Oper.wp P o a w K Q else E := by
  have hw : Region.wanted o (yielded ops a.tmps) = true := by simp [Region.wanted, hgd]
  rw [if_pos hw]
  have hrun : (Builtin.append_ #[t, t] o.type #[v, .slice none 0 c]).run P w = .ok v w := by
    rcases hown.2 with ⟨rfl, rfl⟩ | ⟨g, cap, cur, rfl, _, _, hnc, _⟩
    · simp [Builtin.append_, run_underlying ht, sizeOf, typeInfo, hi, Builtin.lenOf, Builtin.firstCells]
    · simp [Builtin.append_, run_underlying ht, sizeOf, typeInfo, hi, Builtin.lenOf, Builtin.firstCells, hnc, storeCells]
  unfold Oper.wp
  simp [execOp, ho, resolve, invoke, builtin, hs, hx, hrun, Result.andThen]
  exact h

theorem grown_below {B : Nat} {w w' : World} {row : Option Nat} (h : w.grownBy w' row) (hB : B ≤ w.heap.size) (hr : ∀ k, row = some k → B ≤ k) : Below B w w' :=
  ⟨h.os, h.tape, h.output, h.size, fun k hk => h.block k (by omega) (fun e => by have := hr k e.symm; omega)⟩
theorem step_append_sl {P : Program} (w : World) {ops : Array Oper} {o : Oper} {a : Act} {K : Act → World → Prop} {Q : Exit → Act → World → Prop} {E : Prop} (hgd : o.guard = none) (s x : Operand) (t : TypeId)
    (ho : o.op = .call { callee := .builtin .append, args := #[s, x], argTypes := #[t, t] })
    (base : Nat) (e : TypeId) (i : TypeInfo) (z : Value) (size bytes : Nat) (ht : P.underlying t = some (.slice e)) (hi : P.info? e = some i) (hz : i.zero = some z)
    (hsize : i.size = size) (hby : i.bytes = bytes) (hzs : z.cells.size = size) (hsz : 0 < size)
    (v : Value) (n : Nat) (xs : List Value) (hs : a.eval s = v) (hown : w.ownsRow base e size v n xs)
    {α : Type} [Inhabited α] {vals : α → List Value} {ct : α → Nat → Ct} {lo hi2 : Nat} (l : List α) (A : Option Addr) (c : Nat) (hx : a.eval x = .slice A l.length c)
    (hv : ∀ x, (vals x).length = size) (hct : ∀ x j, j < size → ct x j = .lit ((vals x).getD j .nilFunc)) (hone : ∀ x, ∀ u ∈ vals x, u.oneCell' = true)
    (hsl : Sl lo hi2 w size l.length (fun t => ct (l.getD t default)) A)
    (h63 : n + l.length ≤ maxLen) (hbytes : (n + l.length) * bytes ≤ 140737488355328) (hbase : base ≤ w.heap.size)
    (h : ∀ v' w', w'.ownsRow base e size v' (n + l.length) (xs ++ l.flatMap vals) → w.grownBy w' v.ownBlock → K (a.put o.dst v') w') :
    if Region.wanted o (yielded ops a.tmps) = true then Oper.wp P o a w K Q else E := by
  have h1 : ∀ u ∈ l.flatMap vals, u.oneCell' = true := fun u hu => by
    obtain ⟨x, _, hx⟩ := List.mem_flatMap.1 hu
    exact hone x u hx
  cases A with
  | none =>
    have h0 : l = [] := by
      rcases Nat.eq_zero_or_pos l.length with h | h
      · exact List.length_eq_zero_iff.1 h
      · obtain ⟨b, off, hb, _⟩ := hsl.at 0 h
        cases hb
    subst h0
    exact step_append_none w hgd s x t ho base e i size ht hi v n xs hs hown c hx (h v w (by simpa using hown) ⟨rfl, rfl, rfl, Nat.le_refl _, fun _ _ _ => rfl⟩)
  | some p =>
    refine step_append_own w hgd s x t ho base e i z size bytes ht hi hz hsize hby hzs hsz v n xs hs hown p l.length c (l.flatMap vals) hx (by rw [flat_len hv]) ?_ h1 h63 hbytes hbase (fun v' w' h2 h3 _ => h v' w' h2 h3)
    intro j u hu
    rcases Nat.eq_zero_or_pos l.length with h | h
    · obtain rfl : l = [] := List.length_eq_zero_iff.1 h
      simp at hu
    · obtain ⟨b, off, hb, _⟩ := hsl.at 0 h
      obtain rfl := Option.some.inj hb
      exact sl_news hv hct hsl j u hu

end Go.Proofs.Ytpipdlgnedhhaaa

namespace Go.Proofs.Ytpipdlgnedhhaaa
open Go.ChangeShapes Go.WideShapes Go.ChangeAt Go.RowKit Go.Deep


set_option maxHeartbeats 6400000 in
set_option maxRecDepth 100000 in
theorem spec_l10Symbol {lo hi c : Nat} {A : Option Addr} (s : DSymbol) (hl : s.fAttributes.length ≤ 1048576) (w : World) (hhi : hi ≤ w.heap.size) (hs : Sl lo hi w 4 s.fAttributes.length (fun k => DAttribute.ct (s.fAttributes.getD k default)) A) :
    Calls Try.prog 66 #[.agg #[.string s.fName, .slice A s.fAttributes.length c]] w fun e w' => ∃ a c', e = .returned (.agg #[.string s.fName, .slice a s.fAttributes.length c']) ∧ Own w' (fun y => w.heap.size ≤ y ∧ y < w'.heap.size) (.sl 4 s.fAttributes.length (fun k => DAttribute.ct (s.fAttributes.getD k default))) (.slice a s.fAttributes.length c') ∧ Below w.heap.size w w' := by
  obtain ⟨i0, hi', hz0, hz1, hz2⟩ := info_parts info_Attribute
  have HB := Lib.hid (((Below.refl w.heap.size w).alloc (Nat.le_refl _) (.cells #[.string s.fName, .slice A s.fAttributes.length c] 104)).alloc (by simp) (.cells #[.string ⟨#[]⟩, .slice none 0 0] 104))
  have HG := Lib.hid (show ((w.alloc (.cells #[.string s.fName, .slice A s.fAttributes.length c] 104)).alloc (.cells #[.string ⟨#[]⟩, .slice none 0 0] 104)).heap[w.heap.size + 1]? = some (.cells #[.string ⟨#[]⟩, .slice none 0 0] 104) from blk_new (by simp))
  have HC0 := Lib.hid (show ((w.alloc (.cells #[.string s.fName, .slice A s.fAttributes.length c] 104)).alloc (.cells #[.string ⟨#[]⟩, .slice none 0 0] 104)).cell? ⟨w.heap.size, 0, none⟩ = some (.string s.fName) by go_simp)
  have HC3 := Lib.hid (show ((w.alloc (.cells #[.string s.fName, .slice A s.fAttributes.length c] 104)).alloc (.cells #[.string ⟨#[]⟩, .slice none 0 0] 104)).cell? ⟨w.heap.size, 1, none⟩ = some (.slice A s.fAttributes.length c) by go_simp)
  have HC1 := Lib.hid (show ((w.alloc (.cells #[.string s.fName, .slice A s.fAttributes.length c] 104)).alloc (.cells #[.string ⟨#[]⟩, .slice none 0 0] 104)).cell? ⟨w.heap.size + 1, 0, none⟩ = some (.string ⟨#[]⟩) by go_simp)
  have HC2 := Lib.hid (show ((w.alloc (.cells #[.string s.fName, .slice A s.fAttributes.length c] 104)).alloc (.cells #[.string ⟨#[]⟩, .slice none 0 0] 104)).cell? ⟨w.heap.size + 1, 1, none⟩ = some (.slice none 0 0) by go_simp)
  have HF1 := Lib.hid (show ((w.alloc (.cells #[.string s.fName, .slice A s.fAttributes.length c] 104)).alloc (.cells #[.string ⟨#[]⟩, .slice none 0 0] 104)).frozen? ⟨w.heap.size + 1, 0, none⟩ = false by go_simp)
  have HF2 := Lib.hid (show ((w.alloc (.cells #[.string s.fName, .slice A s.fAttributes.length c] 104)).alloc (.cells #[.string ⟨#[]⟩, .slice none 0 0] 104)).frozen? ⟨w.heap.size + 1, 1, none⟩ = false by go_simp)
  have HOL := Lib.hid (show (((w.alloc (.cells #[.string s.fName, .slice A s.fAttributes.length c] 104)).alloc (.cells #[.string ⟨#[]⟩, .slice none 0 0] 104)).alloc (.cells #[] 108)).ownsRow (w.heap.size + 2) 108 4 (.slice (some ⟨w.heap.size + 1 + 1, 0, none⟩) 0 0) 0 [] from by have h := World.ownsRow_made (base := w.heap.size + 2) (e := 108) (size := 4) ((w.alloc (.cells #[.string s.fName, .slice A s.fAttributes.length c] 104)).alloc (.cells #[.string ⟨#[]⟩, .slice none 0 0] 104)) #[] 0 (by simp) (Nat.zero_le _) rfl; simpa using h)
  have HS := Lib.hid (fun (W : World) (hW : Below w.heap.size w W) => hs.later hW hhi)
  clear hs
  generalize s.fAttributes = m at *
  go_enter Try.func66, Try.ntmps66
  go_wp2_with fail
  go_region_law ((refine step_append_sl (lo := lo) (hi2 := hi) (vals := vAttribute) (ct := DAttribute.ct) _ rfl (.tmp 5) (.tmp 7) 102 rfl (w.heap.size + 2) 108 i0 (.agg #[.string ⟨#[]⟩, .int .i64 0, .int .i64 0, .bool false]) 4 40 Try.underlying102 hi' hz0 hz1 hz2 rfl ?a1 (.slice (some ⟨w.heap.size + 1 + 1, 0, none⟩) 0 0) 0 [] ?a2 ?a3 m A c ?a4 vAttribute_len vAttribute_ct vAttribute_one ?a5 ?a6 ?a7 ?a8 ?_; (case a1 => decide); (case a2 => rfl); (case a3 => exact HOL.out); (case a4 => rfl); (case a5 => (refine HS.out _ ?_; repeat (first | (with_reducible exact HB.out) | (with_reducible apply Below.drew) | (with_reducible refine below_drewN ?_ _) | (refine Below.alloc ?_ (by simp <;> omega) _)))); (case a6 => (unfold maxLen; omega)); (case a7 => omega); (case a8 => simp); intro v1 w1 hown1 hgrow1; rw [Nat.zero_add, List.nil_append] at hown1; have hst : Below (w.heap.size + 2) ((w.alloc (.cells #[.string s.fName, .slice A m.length c] 104)).alloc (.cells #[.string ⟨#[]⟩, .slice none 0 0] 104)) w1 := Below.trans (by repeat (first | (with_reducible exact Below.refl _ _) | (with_reducible apply Below.drew) | (with_reducible refine below_drewN ?_ _) | (refine Below.alloc ?_ (by simp <;> omega) _))) (grown_below hgrow1 (by simp) (fun k hk => by simp [Value.ownBlock] at hk; omega)); have x0 := (hst.cell (p := ⟨w.heap.size, 0, none⟩) (by show w.heap.size < w.heap.size + 2; omega)).trans HC0.out; have x3 := (hst.cell (p := ⟨w.heap.size, 1, none⟩) (by show w.heap.size < w.heap.size + 2; omega)).trans HC3.out; have x1 := (hst.cell (p := ⟨w.heap.size + 1, 0, none⟩) (by show w.heap.size + 1 < w.heap.size + 2; omega)).trans HC1.out; have x2 := (hst.cell (p := ⟨w.heap.size + 1, 1, none⟩) (by show w.heap.size + 1 < w.heap.size + 2; omega)).trans HC2.out; have z1 := (hst.frozen (p := ⟨w.heap.size + 1, 0, none⟩) (by show w.heap.size + 1 < w.heap.size + 2; omega)).trans HF1.out; have z2 := (hst.frozen (p := ⟨w.heap.size + 1, 1, none⟩) (by show w.heap.size + 1 < w.heap.size + 2; omega)).trans HF2.out; have HG1 := Lib.hid ((hst.block (w.heap.size + 1) (by omega)).trans HG.out); have HB1 := Lib.hid (HB.out.trans (hst.mono (by omega))); obtain ⟨a1, c1, rfl, ho1⟩ := grown_own (by decide) vAttribute_len vAttribute_ct hown1; have HO := Lib.hid ho1; clear hown1 hgrow1 hst ho1))
  all_goals
    go_wp2
    refine bodyPost_ret (v := .agg #[.string s.fName, .slice a1 m.length c1]) (results_cell_row Try.results66 _ _ (w.heap.size + 1) 104 #[.string s.fName, .slice a1 m.length c1] (0, 0) _ rfl (by refine Eq.trans (blk_set (cs := #[.string s.fName, .slice none 0 0]) (t := 104) (fr := (0, 0)) ?_) rfl; refine Eq.trans (blk_set (cs := #[.string ⟨#[]⟩, .slice none 0 0]) (t := 104) (fr := (0, 0)) ?_) rfl; exact HG1.out) Try.underlying104 rfl rfl) rfl ⟨a1, c1, rfl, ?_, ?_⟩
    · refine Own.sub (F := fun y => w.heap.size + 2 ≤ y ∧ y < w1.heap.size) (HO.out.kept ?_) (fun y hy => ⟨Nat.le_trans (by omega) hy.1, Nat.lt_of_lt_of_le hy.2 (by simp)⟩)
      repeat (first | (with_reducible exact Kept.refl) | (with_reducible apply Kept.drew) | (refine Kept.put ?_ (by intro h; have h1 := h.1; dsimp only at h1; omega)))
    · repeat (first | (with_reducible exact HB1.out) | (with_reducible apply Below.drew) | (with_reducible refine below_drewN ?_ _) | (refine Below.setCell ?_ (by simp <;> omega) _))

end Go.Proofs.Ytpipdlgnedhhaaa

namespace Go.Proofs.Ytpipdlgnedhhaaa
open Go.ChangeShapes Go.WideShapes Go.ChangeAt Go.RowKit Go.Deep

end Go.Proofs.Ytpipdlgnedhhaaa

namespace Go.Proofs.Ytpipdlgnedhhaaa
open Go.ChangeShapes Go.WideShapes Go.ChangeAt Go.RowKit Go.Deep


set_option maxHeartbeats 6400000 in
set_option maxRecDepth 100000 in
theorem spec_FindSymbolO {lo hi n1 c0 c1 : Nat} {a0 a1 : Option Addr} (l : List DSymbol) (hz : lsz DSymbol.sz l ≤ 1048576) (nm : ByteArray) (w : World) (hhi : hi ≤ w.heap.size) (hs : Sl lo hi w 2 l.length (fun k => DSymbol.ct (l.getD k default)) a0) :
    Calls Try.prog 44 #[.agg #[.slice a0 l.length c0, .slice a1 n1 c1], .string nm] w fun e w' => SymOwn w.heap.size (symS l nm) (symB l nm) w' e ∧ Below w.heap.size w w' := by
  have hn : l.length ≤ 1048576 := by unfold lsz at hz; omega
  have HB := Lib.hid (((Below.refl w.heap.size w).alloc (Nat.le_refl _) (.cells #[.slice a0 l.length c0, .slice a1 n1 c1] 41)).alloc (by simp <;> omega) (.cells #[.string ⟨#[]⟩, .slice none 0 0] 104))
  have HSZ := Lib.hid (show ((w.alloc (.cells #[.slice a0 l.length c0, .slice a1 n1 c1] 41)).alloc (.cells #[.string ⟨#[]⟩, .slice none 0 0] 104)).heap.size = w.heap.size + 2 by simp)
  have HE := Lib.hid (show Below (w.heap.size + 2) ((w.alloc (.cells #[.slice a0 l.length c0, .slice a1 n1 c1] 41)).alloc (.cells #[.string ⟨#[]⟩, .slice none 0 0] 104)) ((w.alloc (.cells #[.slice a0 l.length c0, .slice a1 n1 c1] 41)).alloc (.cells #[.string ⟨#[]⟩, .slice none 0 0] 104)) from Below.refl _ _)
  have HX := Lib.hid (show ((w.alloc (.cells #[.slice a0 l.length c0, .slice a1 n1 c1] 41)).alloc (.cells #[.string ⟨#[]⟩, .slice none 0 0] 104)).cell? ⟨w.heap.size, 0, none⟩ = some (.slice a0 l.length c0) by go_simp)
  have HG := Lib.hid (show ((w.alloc (.cells #[.slice a0 l.length c0, .slice a1 n1 c1] 41)).alloc (.cells #[.string ⟨#[]⟩, .slice none 0 0] 104)).heap[w.heap.size + 1]? = some (.cells #[.string ⟨#[]⟩, .slice none 0 0] 104) from blk_new (by simp))
  have HS := Lib.hid (hs.later HB.out hhi)
  have HHI := Lib.hid hhi
  have HZ := Lib.hid hz
  clear hs hhi hz
  go_enter Try.func44, Try.ntmps44
  go_wp2
  go_loopw [6] (fun i wr => ∃ k : Nat, k ≤ l.length ∧ i = .int .i64 (k : Int) ∧ noneBelow (PSym nm) l k ∧ Below (w.heap.size + 2) ((w.alloc (.cells #[.slice a0 l.length c0, .slice a1 n1 c1] 41)).alloc (.cells #[.string ⟨#[]⟩, .slice none 0 0] 104)) wr) (fun i _ => l.length - (intOf i).toNat)
  case atStart => exact ⟨0, Nat.zero_le _, rfl, noneBelow_zero _ _, HE.out⟩
  case round =>
    obtain ⟨k, hk, rfl, hno, hbl⟩ := hrel
    have hx0 : wr.cell? ⟨w.heap.size, 0, none⟩ = some (.slice a0 l.length c0) := (hbl.cell (p := ⟨w.heap.size, 0, none⟩) (show w.heap.size < w.heap.size + 2 by omega)).trans HX.out
    have HN := Lib.hid hno
    have HBL := Lib.hid hbl
    have hsz1 : w.heap.size + 2 ≤ wr.heap.size := by have := hbl.size; rw [HSZ.out] at this; exact this
    have hw1 : w.heap.size + 1 < wr.heap.size := by omega
    have HGR := Lib.hid ((hbl.block (w.heap.size + 1) (by omega)).trans HG.out)
    have y0 : wr.cell? ⟨w.heap.size + 1, 0, none⟩ = some (.string ⟨#[]⟩) := (cell_of_row _ _ _ _ _ _ HGR.out).trans rfl
    have y1 : wr.cell? ⟨w.heap.size + 1, 1, none⟩ = some (.slice none 0 0) := (cell_of_row _ _ _ _ _ _ HGR.out).trans rfl
    have f0 : wr.frozen? ⟨w.heap.size + 1, 0, none⟩ = false := frozen_of_row _ _ _ _ _ HGR.out
    have f1 : wr.frozen? ⟨w.heap.size + 1, 1, none⟩ = false := frozen_of_row _ _ _ _ _ HGR.out
    clear hno hbl
    by_cases hlt : k < l.length
    · obtain ⟨b, off, rfl, _, hbh, hc⟩ := (HS.out.later (HBL.out.mono (Nat.le_trans HHI.out (by omega))) (Nat.le_refl _)).at k hlt
      obtain ⟨a1s, c1s, hc0, hc1, hs1⟩ := DSymbol.open hc
      have hbw : b < wr.heap.size := Nat.lt_of_lt_of_le hbh (Nat.le_trans HHI.out (by omega))
      clear hc
      by_cases he : (l.getD k default).fName = nm
      · have hix := idxI_at (p := PSym nm) hlt (PSym_yes he) HN.out
        have fin := Lib.hid (show ∀ (w' : World) e, SymOwn w.heap.size (symS l nm) (symB l nm) w' e = SymOwn w.heap.size (l.getD k default) true w' e from fun w' e => by rw [symS_at hix, symB_at hix])
        have hnm := Lib.hid he
        have hal := sym_attrs HZ.out hlt
        have HC := Lib.hid (fun (W : World) (hW : Below wr.heap.size wr W) => spec_l10Symbol (c := c1s) (l.getD k default) hal W (Nat.le_trans (Nat.le_trans HHI.out (by omega)) hW.size) (hs1.later hW (Nat.le_trans HHI.out (by omega))))
        rw [he] at hc0 HC
        clear he hix hs1 hal
        generalize hx : l.getD k default = x at *
        clear hx
        go_wp2_with fail
        refine (HC.out _ (Below.refl _ _)).mono ?_
        rintro e w1 ⟨a9, c9, rfl, ho9, hb9⟩
        have HGR1 := Lib.hid ((hb9.block (w.heap.size + 1) hw1).trans HGR.out)
        have v0 : w1.cell? ⟨w.heap.size + 1, 0, none⟩ = some (.string ⟨#[]⟩) := (cell_of_row _ _ _ _ _ _ HGR1.out).trans rfl
        have v1 : w1.cell? ⟨w.heap.size + 1, 1, none⟩ = some (.slice none 0 0) := (cell_of_row _ _ _ _ _ _ HGR1.out).trans rfl
        have g0 : w1.frozen? ⟨w.heap.size + 1, 0, none⟩ = false := frozen_of_row _ _ _ _ _ HGR1.out
        have g1 : w1.frozen? ⟨w.heap.size + 1, 1, none⟩ = false := frozen_of_row _ _ _ _ _ HGR1.out
        have HO9 := Lib.hid ho9
        have HBW := Lib.hid (HB.out.trans ((HBL.out.trans (hb9.mono hsz1)).mono (show w.heap.size ≤ w.heap.size + 2 by omega)))
        clear hb9 ho9 y0 y1 f0 f1 hx0
        go_wp2
        refine bodyPost_ret (v := .tuple #[.agg #[.string nm, .slice a9 x.fAttributes.length c9], .bool true]) (results_cell_tmp Try.results44 _ _ (w.heap.size + 1) 104 #[.string nm, .slice a9 x.fAttributes.length c9] (0, 0) _ rfl (by refine Eq.trans (blk_set (cs := #[.string nm, .slice none 0 0]) (t := 104) (fr := (0, 0)) ?_) rfl; refine Eq.trans (blk_set (cs := #[.string ⟨#[]⟩, .slice none 0 0]) (t := 104) (fr := (0, 0)) ?_) rfl; exact HGR1.out) Try.underlying104 rfl (by kernel_rfl)) rfl ⟨?_, ?_⟩
        · rw [fin.out]
          refine ⟨a9, c9, by rw [hnm.out], ?_⟩
          refine Own.sub (F := fun y => wr.heap.size ≤ y ∧ y < w1.heap.size) (HO9.out.kept ?_) (fun y hy => ⟨Nat.le_trans (by omega) hy.1, Nat.lt_of_lt_of_le hy.2 (by simp [World.setCell])⟩)
          refine Kept.put (Kept.put Kept.refl ?_) ?_
          · intro h; have h1 := h.1; dsimp only at h1; omega
          · intro h; have h1 := h.1; dsimp only at h1; omega
        · skip
          repeat (first | (with_reducible exact HBW.out) | (with_reducible apply Below.drew) | (with_reducible refine below_drewN ?_ _) | (with_reducible refine Below.alloc ?_ ?_ _) | (with_reducible refine Below.setCell ?_ ?_ _))
          all_goals (first | omega | (simp <;> omega))
      · have HN2 := Lib.hid (noneBelow_succ HN.out (k := k) (PSym_no he))
        have e2 : ((l.getD k default).fName.toList == nm.toList) = false := PSym_no he
        clear he hs1 hc1
        generalize (l.getD k default).fName = q at *
        go_wp2
        go_roundw
        case rel => exact ⟨k + 1, by omega, by go_num, HN2.out, HBL.out⟩
        case measure => simp [intOf]; omega
    · obtain rfl : k = l.length := by omega
      have hix := idxI_none (p := PSym nm) HN.out
      have fin := Lib.hid (show ∀ (w' : World) e, SymOwn w.heap.size (symS l nm) (symB l nm) w' e = SymOwn w.heap.size noSym false w' e from fun w' e => by rw [symS_none hix, symB_none hix])
      clear hix
      go_wp2
      refine bodyPost_ret (v := .tuple #[.agg #[.string ⟨#[]⟩, .slice none 0 0], .bool false]) (results_cell_tmp Try.results44 _ _ (w.heap.size + 1) 104 #[.string ⟨#[]⟩, .slice none 0 0] (0, 0) _ rfl (by refine Eq.trans (blk_set (cs := #[.string ⟨#[]⟩, .slice none 0 0]) (t := 104) (fr := (0, 0)) ?_) rfl; refine Eq.trans (blk_set (cs := #[.string ⟨#[]⟩, .slice none 0 0]) (t := 104) (fr := (0, 0)) ?_) rfl; exact HGR.out) Try.underlying104 rfl (by kernel_rfl)) rfl ⟨?_, ?_⟩
      · rw [fin.out]
        exact ⟨none, 0, rfl, .nil _ _ _ _ _⟩
      · have HBW := Lib.hid (HB.out.trans (HBL.out.mono (show w.heap.size ≤ w.heap.size + 2 by omega)))
        repeat (first | (with_reducible exact HBW.out) | (with_reducible apply Below.drew) | (with_reducible refine below_drewN ?_ _) | (with_reducible refine Below.alloc ?_ ?_ _) | (with_reducible refine Below.setCell ?_ ?_ _))
        all_goals (first | omega | (simp <;> omega))

theorem sym_sz {g : DGrammar} (h : g.sz ≤ 1048576) (nm : ByteArray) : DSymbol.sz (symS g.fSymbols nm) ≤ 1048576 := by
  have hz : lsz DSymbol.sz g.fSymbols ≤ 1048576 := by unfold DGrammar.sz at h; omega
  by_cases h0 : 0 ≤ idxI (PSym nm) g.fSymbols
  · obtain ⟨k, hk⟩ : ∃ k : Nat, idxI (PSym nm) g.fSymbols = k := ⟨(idxI (PSym nm) g.fSymbols).toNat, by omega⟩
    rw [symS_at hk]
    by_cases hl : k < g.fSymbols.length
    · have := szle_at (f := DSymbol.sz) g.fSymbols k hl
      omega
    · rw [List.getD_eq_getElem?_getD, List.getElem?_eq_none (by omega)]
      exact Nat.zero_le _
  · unfold symS
    rw [if_neg h0]
    exact Nat.zero_le _
theorem symG_len {g : DGrammar} (h : g.sz ≤ 1048576) (nm : ByteArray) : (symS g.fSymbols nm).fAttributes.length ≤ 1048576 := sym_len (by unfold DGrammar.sz at h; omega) nm

theorem spec_FindSymbol {lo hi : Nat} {a0 a1 : Option Addr} {c0_0 c0_1 : Nat} (g : DGrammar) (_ : g.ok) (hsz : g.sz ≤ 1048576) (nm : ByteArray) (_ : okS nm) (_ : nm.size ≤ 1048576) (w : World) (hhi : hi ≤ w.heap.size) (hs : Sl lo hi w 2 g.fSymbols.length (fun k => DSymbol.ct (g.fSymbols.getD k default)) a0) (_ : Sl lo hi w 6 g.fRules.length (fun k => DRule.ct (g.fRules.getD k default)) a1) :
    Calls Try.prog 44 #[.agg #[.slice a0 g.fSymbols.length c0_0, .slice a1 g.fRules.length c0_1], .string nm] w fun e w' => ∃ a c, e = .returned (.tuple #[.agg #[.string (symS g.fSymbols nm).fName, .slice a (symS g.fSymbols nm).fAttributes.length c], .bool (symB g.fSymbols nm)]) ∧ Own w' (fun y => w.heap.size ≤ y ∧ y < w'.heap.size) (.sl 4 (symS g.fSymbols nm).fAttributes.length (fun k => DAttribute.ct ((symS g.fSymbols nm).fAttributes.getD k default))) (.slice a (symS g.fSymbols nm).fAttributes.length c) ∧ Below w.heap.size w w' :=
  (spec_FindSymbolO g.fSymbols (by unfold DGrammar.sz at hsz; omega) nm w hhi hs).mono fun _ _ ⟨⟨a, c, h1, h2⟩, h3⟩ => ⟨a, c, h1, h2, h3⟩

end Go.Proofs.Ytpipdlgnedhhaaa

namespace Go.Proofs.Ytpipdlgnedhhaaa
open Go.ChangeShapes Go.WideShapes Go.ChangeAt Go.RowKit Go.Deep


/-- The symbol at a position of a rule. -/
def symbolAt (x : DRule) (pos : Int) : ByteArray := if pos = 0 then x.fLeft else if 1 ≤ pos ∧ pos ≤ x.fRight.length then x.fRight.getD (pos.toNat - 1) default else ⟨#[]⟩
theorem ret_str {a b : ByteArray} (h : a = b) : Ending.returned (Value.string a) = .returned (.string b) := by rw [h]

set_option maxHeartbeats 1600000 in
set_option maxRecDepth 100000 in
theorem spec_SymbolAt {lo hi : Nat} {a2 a4 a5 : Option Addr} {c0_0 c0_1 c0_2 : Nat} (x : DRule) (_ : x.ok) (hsz : x.sz ≤ 1048576) (pos : Int) (hp : okI pos) (w : World) (hhi : hi ≤ w.heap.size) (hs2 : Sl lo hi w 1 x.fRight.length (fun k => ictS (x.fRight.getD k default)) a2) (_ : Sl lo hi w 9 x.fEquations.length (fun k => DEquation.ct (x.fEquations.getD k default)) a4) (_ : Sl lo hi w 16 x.fContributions.length (fun k => DContribution.ct (x.fContributions.getD k default)) a5) :
    Calls Try.prog 23 #[.agg #[.string x.fName, .string x.fLeft, .slice a2 x.fRight.length c0_0, .bool x.fLiteral, .slice a4 x.fEquations.length c0_1, .slice a5 x.fContributions.length c0_2], .int .i64 pos] w fun e w' => e = .returned (.string (symbolAt x pos)) ∧ Below w.heap.size w w' := by
  have hn : x.fRight.length ≤ 1048576 := by unfold DRule.sz lsz at hsz; omega
  have hp1 : -9223372036854775808 ≤ pos ∧ pos ≤ 9223372036854775807 := hp
  have HB := Lib.hid ((Below.refl w.heap.size w).alloc (Nat.le_refl _) (.cells #[.string x.fName, .string x.fLeft, .slice a2 x.fRight.length c0_0, .bool x.fLiteral, .slice a4 x.fEquations.length c0_1, .slice a5 x.fContributions.length c0_2] 46))
  have HS := Lib.hid (hs2.later HB.out hhi)
  clear hs2 hp hsz
  by_cases h0 : pos = 0
  · have FIN := Lib.hid (show x.fLeft = symbolAt x pos by unfold symbolAt; rw [if_pos h0])
    subst h0
    go_enter Try.func23, Try.ntmps23
    go_wp2
    go_ret
    exact ⟨ret_str FIN.out, HB.out⟩
  · have e0 : (pos == 0) = false := beq_eq_false_iff_ne.2 h0
    by_cases h1 : 1 ≤ pos ∧ pos ≤ x.fRight.length
    · obtain ⟨k, rfl⟩ : ∃ k : Nat, pos = (k : Int) + 1 := ⟨(pos - 1).toNat, by omega⟩
      have hk : k < x.fRight.length := by omega
      have FIN := Lib.hid (show x.fRight.getD k default = symbolAt x ((k : Int) + 1) by unfold symbolAt; rw [if_neg h0, if_pos h1, show ((k : Int) + 1).toNat - 1 = k by omega])
      obtain ⟨b, off, rfl, _, _, hc⟩ := HS.out.at k hk
      obtain ⟨u, hu, hl⟩ := hc 0 (by decide)
      obtain rfl := lies_lit hl
      rw [Nat.mul_one, Nat.add_zero] at hu
      have HI := Lib.hid (show ∀ w', Calls Try.prog 21 #[.int .i64 ((k : Int) + 1), .int .i64 1, .int .i64 (x.fRight.length : Int)] w' fun e w'' => e = .returned (.bool true) ∧ w' = w'' from fun w' => by have h := spec_l1In ((k : Int) + 1) 1 (x.fRight.length : Int) w'; rw [inR_yes h1.1 h1.2] at h; exact h)
      clear h0 h1 hc hl HS
      generalize x.fRight.getD k default = v at *
      go_enter Try.func23, Try.ntmps23
      go_wp2_with fail
      refine (HI.out _).mono ?_
      rintro e w1 ⟨rfl, rfl⟩
      go_wp2
      go_ret
      exact ⟨ret_str FIN.out, HB.out⟩
    · have FIN := Lib.hid (show (⟨#[]⟩ : ByteArray) = symbolAt x pos by unfold symbolAt; rw [if_neg h0, if_neg h1])
      have HI := Lib.hid (show ∀ w', Calls Try.prog 21 #[.int .i64 pos, .int .i64 1, .int .i64 (x.fRight.length : Int)] w' fun e w'' => e = .returned (.bool false) ∧ w' = w'' from fun w' => by have h := spec_l1In pos 1 (x.fRight.length : Int) w'; rw [inR_no (by omega)] at h; exact h)
      clear h0 h1 HS
      go_enter Try.func23, Try.ntmps23
      go_wp2_with fail
      refine (HI.out _).mono ?_
      rintro e w1 ⟨rfl, rfl⟩
      go_wp2
      go_ret
      exact ⟨ret_str FIN.out, HB.out⟩

set_option maxHeartbeats 1600000 in
set_option maxRecDepth 100000 in
theorem impl_hasPosition {a2 a4 a5 : Option Addr} {c0_0 c0_1 c0_2 : Nat} (x : DRule) (_ : x.fRight.length ≤ 1048576) (pos : Int) (w : World) :
    Calls Try.prog 71 #[.agg #[.string x.fName, .string x.fLeft, .slice a2 x.fRight.length c0_0, .bool x.fLiteral, .slice a4 x.fEquations.length c0_1, .slice a5 x.fContributions.length c0_2], .int .i64 pos] w fun e w' => e = .returned (.bool (inR pos 0 x.fRight.length)) ∧ Below w.heap.size w w' := by
  have HB := Lib.hid ((Below.refl w.heap.size w).alloc (Nat.le_refl _) (.cells #[.string x.fName, .string x.fLeft, .slice a2 x.fRight.length c0_0, .bool x.fLiteral, .slice a4 x.fEquations.length c0_1, .slice a5 x.fContributions.length c0_2] 46))
  by_cases h0 : 0 ≤ pos
  · have FIN := Lib.hid (show decide (pos ≤ (x.fRight.length : Int)) = inR pos 0 x.fRight.length by unfold inR; rw [decide_eq_true h0, Bool.true_and])
    go_enter Try.func71, Try.ntmps71
    go_wp2
    go_ret
    exact ⟨ret_b FIN.out, HB.out⟩
  · have FIN := Lib.hid (inR_no (n := pos) (a := 0) (b := x.fRight.length) (Or.inl (by omega)))
    have h1 : pos < 0 := by omega
    clear h0
    go_enter Try.func71, Try.ntmps71
    go_wp2
    go_ret
    exact ⟨ret_b FIN.out.symm, HB.out⟩

set_option maxHeartbeats 1600000 in
set_option maxRecDepth 100000 in
theorem impl_SymbolAt {lo hi : Nat} {a2 a4 a5 : Option Addr} {c0_0 c0_1 c0_2 : Nat} (x : DRule) (_ : x.ok) (hsz : x.sz ≤ 1048576) (pos : Int) (hp : okI pos) (w : World) (hhi : hi ≤ w.heap.size) (hs2 : Sl lo hi w 1 x.fRight.length (fun k => ictS (x.fRight.getD k default)) a2) (_ : Sl lo hi w 9 x.fEquations.length (fun k => DEquation.ct (x.fEquations.getD k default)) a4) (_ : Sl lo hi w 16 x.fContributions.length (fun k => DContribution.ct (x.fContributions.getD k default)) a5) :
    Calls Try.prog 80 #[.agg #[.string x.fName, .string x.fLeft, .slice a2 x.fRight.length c0_0, .bool x.fLiteral, .slice a4 x.fEquations.length c0_1, .slice a5 x.fContributions.length c0_2], .int .i64 pos] w fun e w' => e = .returned (.string (symbolAt x pos)) ∧ Below w.heap.size w w' := by
  have hn : x.fRight.length ≤ 1048576 := by unfold DRule.sz lsz at hsz; omega
  have hp1 : -9223372036854775808 ≤ pos ∧ pos ≤ 9223372036854775807 := hp
  have HB := Lib.hid ((Below.refl w.heap.size w).alloc (Nat.le_refl _) (.cells #[.string x.fName, .string x.fLeft, .slice a2 x.fRight.length c0_0, .bool x.fLiteral, .slice a4 x.fEquations.length c0_1, .slice a5 x.fContributions.length c0_2] 46))
  have HS := Lib.hid (hs2.later HB.out hhi)
  have HP := Lib.hid (fun W => impl_hasPosition (a2 := a2) (a4 := a4) (a5 := a5) (c0_0 := c0_0) (c0_1 := c0_1) (c0_2 := c0_2) x hn pos W)
  clear hs2 hp hsz
  by_cases h0 : pos = 0
  · have FIN := Lib.hid (show x.fLeft = symbolAt x pos by unfold symbolAt; rw [if_pos h0])
    rw [inR_yes (by omega) (by omega)] at HP
    subst h0
    go_enter Try.func80, Try.ntmps80
    go_wp2_with fail
    refine (HP.out _).mono ?_
    rintro e w1 ⟨rfl, hb1⟩
    have p1 : w1.cell? ⟨w.heap.size, 1, none⟩ = some (.string x.fLeft) := (hb1.cell (p := ⟨w.heap.size, 1, none⟩) (by simp)).trans (by go_simp)
    have HB1 := Lib.hid (HB.out.trans (hb1.mono HB.out.size))
    clear hb1
    go_wp2
    go_ret
    exact ⟨ret_str FIN.out, HB1.out⟩
  · have e0 : (pos == 0) = false := beq_eq_false_iff_ne.2 h0
    by_cases h1 : 1 ≤ pos ∧ pos ≤ x.fRight.length
    · obtain ⟨k, rfl⟩ : ∃ k : Nat, pos = (k : Int) + 1 := ⟨(pos - 1).toNat, by omega⟩
      have hk : k < x.fRight.length := by omega
      have FIN := Lib.hid (show x.fRight.getD k default = symbolAt x ((k : Int) + 1) by unfold symbolAt; rw [if_neg h0, if_pos h1, show ((k : Int) + 1).toNat - 1 = k by omega])
      obtain ⟨b, off, rfl, _, hbh, hc⟩ := HS.out.at k hk
      obtain ⟨u, hu, hl⟩ := hc 0 (by decide)
      obtain rfl := lies_lit hl
      rw [Nat.mul_one, Nat.add_zero] at hu
      have HU := Lib.hid hu
      rw [inR_yes (by omega) (by omega)] at HP
      clear h0 h1 hc hl HS hu
      generalize x.fRight.getD k default = v at *
      go_enter Try.func80, Try.ntmps80
      go_wp2_with fail
      refine (HP.out _).mono ?_
      rintro e w1 ⟨rfl, hb1⟩
      have p1 : w1.cell? ⟨w.heap.size, 2, none⟩ = some (.slice (some ⟨b, off, none⟩) x.fRight.length c0_0) := (hb1.cell (p := ⟨w.heap.size, 2, none⟩) (by simp)).trans (by go_simp)
      have p2 : w1.cell? ⟨b, off + k, none⟩ = some (.string v) := (hb1.cell (p := ⟨b, off + k, none⟩) (by simp; omega)).trans HU.out
      have HB1 := Lib.hid (HB.out.trans (hb1.mono HB.out.size))
      clear hb1
      go_wp2
      go_ret
      exact ⟨ret_str FIN.out, HB1.out⟩
    · have FIN := Lib.hid (show (⟨#[]⟩ : ByteArray) = symbolAt x pos by unfold symbolAt; rw [if_neg h0, if_neg h1])
      rw [inR_no (by omega)] at HP
      clear h0 h1 HS
      go_enter Try.func80, Try.ntmps80
      go_wp2_with fail
      refine (HP.out _).mono ?_
      rintro e w1 ⟨rfl, hb1⟩
      have HB1 := Lib.hid (HB.out.trans (hb1.mono HB.out.size))
      clear hb1
      go_wp2
      go_ret
      exact ⟨ret_str FIN.out, HB1.out⟩

end Go.Proofs.Ytpipdlgnedhhaaa

namespace Go.Proofs.Ytpipdlgnedhhaaa
open Go.ChangeShapes Go.WideShapes Go.ChangeAt Go.RowKit Go.Deep


theorem toList_inj' {x y : ByteArray} (h : x.toList = y.toList) : x = y := by
  rw [Lib.toList_data, Lib.toList_data] at h
  cases x; cases y
  simp only at h
  rw [ByteArray.mk.injEq]
  exact Array.toList_inj.1 h

def PAttr (nm : ByteArray) (y : DAttribute) : Bool := y.fName.toList == nm.toList
theorem PAttr_yes {nm : ByteArray} {y : DAttribute} (h : y.fName = nm) : PAttr nm y = true := by unfold PAttr; rw [h]; simp
theorem PAttr_no {nm : ByteArray} {y : DAttribute} (h : y.fName ≠ nm) : PAttr nm y = false := beq_eq_false_iff_ne.2 (fun e => h (toList_inj' e))
def zeroAttr : DAttribute := ⟨⟨#[]⟩, 0, 0, false⟩
/-- The first attribute of the name, and whether there is one. -/
def findAttr (s : DSymbol) (nm : ByteArray) : DAttribute × Bool := if 0 ≤ idxI (PAttr nm) s.fAttributes then (s.fAttributes.getD (idxI (PAttr nm) s.fAttributes).toNat default, true) else (zeroAttr, false)
theorem findAttr_at {s : DSymbol} {nm : ByteArray} {k : Nat} (h : idxI (PAttr nm) s.fAttributes = k) : findAttr s nm = (s.fAttributes.getD k default, true) := by unfold findAttr; rw [h, if_pos (by omega), Int.toNat_natCast]
theorem findAttr_none {s : DSymbol} {nm : ByteArray} (h : idxI (PAttr nm) s.fAttributes = -1) : findAttr s nm = (zeroAttr, false) := by unfold findAttr; rw [h, if_neg (by omega)]
theorem ret_find {v : Value} {x y : DAttribute × Bool} (h : x = y) (hv : v = .tuple #[.agg #[.string y.1.fName, .int .i64 y.1.fType, .int .i64 y.1.fMode, .bool y.1.fCircular], .bool y.2]) : Ending.returned v = .returned (.tuple #[.agg #[.string x.1.fName, .int .i64 x.1.fType, .int .i64 x.1.fMode, .bool x.1.fCircular], .bool x.2]) := by rw [hv, h]

set_option maxHeartbeats 1600000 in
set_option maxRecDepth 100000 in
theorem spec_FindAttributeL {lo hi : Nat} {a1 : Option Addr} {c0_0 : Nat} (s : DSymbol) (hn : s.fAttributes.length ≤ 1048576) (nm : ByteArray) (w : World) (hhi : hi ≤ w.heap.size) (hs : Sl lo hi w 4 s.fAttributes.length (fun k => DAttribute.ct (s.fAttributes.getD k default)) a1) :
    Calls Try.prog 45 #[.agg #[.string s.fName, .slice a1 s.fAttributes.length c0_0], .string nm] w fun e w' => e = .returned (.tuple #[.agg #[.string (findAttr s nm).1.fName, .int .i64 (findAttr s nm).1.fType, .int .i64 (findAttr s nm).1.fMode, .bool (findAttr s nm).1.fCircular], .bool (findAttr s nm).2]) ∧ Below w.heap.size w w' := by
  have HB := Lib.hid (((Below.refl w.heap.size w).alloc (Nat.le_refl _) (.cells #[.string s.fName, .slice a1 s.fAttributes.length c0_0] 104)).alloc (by simp) (.cells #[.string ⟨#[]⟩, .int .i64 0, .int .i64 0, .bool false] 108))
  have HS := Lib.hid (hs.later HB.out hhi)
  clear hs
  go_enter Try.func45, Try.ntmps45
  go_wp2
  go_loop [6] (fun i => ∃ k : Nat, k ≤ s.fAttributes.length ∧ i = .int .i64 (k : Int) ∧ noneBelow (PAttr nm) s.fAttributes k) (fun i => s.fAttributes.length - (intOf i).toNat)
  case atStart => exact ⟨0, Nat.zero_le _, rfl, noneBelow_zero _ _⟩
  case round =>
    obtain ⟨k, hk, rfl, hno⟩ := hrel
    have HN := Lib.hid hno
    clear hno
    by_cases hlt : k < s.fAttributes.length
    · obtain ⟨b, off, rfl, _, _, hc⟩ := HS.out.at k hlt
      obtain ⟨hc0, hc1, hc2, hc3⟩ := DAttribute.open hc
      clear hc
      by_cases he : (s.fAttributes.getD k default).fName = nm
      · have fin := Lib.hid (findAttr_at (idxI_at (p := PAttr nm) hlt (PAttr_yes he) HN.out))
        have hc0' := hc0
        rw [he] at hc0
        have HE := Lib.hid he
        clear he hc0'
        have FR := Lib.hid (fun (v : Value) (hv : v = .tuple #[.agg #[.string (s.fAttributes.getD k default).fName, .int .i64 (s.fAttributes.getD k default).fType, .int .i64 (s.fAttributes.getD k default).fMode, .bool (s.fAttributes.getD k default).fCircular], .bool true]) => ret_find fin.out hv)
        generalize hx : s.fAttributes.getD k default = x at hc1 hc2 hc3 HE FR
        clear fin hx
        go_wp2
        exact bodyPost_ret (v := .tuple #[.agg #[.string nm, .int .i64 x.fType, .int .i64 x.fMode, .bool x.fCircular], .bool true]) (by simp [results, Try.results45, go_sem]) rfl ⟨FR.out _ (by rw [← HE.out]), by
          repeat (first | (with_reducible exact HB.out) | (with_reducible exact Below.refl _ _) | (refine Below.setCell ?_ (by simp <;> omega) _) | (refine Below.alloc ?_ (by simp <;> omega) _))⟩
      · have HN2 := Lib.hid (noneBelow_succ HN.out (k := k) (PAttr_no he))
        have e2 : ((s.fAttributes.getD k default).fName.toList == nm.toList) = false := PAttr_no he
        clear he hc1 hc2 hc3
        generalize (s.fAttributes.getD k default).fName = q at *
        go_wp2
        go_round
        case rel => exact ⟨k + 1, by omega, by go_num, HN2.out⟩
        case measure => simp [intOf]; omega
    · obtain rfl : k = s.fAttributes.length := by omega
      have fin := Lib.hid (findAttr_none (idxI_none (p := PAttr nm) HN.out))
      go_wp2
      exact bodyPost_ret (v := .tuple #[.agg #[.string ⟨#[]⟩, .int .i64 0, .int .i64 0, .bool false], .bool false]) (by simp [results, Try.results45, go_sem]) rfl ⟨ret_find fin.out rfl, by
        repeat (first | (with_reducible exact HB.out) | (with_reducible exact Below.refl _ _) | (refine Below.setCell ?_ (by simp <;> omega) _) | (refine Below.alloc ?_ (by simp <;> omega) _))⟩

set_option maxHeartbeats 1600000 in
set_option maxRecDepth 100000 in
theorem impl_FindAttributeL {lo hi : Nat} {a1 : Option Addr} {c0_0 : Nat} (s : DSymbol) (hn : s.fAttributes.length ≤ 1048576) (nm : ByteArray) (w : World) (hhi : hi ≤ w.heap.size) (hs : Sl lo hi w 4 s.fAttributes.length (fun k => DAttribute.ct (s.fAttributes.getD k default)) a1) :
    Calls Try.prog 73 #[.agg #[.string s.fName, .slice a1 s.fAttributes.length c0_0], .string nm] w fun e w' => e = .returned (.tuple #[.agg #[.string (findAttr s nm).1.fName, .int .i64 (findAttr s nm).1.fType, .int .i64 (findAttr s nm).1.fMode, .bool (findAttr s nm).1.fCircular], .bool (findAttr s nm).2]) ∧ Below w.heap.size w w' := by
  have HB := Lib.hid (((Below.refl w.heap.size w).alloc (Nat.le_refl _) (.cells #[.string s.fName, .slice a1 s.fAttributes.length c0_0] 104)).alloc (by simp) (.cells #[.string ⟨#[]⟩, .int .i64 0, .int .i64 0, .bool false] 108))
  have HBZ := Lib.hid (show w.heap.size + 1 < ((w.alloc (.cells #[.string s.fName, .slice a1 s.fAttributes.length c0_0] 104)).alloc (.cells #[.string ⟨#[]⟩, .int .i64 0, .int .i64 0, .bool false] 108)).heap.size by simp)
  have HG := Lib.hid (show ((w.alloc (.cells #[.string s.fName, .slice a1 s.fAttributes.length c0_0] 104)).alloc (.cells #[.string ⟨#[]⟩, .int .i64 0, .int .i64 0, .bool false] 108)).heap[w.heap.size + 1]? = some (.cells #[.string ⟨#[]⟩, .int .i64 0, .int .i64 0, .bool false] 108) from blk_new (by simp))
  have HS := Lib.hid (hs.later HB.out hhi)
  have HH := Lib.hid (Nat.le_trans hhi HB.out.size)
  clear hs
  go_enter Try.func73, Try.ntmps73
  go_wp2
  go_loopw [11] (fun i wr => ∃ k : Nat, k ≤ s.fAttributes.length ∧ i = .int .i64 (k : Int) ∧ noneBelow (PAttr nm) s.fAttributes k ∧ Below ((w.alloc (.cells #[.string s.fName, .slice a1 s.fAttributes.length c0_0] 104)).alloc (.cells #[.string ⟨#[]⟩, .int .i64 0, .int .i64 0, .bool false] 108)).heap.size ((w.alloc (.cells #[.string s.fName, .slice a1 s.fAttributes.length c0_0] 104)).alloc (.cells #[.string ⟨#[]⟩, .int .i64 0, .int .i64 0, .bool false] 108)) wr) (fun i _ => s.fAttributes.length - (intOf i).toNat)
  case atStart => exact ⟨0, Nat.zero_le _, rfl, noneBelow_zero _ _, Below.refl _ _⟩
  case round =>
    obtain ⟨k, hk, rfl, hno, hbl⟩ := hrel
    have HN := Lib.hid hno
    clear hno
    have HBL := Lib.hid hbl
    have hz : w.heap.size + 1 < wr.heap.size := Nat.lt_of_lt_of_le HBZ.out hbl.size
    have HGR := Lib.hid ((hbl.block _ HBZ.out).trans HG.out)
    have g0 : wr.cell? ⟨w.heap.size + 1, 0, none⟩ = some (.string ⟨#[]⟩) := (hbl.cell (p := ⟨w.heap.size + 1, 0, none⟩) HBZ.out).trans (by go_simp)
    have g1 : wr.cell? ⟨w.heap.size + 1, 1, none⟩ = some (.int .i64 0) := (hbl.cell (p := ⟨w.heap.size + 1, 1, none⟩) HBZ.out).trans (by go_simp)
    have g2 : wr.cell? ⟨w.heap.size + 1, 2, none⟩ = some (.int .i64 0) := (hbl.cell (p := ⟨w.heap.size + 1, 2, none⟩) HBZ.out).trans (by go_simp)
    have g3 : wr.cell? ⟨w.heap.size + 1, 3, none⟩ = some (.bool false) := (hbl.cell (p := ⟨w.heap.size + 1, 3, none⟩) HBZ.out).trans (by go_simp)
    have f0 : wr.frozen? ⟨w.heap.size + 1, 0, none⟩ = false := (hbl.frozen (p := ⟨w.heap.size + 1, 0, none⟩) HBZ.out).trans (by go_simp)
    have f1 : wr.frozen? ⟨w.heap.size + 1, 1, none⟩ = false := (hbl.frozen (p := ⟨w.heap.size + 1, 1, none⟩) HBZ.out).trans (by go_simp)
    have f2 : wr.frozen? ⟨w.heap.size + 1, 2, none⟩ = false := (hbl.frozen (p := ⟨w.heap.size + 1, 2, none⟩) HBZ.out).trans (by go_simp)
    have f3 : wr.frozen? ⟨w.heap.size + 1, 3, none⟩ = false := (hbl.frozen (p := ⟨w.heap.size + 1, 3, none⟩) HBZ.out).trans (by go_simp)
    have HFIN := Lib.hid (HB.out.trans (hbl.mono HB.out.size))
    by_cases hlt : k < s.fAttributes.length
    · obtain ⟨b, off, rfl, _, _, hc⟩ := (HS.out.later hbl HH.out).at k hlt
      obtain ⟨hc0, hc1, hc2, hc3⟩ := DAttribute.open hc
      clear hc hbl
      by_cases he : (s.fAttributes.getD k default).fName = nm
      · have fin := Lib.hid (findAttr_at (idxI_at (p := PAttr nm) hlt (PAttr_yes he) HN.out))
        rw [he] at hc0
        have HE := Lib.hid he
        clear he
        have FR := Lib.hid (fun (v : Value) (hv : v = .tuple #[.agg #[.string (s.fAttributes.getD k default).fName, .int .i64 (s.fAttributes.getD k default).fType, .int .i64 (s.fAttributes.getD k default).fMode, .bool (s.fAttributes.getD k default).fCircular], .bool true]) => ret_find fin.out hv)
        generalize hx : s.fAttributes.getD k default = x at hc1 hc2 hc3 HE FR
        clear fin hx
        go_wp2
        refine bodyPost_ret (v := .tuple #[.agg #[.string nm, .int .i64 x.fType, .int .i64 x.fMode, .bool x.fCircular], .bool true]) (results_cell_tmp Try.results73 _ _ (w.heap.size + 1) 108 #[.string nm, .int .i64 x.fType, .int .i64 x.fMode, .bool x.fCircular] (0, 0) _ rfl (by (repeat (with_reducible refine blk_alloc (by simp [World.setCell]; omega) ?_)); refine Eq.trans (blk_set (cs := #[.string nm, .int .i64 x.fType, .int .i64 x.fMode, .bool false]) (t := 108) (fr := (0, 0)) ?_) rfl; refine Eq.trans (blk_set (cs := #[.string nm, .int .i64 x.fType, .int .i64 0, .bool false]) (t := 108) (fr := (0, 0)) ?_) rfl; refine Eq.trans (blk_set (cs := #[.string nm, .int .i64 0, .int .i64 0, .bool false]) (t := 108) (fr := (0, 0)) ?_) rfl; refine Eq.trans (blk_set (cs := #[.string ⟨#[]⟩, .int .i64 0, .int .i64 0, .bool false]) (t := 108) (fr := (0, 0)) ?_) rfl; exact HGR.out) Try.underlying108 rfl rfl) rfl ⟨FR.out _ (by rw [← HE.out]), ?_⟩
        repeat (first | (with_reducible exact HFIN.out) | (refine Below.setCell ?_ (by simp <;> omega) _) | (refine Below.alloc ?_ (by simp <;> omega) _))
      · have HN2 := Lib.hid (noneBelow_succ HN.out (k := k) (PAttr_no he))
        have e2 : ((s.fAttributes.getD k default).fName.toList == nm.toList) = false := PAttr_no he
        clear he
        generalize s.fAttributes.getD k default = x at *
        go_wp2
        go_roundw
        case rel => exact ⟨k + 1, by omega, by go_num, HN2.out, by
          repeat (first | (with_reducible exact HBL.out) | (refine Below.setCell ?_ (by have := HBL.out.size; simp at this ⊢; omega) _) | (refine Below.alloc ?_ (by have := HBL.out.size; simp at this ⊢; omega) _))⟩
        case measure => simp [intOf]; omega
    · obtain rfl : k = s.fAttributes.length := by omega
      have fin := Lib.hid (findAttr_none (idxI_none (p := PAttr nm) HN.out))
      clear hbl
      go_wp2
      refine bodyPost_ret (v := .tuple #[.agg #[.string ⟨#[]⟩, .int .i64 0, .int .i64 0, .bool false], .bool false]) (results_cell_tmp Try.results73 _ _ (w.heap.size + 1) 108 #[.string ⟨#[]⟩, .int .i64 0, .int .i64 0, .bool false] (0, 0) _ rfl (by (repeat (with_reducible refine blk_alloc (by simp [World.setCell]; omega) ?_)); refine Eq.trans (blk_set (cs := #[.string ⟨#[]⟩, .int .i64 0, .int .i64 0, .bool false]) (t := 108) (fr := (0, 0)) ?_) rfl; refine Eq.trans (blk_set (cs := #[.string ⟨#[]⟩, .int .i64 0, .int .i64 0, .bool false]) (t := 108) (fr := (0, 0)) ?_) rfl; refine Eq.trans (blk_set (cs := #[.string ⟨#[]⟩, .int .i64 0, .int .i64 0, .bool false]) (t := 108) (fr := (0, 0)) ?_) rfl; refine Eq.trans (blk_set (cs := #[.string ⟨#[]⟩, .int .i64 0, .int .i64 0, .bool false]) (t := 108) (fr := (0, 0)) ?_) rfl; exact HGR.out) Try.underlying108 rfl rfl) rfl ⟨ret_find fin.out rfl, ?_⟩
      repeat (first | (with_reducible exact HFIN.out) | (refine Below.setCell ?_ (by simp <;> omega) _) | (refine Below.alloc ?_ (by simp <;> omega) _))

theorem spec_FindAttribute {lo hi : Nat} {a1 : Option Addr} {c0_0 : Nat} (s : DSymbol) (_ : s.ok) (hsz : s.sz ≤ 1048576) (nm : ByteArray) (_ : okS nm) (_ : nm.size ≤ 1048576) (w : World) (hhi : hi ≤ w.heap.size) (hs : Sl lo hi w 4 s.fAttributes.length (fun k => DAttribute.ct (s.fAttributes.getD k default)) a1) :
    Calls Try.prog 45 #[.agg #[.string s.fName, .slice a1 s.fAttributes.length c0_0], .string nm] w fun e w' => e = .returned (.tuple #[.agg #[.string (findAttr s nm).1.fName, .int .i64 (findAttr s nm).1.fType, .int .i64 (findAttr s nm).1.fMode, .bool (findAttr s nm).1.fCircular], .bool (findAttr s nm).2]) ∧ Below w.heap.size w w' :=
  spec_FindAttributeL s (by unfold DSymbol.sz lsz at hsz; omega) nm w hhi hs

theorem impl_FindAttribute {lo hi : Nat} {a1 : Option Addr} {c0_0 : Nat} (s : DSymbol) (_ : s.ok) (hsz : s.sz ≤ 1048576) (nm : ByteArray) (_ : okS nm) (_ : nm.size ≤ 1048576) (w : World) (hhi : hi ≤ w.heap.size) (hs : Sl lo hi w 4 s.fAttributes.length (fun k => DAttribute.ct (s.fAttributes.getD k default)) a1) :
    Calls Try.prog 73 #[.agg #[.string s.fName, .slice a1 s.fAttributes.length c0_0], .string nm] w fun e w' => e = .returned (.tuple #[.agg #[.string (findAttr s nm).1.fName, .int .i64 (findAttr s nm).1.fType, .int .i64 (findAttr s nm).1.fMode, .bool (findAttr s nm).1.fCircular], .bool (findAttr s nm).2]) ∧ Below w.heap.size w w' :=
  impl_FindAttributeL s (by unfold DSymbol.sz lsz at hsz; omega) nm w hhi hs

end Go.Proofs.Ytpipdlgnedhhaaa

namespace Go.Proofs.Ytpipdlgnedhhaaa
open Go.ChangeShapes Go.WideShapes Go.ChangeAt Go.RowKit Go.Deep


/-- The attribute of an occurrence, and whether there is one. -/
def attAt (g : DGrammar) (x : DRule) (oc : DOccurrence) : DAttribute × Bool := if inR oc.fPos 0 x.fRight.length = true then findAttr (symS g.fSymbols (symbolAt x oc.fPos)) oc.fName else (zeroAttr, false)
def modeU (p : Int) : Int := if p = 0 then 1 else 2
def mayUse (g : DGrammar) (x : DRule) (oc : DOccurrence) : Bool := (attAt g x oc).2 && decide ((attAt g x oc).1.fMode = modeU oc.fPos)
theorem attAt_yes {g : DGrammar} {x : DRule} {oc : DOccurrence} (h : inR oc.fPos 0 x.fRight.length = true) : attAt g x oc = findAttr (symS g.fSymbols (symbolAt x oc.fPos)) oc.fName := if_pos h
theorem attAt_no {g : DGrammar} {x : DRule} {oc : DOccurrence} (h : inR oc.fPos 0 x.fRight.length = false) : attAt g x oc = (zeroAttr, false) := if_neg (by rw [h]; decide)
theorem mayUse_no {g : DGrammar} {x : DRule} {oc : DOccurrence} (h : inR oc.fPos 0 x.fRight.length = false) : mayUse g x oc = false := by unfold mayUse; rw [attAt_no h]; rfl

theorem att_ret {v : Value} {f x : DAttribute × Bool} (h : x = f) (hv : v = .tuple #[.agg #[.string f.1.fName, .int .i64 f.1.fType, .int .i64 f.1.fMode, .bool f.1.fCircular], .bool f.2]) : Ending.returned v = .returned (.tuple #[.agg #[.string x.1.fName, .int .i64 x.1.fType, .int .i64 x.1.fMode, .bool x.1.fCircular], .bool x.2]) := by rw [hv, h]

set_option maxHeartbeats 6400000 in
set_option maxRecDepth 100000 in
theorem impl_attributeAt {lo hi : Nat} {a0 a1 b2 b4 b5 : Option Addr} {c0_0 c0_1 c1_0 c1_1 c1_2 : Nat} (g : DGrammar) (okg : g.ok) (hszg : g.sz ≤ 1048576) (x : DRule) (okx : x.ok) (hszx : x.sz ≤ 1048576) (oc : DOccurrence) (oko : oc.ok) (hszo : oc.sz ≤ 1048576) (w : World) (hhi : hi ≤ w.heap.size) (hs0 : Sl lo hi w 2 g.fSymbols.length (fun k => DSymbol.ct (g.fSymbols.getD k default)) a0) (hs1 : Sl lo hi w 6 g.fRules.length (fun k => DRule.ct (g.fRules.getD k default)) a1) (hs2 : Sl lo hi w 1 x.fRight.length (fun k => ictS (x.fRight.getD k default)) b2) (hs4 : Sl lo hi w 9 x.fEquations.length (fun k => DEquation.ct (x.fEquations.getD k default)) b4) (hs5 : Sl lo hi w 16 x.fContributions.length (fun k => DContribution.ct (x.fContributions.getD k default)) b5) :
    Calls Try.prog 69 #[.agg #[.slice a0 g.fSymbols.length c0_0, .slice a1 g.fRules.length c0_1], .agg #[.string x.fName, .string x.fLeft, .slice b2 x.fRight.length c1_0, .bool x.fLiteral, .slice b4 x.fEquations.length c1_1, .slice b5 x.fContributions.length c1_2], .agg #[.int .i64 oc.fPos, .string oc.fName]] w fun e w' => e = .returned (.tuple #[.agg #[.string (attAt g x oc).1.fName, .int .i64 (attAt g x oc).1.fType, .int .i64 (attAt g x oc).1.fMode, .bool (attAt g x oc).1.fCircular], .bool (attAt g x oc).2]) ∧ Below w.heap.size w w' := by
  have hnx : x.fRight.length ≤ 1048576 := by unfold DRule.sz lsz at hszx; omega
  have hzs : lsz DSymbol.sz g.fSymbols ≤ 1048576 := by unfold DGrammar.sz at hszg; omega
  have okp : -9223372036854775808 ≤ oc.fPos ∧ oc.fPos ≤ 9223372036854775807 := oko.1
  have OKP := Lib.hid (show okI oc.fPos from oko.1)
  have HNS := Lib.hid (sym_len hzs (symbolAt x oc.fPos))
  have HB := Lib.hid ((((((((Below.refl w.heap.size w).alloc (Nat.le_refl _) (.cells #[.slice a0 g.fSymbols.length c0_0, .slice a1 g.fRules.length c0_1] 41))).alloc (by simp <;> omega) (.cells #[.string x.fName, .string x.fLeft, .slice b2 x.fRight.length c1_0, .bool x.fLiteral, .slice b4 x.fEquations.length c1_1, .slice b5 x.fContributions.length c1_2] 46))).alloc (by simp <;> omega) (.cells #[.int .i64 oc.fPos, .string oc.fName] 114))).alloc (by simp <;> omega) (.cells #[.string ⟨#[]⟩, .int .i64 0, .int .i64 0, .bool false] 108))
  have HSY := Lib.hid (hs0.later HB.out hhi)
  have HR1 := Lib.hid (hs1.later HB.out hhi)
  have HR2 := Lib.hid (hs2.later HB.out hhi)
  have HR4 := Lib.hid (hs4.later HB.out hhi)
  have HR5 := Lib.hid (hs5.later HB.out hhi)
  have HHI := Lib.hid (Nat.le_trans hhi HB.out.size)
  have HZS := Lib.hid hzs
  have HSX := Lib.hid hszx
  have OKX := Lib.hid okx
  have HZG := Lib.hid hszg
  have OKO := Lib.hid oko
  have OKG := Lib.hid okg
  have HZO := Lib.hid hszo
  clear hs0 hs1 hs2 hs4 hs5 hhi hzs hszx okx hszg oko okg hszo
  by_cases hp : inR oc.fPos 0 x.fRight.length = true
  · have HP := Lib.hid (attAt_yes (g := g) hp)
    have HI := Lib.hid (fun (W : World) => by have h := impl_hasPosition (a2 := b2) (a4 := b4) (a5 := b5) (c0_0 := c1_0) (c0_1 := c1_1) (c0_2 := c1_2) x hnx oc.fPos W; rw [hp] at h; exact h)
    clear hp
    go_enter Try.func69, Try.ntmps69
    go_wp2_with fail
    refine (HI.out _).mono ?_
    rintro e w9 ⟨rfl, hb9⟩
    have g0 : w9.cell? ⟨w.heap.size, 0, none⟩ = some (.slice a0 g.fSymbols.length c0_0) := (hb9.cell (p := ⟨w.heap.size, 0, none⟩) (by first | omega | (simp; done) | (simp; omega))).trans (by go_simp)
    have g1 : w9.cell? ⟨w.heap.size, 1, none⟩ = some (.slice a1 g.fRules.length c0_1) := (hb9.cell (p := ⟨w.heap.size, 1, none⟩) (by first | omega | (simp; done) | (simp; omega))).trans (by go_simp)
    have r0 : w9.cell? ⟨w.heap.size + 1, 0, none⟩ = some (.string x.fName) := (hb9.cell (p := ⟨w.heap.size + 1, 0, none⟩) (by first | omega | (simp; done) | (simp; omega))).trans (by go_simp)
    have r1 : w9.cell? ⟨w.heap.size + 1, 1, none⟩ = some (.string x.fLeft) := (hb9.cell (p := ⟨w.heap.size + 1, 1, none⟩) (by first | omega | (simp; done) | (simp; omega))).trans (by go_simp)
    have r2 : w9.cell? ⟨w.heap.size + 1, 2, none⟩ = some (.slice b2 x.fRight.length c1_0) := (hb9.cell (p := ⟨w.heap.size + 1, 2, none⟩) (by first | omega | (simp; done) | (simp; omega))).trans (by go_simp)
    have r3 : w9.cell? ⟨w.heap.size + 1, 3, none⟩ = some (.bool x.fLiteral) := (hb9.cell (p := ⟨w.heap.size + 1, 3, none⟩) (by first | omega | (simp; done) | (simp; omega))).trans (by go_simp)
    have r4 : w9.cell? ⟨w.heap.size + 1, 4, none⟩ = some (.slice b4 x.fEquations.length c1_1) := (hb9.cell (p := ⟨w.heap.size + 1, 4, none⟩) (by first | omega | (simp; done) | (simp; omega))).trans (by go_simp)
    have r5 : w9.cell? ⟨w.heap.size + 1, 5, none⟩ = some (.slice b5 x.fContributions.length c1_2) := (hb9.cell (p := ⟨w.heap.size + 1, 5, none⟩) (by first | omega | (simp; done) | (simp; omega))).trans (by go_simp)
    have o0 : w9.cell? ⟨w.heap.size + 2, 0, none⟩ = some (.int .i64 oc.fPos) := (hb9.cell (p := ⟨w.heap.size + 2, 0, none⟩) (by first | omega | (simp; done) | (simp; omega))).trans (by go_simp)
    have o1 : w9.cell? ⟨w.heap.size + 2, 1, none⟩ = some (.string oc.fName) := (hb9.cell (p := ⟨w.heap.size + 2, 1, none⟩) (by first | omega | (simp; done) | (simp; omega))).trans (by go_simp)
    have y0 : w9.cell? ⟨w.heap.size + 3, 0, none⟩ = some (.string ⟨#[]⟩) := (hb9.cell (p := ⟨w.heap.size + 3, 0, none⟩) (by first | omega | (simp; done) | (simp; omega))).trans (by go_simp)
    have y1 : w9.cell? ⟨w.heap.size + 3, 1, none⟩ = some (.int .i64 0) := (hb9.cell (p := ⟨w.heap.size + 3, 1, none⟩) (by first | omega | (simp; done) | (simp; omega))).trans (by go_simp)
    have y2 : w9.cell? ⟨w.heap.size + 3, 2, none⟩ = some (.int .i64 0) := (hb9.cell (p := ⟨w.heap.size + 3, 2, none⟩) (by first | omega | (simp; done) | (simp; omega))).trans (by go_simp)
    have y3 : w9.cell? ⟨w.heap.size + 3, 3, none⟩ = some (.bool false) := (hb9.cell (p := ⟨w.heap.size + 3, 3, none⟩) (by first | omega | (simp; done) | (simp; omega))).trans (by go_simp)
    have f0 : w9.frozen? ⟨w.heap.size + 3, 0, none⟩ = false := (hb9.frozen (p := ⟨w.heap.size + 3, 0, none⟩) (by first | omega | (simp; done) | (simp; omega))).trans (by go_simp)
    have f1 : w9.frozen? ⟨w.heap.size + 3, 1, none⟩ = false := (hb9.frozen (p := ⟨w.heap.size + 3, 1, none⟩) (by first | omega | (simp; done) | (simp; omega))).trans (by go_simp)
    have f2 : w9.frozen? ⟨w.heap.size + 3, 2, none⟩ = false := (hb9.frozen (p := ⟨w.heap.size + 3, 2, none⟩) (by first | omega | (simp; done) | (simp; omega))).trans (by go_simp)
    have f3 : w9.frozen? ⟨w.heap.size + 3, 3, none⟩ = false := (hb9.frozen (p := ⟨w.heap.size + 3, 3, none⟩) (by first | omega | (simp; done) | (simp; omega))).trans (by go_simp)
    have HGR := Lib.hid ((hb9.block (w.heap.size + 3) (by first | omega | (simp; done) | (simp; omega))).trans (show ((((w.alloc (.cells #[.slice a0 g.fSymbols.length c0_0, .slice a1 g.fRules.length c0_1] 41)).alloc (.cells #[.string x.fName, .string x.fLeft, .slice b2 x.fRight.length c1_0, .bool x.fLiteral, .slice b4 x.fEquations.length c1_1, .slice b5 x.fContributions.length c1_2] 46)).alloc (.cells #[.int .i64 oc.fPos, .string oc.fName] 114)).alloc (.cells #[.string ⟨#[]⟩, .int .i64 0, .int .i64 0, .bool false] 108)).heap[w.heap.size + 3]? = some (.cells #[.string ⟨#[]⟩, .int .i64 0, .int .i64 0, .bool false] 108) from blk_new (by simp)))
    have hsz9 : w.heap.size + 4 ≤ w9.heap.size := by have := hb9.size; simp at this; omega
    have hk0 : w.heap.size + 0 < w9.heap.size := by omega
    have hk1 : w.heap.size + 1 < w9.heap.size := by omega
    have hk2 : w.heap.size + 2 < w9.heap.size := by omega
    have hk3 : w.heap.size + 3 < w9.heap.size := by omega
    have HSY := Lib.hid (HSY.out.later hb9 HHI.out)
    have HR1 := Lib.hid (HR1.out.later hb9 HHI.out)
    have HR2 := Lib.hid (HR2.out.later hb9 HHI.out)
    have HR4 := Lib.hid (HR4.out.later hb9 HHI.out)
    have HR5 := Lib.hid (HR5.out.later hb9 HHI.out)
    have HHI := Lib.hid (Nat.le_trans HHI.out hb9.size)
    have HB := Lib.hid (HB.out.trans (hb9.mono HB.out.size))
    clear hb9
    go_wp2_with fail
    refine wp_region_free [([], none), ([], none), ([], none), ([2], none), ([1, 3], none), ([0, 4], none), ([5], none), ([6], none), ([6], none), ([], none), ([9, 7], some 9), ([8], none)] [0, 1, 2, 3, 4, 5, 6, 7, 8, 10, 11] (fun j V L H wx => match j with | 0 => V 0 = .agg #[.slice a0 g.fSymbols.length c0_0, .slice a1 g.fRules.length c0_1] | 1 => V 1 = .agg #[.string x.fName, .string x.fLeft, .slice b2 x.fRight.length c1_0, .bool x.fLiteral, .slice b4 x.fEquations.length c1_1, .slice b5 x.fContributions.length c1_2] | 2 => V 2 = .pointer (some ⟨w.heap.size + 2, 0, none⟩) | 3 => V 3 = .int .i64 oc.fPos | 4 => V 4 = .string (symbolAt x oc.fPos) | 5 => ∃ a9 c9, V 5 = .tuple #[.agg #[.string (symS g.fSymbols (symbolAt x oc.fPos)).fName, .slice a9 (symS g.fSymbols (symbolAt x oc.fPos)).fAttributes.length c9], .bool (symB g.fSymbols (symbolAt x oc.fPos))] ∧ Sl lo hi wx 4 (symS g.fSymbols (symbolAt x oc.fPos)).fAttributes.length (fun k => DAttribute.ct ((symS g.fSymbols (symbolAt x oc.fPos)).fAttributes.getD k default)) a9 | 6 => V 6 = V 5 ∧ ∃ a9_6 c9_6, V 6 = .tuple #[.agg #[.string (symS g.fSymbols (symbolAt x oc.fPos)).fName, .slice a9_6 (symS g.fSymbols (symbolAt x oc.fPos)).fAttributes.length c9_6], .bool (symB g.fSymbols (symbolAt x oc.fPos))] | 7 => (∀ x0 x1, V 6 = .tuple #[x0, x1] → V 7 = x0) ∧ ∃ a9_7 c9_7, V 7 = .agg #[.string (symS g.fSymbols (symbolAt x oc.fPos)).fName, .slice a9_7 (symS g.fSymbols (symbolAt x oc.fPos)).fAttributes.length c9_7] | 8 => (∀ x0 x1, V 6 = .tuple #[x0, x1] → V 8 = x1) | 9 => V 9 = .pointer (some ⟨L, 0, none⟩) ∧ L < H ∧ wx.cell? ⟨L, 0, none⟩ = some (.string ⟨#[]⟩) ∧ wx.frozen? ⟨L, 0, none⟩ = false ∧ wx.cell? ⟨L, 1, none⟩ = some (.slice none 0 0) ∧ wx.frozen? ⟨L, 1, none⟩ = false | 10 => ∀ x0 x1, V 7 = .agg #[x0, x1] → L < H ∧ wx.cell? ⟨L, 0, none⟩ = some x0 ∧ wx.frozen? ⟨L, 0, none⟩ = false ∧ wx.cell? ⟨L, 1, none⟩ = some x1 ∧ wx.frozen? ⟨L, 1, none⟩ = false | 11 => V 11 = V 8 | _ => True) (by kernel_rfl) (by kernel_rfl) ?loc ?lasts ?walk
    case loc =>
      intro k V V' L H wx h0 h1 hG
      match k with
      | 0 =>
        try dsimp only at hG ⊢
        rw [← h0]
        exact hG
      | 1 =>
        try dsimp only at hG ⊢
        rw [← h0]
        exact hG
      | 2 =>
        try dsimp only at hG ⊢
        rw [← h0]
        exact hG
      | 3 =>
        try dsimp only at hG ⊢
        rw [← h0]
        exact hG
      | 4 =>
        try dsimp only at hG ⊢
        rw [← h0]
        exact hG
      | 5 =>
        try dsimp only at hG ⊢
        rw [← h0]
        exact hG
      | 6 =>
        have e5 := h1 5 (by decide)
        try dsimp only at hG ⊢
        rw [← h0, ← e5]
        exact hG
      | 7 =>
        have e6 := h1 6 (by decide)
        try dsimp only at hG ⊢
        rw [← h0, ← e6]
        exact hG
      | 8 =>
        have e6 := h1 6 (by decide)
        try dsimp only at hG ⊢
        rw [← h0, ← e6]
        exact hG
      | 9 =>
        try dsimp only at hG ⊢
        rw [← h0]
        exact hG
      | 10 =>
        have e7 := h1 7 (by decide)
        try dsimp only at hG ⊢
        rw [← e7]
        exact hG
      | 11 =>
        have e8 := h1 8 (by decide)
        try dsimp only at hG ⊢
        rw [← h0, ← e8]
        exact hG
      | n + 12 => trivial
    case lasts =>
      intro i hi V L H wx wy hB hH hk
      match i, hi with
      | 0, _ => exact fun h => h
      | 1, _ => exact fun h => h
      | 2, _ => exact fun h => h
      | 3, _ => exact fun h => h
      | 4, _ => exact fun h => h
      | 5, _ => exact fun ⟨a9, c9, hv, ho0⟩ => ⟨a9, c9, hv, sl_kept ho0 hk (fun b h1 h2 => .inl (Nat.lt_of_lt_of_le h2 HHI.out)) (Nat.le_trans HHI.out hB)⟩
      | 6, _ => exact fun h => h
      | 7, _ => exact fun h => h
      | 8, _ => exact fun h => h
      | 9, _ => exact fun ⟨hv, hl, hc0, hf0, hc1, hf1⟩ => ⟨hv, hl, (hk.cell (p := ⟨L, 0, none⟩) (.inr ⟨Nat.le_refl _, hl⟩) (Nat.lt_of_lt_of_le hl hH)).trans hc0, (hk.frozen (p := ⟨L, 0, none⟩) (.inr ⟨Nat.le_refl _, hl⟩) (Nat.lt_of_lt_of_le hl hH)).trans hf0, (hk.cell (p := ⟨L, 1, none⟩) (.inr ⟨Nat.le_refl _, hl⟩) (Nat.lt_of_lt_of_le hl hH)).trans hc1, (hk.frozen (p := ⟨L, 1, none⟩) (.inr ⟨Nat.le_refl _, hl⟩) (Nat.lt_of_lt_of_le hl hH)).trans hf1⟩
      | 10, _ =>
        intro h x0 x1 hv
        obtain ⟨hl, hc0, hf0, hc1, hf1⟩ := h x0 x1 hv
        exact ⟨hl, (hk.cell (p := ⟨L, 0, none⟩) (.inr ⟨Nat.le_refl _, hl⟩) (Nat.lt_of_lt_of_le hl hH)).trans hc0, (hk.frozen (p := ⟨L, 0, none⟩) (.inr ⟨Nat.le_refl _, hl⟩) (Nat.lt_of_lt_of_le hl hH)).trans hf0, (hk.cell (p := ⟨L, 1, none⟩) (.inr ⟨Nat.le_refl _, hl⟩) (Nat.lt_of_lt_of_le hl hH)).trans hc1, (hk.frozen (p := ⟨L, 1, none⟩) (.inr ⟨Nat.le_refl _, hl⟩) (Nat.lt_of_lt_of_le hl hH)).trans hf1⟩
      | 11, _ => exact fun h => h
      | n + 12, hn => exact absurd hn (by simp)
    case walk =>
      simp only [free, Nat.reduceAdd, Act.put, List.setIfInBounds_toArray, List.set_cons_succ, List.set_cons_zero]
      refine ⟨?_, ?_, ?_, ?_, ?_, ?_, ?_, ?_, ?_, ?_, ?_, ?_, ?_⟩
      · intro V L H w1 hb1 hd
        clear hd
        have g0 : w1.cell? ⟨w.heap.size, 0, none⟩ = some (.slice a0 g.fSymbols.length c0_0) := (hb1.cell (p := ⟨w.heap.size, 0, none⟩) (by first | omega | (simp; done))).trans g0
        have g1 : w1.cell? ⟨w.heap.size, 1, none⟩ = some (.slice a1 g.fRules.length c0_1) := (hb1.cell (p := ⟨w.heap.size, 1, none⟩) (by first | omega | (simp; done))).trans g1
        go_wp2_with fail
        exact freePost _ rfl ⟨Below.refl _ _, upd_self⟩
      · intro V L H w1 hb1 hd
        clear hd
        have r0 : w1.cell? ⟨w.heap.size + 1, 0, none⟩ = some (.string x.fName) := (hb1.cell (p := ⟨w.heap.size + 1, 0, none⟩) (by first | omega | (simp; done))).trans r0
        have r1 : w1.cell? ⟨w.heap.size + 1, 1, none⟩ = some (.string x.fLeft) := (hb1.cell (p := ⟨w.heap.size + 1, 1, none⟩) (by first | omega | (simp; done))).trans r1
        have r2 : w1.cell? ⟨w.heap.size + 1, 2, none⟩ = some (.slice b2 x.fRight.length c1_0) := (hb1.cell (p := ⟨w.heap.size + 1, 2, none⟩) (by first | omega | (simp; done))).trans r2
        have r3 : w1.cell? ⟨w.heap.size + 1, 3, none⟩ = some (.bool x.fLiteral) := (hb1.cell (p := ⟨w.heap.size + 1, 3, none⟩) (by first | omega | (simp; done))).trans r3
        have r4 : w1.cell? ⟨w.heap.size + 1, 4, none⟩ = some (.slice b4 x.fEquations.length c1_1) := (hb1.cell (p := ⟨w.heap.size + 1, 4, none⟩) (by first | omega | (simp; done))).trans r4
        have r5 : w1.cell? ⟨w.heap.size + 1, 5, none⟩ = some (.slice b5 x.fContributions.length c1_2) := (hb1.cell (p := ⟨w.heap.size + 1, 5, none⟩) (by first | omega | (simp; done))).trans r5
        go_wp2_with fail
        exact freePost _ rfl ⟨Below.refl _ _, upd_self⟩
      · intro V L H w1 hb1 hd
        clear hd
        go_wp2_with fail
        exact freePost _ rfl ⟨Below.refl _ _, upd_self⟩
      · intro V L H w1 hb1 hd
        obtain ⟨⟨hL2, hM2, hH2, hv2⟩, -⟩ := hd
        rw [hv2]
        have HV2 := Lib.hid hv2
        clear hv2
        have o0 : w1.cell? ⟨w.heap.size + 2, 0, none⟩ = some (.int .i64 oc.fPos) := (hb1.cell (p := ⟨w.heap.size + 2, 0, none⟩) (by first | omega | (simp; done))).trans o0
        have o1 : w1.cell? ⟨w.heap.size + 2, 1, none⟩ = some (.string oc.fName) := (hb1.cell (p := ⟨w.heap.size + 2, 1, none⟩) (by first | omega | (simp; done))).trans o1
        go_wp2_with fail
        exact freePost _ rfl ⟨Below.refl _ _, upd_self⟩
      · intro V L H w1 hb1 hd
        obtain ⟨⟨hL1, hM1, hH1, hv1⟩, ⟨hL3, hM3, hH3, hv3⟩, -⟩ := hd
        rw [hv1, hv3]
        have HV1 := Lib.hid hv1
        have HV3 := Lib.hid hv3
        clear hv1 hv3
        go_wp2_with fail
        refine (impl_SymbolAt (c0_0 := c1_0) (c0_1 := c1_1) (c0_2 := c1_2) x OKX.out HSX.out oc.fPos OKP.out _ (Nat.le_trans HHI.out hb1.size) (HR2.out.later hb1 HHI.out) (HR4.out.later hb1 HHI.out) (HR5.out.later hb1 HHI.out)).mono ?_
        rintro e w2 ⟨rfl, hb2⟩
        go_wp2_with fail
        exact freePost _ rfl ⟨hb2, upd_self⟩
      · intro V L H w1 hb1 hd
        obtain ⟨⟨hL0, hM0, hH0, hv0⟩, ⟨hL4, hM4, hH4, hv4⟩, -⟩ := hd
        rw [hv0, hv4]
        have HV0 := Lib.hid hv0
        have HV4 := Lib.hid hv4
        clear hv0 hv4
        go_wp2_with fail
        refine (impl_symbolNamed (c0 := c0_0) (c1 := c0_1) (a1 := a1) (n1 := g.fRules.length) g.fSymbols HZS.out (symbolAt x oc.fPos) _ (Nat.le_trans HHI.out hb1.size) (HSY.out.later hb1 HHI.out)).mono ?_
        rintro e w2 ⟨⟨a9, c9, rfl, ho⟩, hb2⟩
        go_wp2_with fail
        exact freePost _ rfl ⟨hb2, Exists.intro a9 (Exists.intro c9 (And.intro (upd_self) (ho)))⟩
      · intro V L H w1 hb1 hd
        obtain ⟨⟨hL5, hM5, hH5, a9, c9, hv5, ho5_0⟩, -⟩ := hd
        rw [hv5]
        have HV5 := Lib.hid hv5
        clear hv5
        go_wp2_with fail
        exact freePost _ rfl ⟨Below.refl _ _, And.intro (upd_self.trans (HV5.out.symm.trans (upd_ne (by decide)).symm)) ⟨_, _, upd_self⟩⟩
      · intro V L H w1 hb1 hd
        obtain ⟨⟨hL6, hM6, hH6, hv6, a9_6, c9_6, hz6⟩, -⟩ := hd
        clear hv6
        rw [hz6]
        have HV6 := Lib.hid hz6
        clear hz6
        go_wp2_with fail
        exact freePost _ rfl ⟨Below.refl _ _, And.intro (fun x0 x1 h => by cases (HV6.out.symm.trans ((upd_ne (by decide)).symm.trans h)); exact upd_self) ⟨_, _, upd_self⟩⟩
      · intro V L H w1 hb1 hd
        obtain ⟨⟨hL6, hM6, hH6, hv6, a9_6, c9_6, hz6⟩, -⟩ := hd
        clear hv6
        rw [hz6]
        have HV6 := Lib.hid hz6
        clear hz6
        go_wp2_with fail
        exact freePost _ rfl ⟨Below.refl _ _, fun x0 x1 h => by cases (HV6.out.symm.trans ((upd_ne (by decide)).symm.trans h)); exact upd_self⟩
      · intro V L H w1 hb1 hd
        clear hd
        go_wp2_with fail
        refine freePost _ rfl ⟨Below.alloc (Below.refl _ _) (Nat.le_refl _) _, upd_self, ?_, ?_, ?_, ?_, ?_⟩
        · simp
        all_goals go_simp
      · intro V L H w1 hb1 hd
        obtain ⟨⟨hL9, hM9, hH9, hv9, hlt9, hc9_0, hf9_0, hc9_1, hf9_1⟩, ⟨hL7, hM7, hH7, hv7, a9_7, c9_7, hz7⟩, -⟩ := hd
        clear hv7
        rw [hv9, hz7]
        have HV9 := Lib.hid hv9
        have HV7 := Lib.hid hz7
        clear hv9 hz7
        go_wp2_with fail
        refine freePost undef rfl ⟨(Touches.put (L := L 9) (H := H 9) (Touches.put (L := L 9) (H := H 9) Touches.refl (p := ⟨L 9, 0, none⟩) ⟨Nat.le_refl _, hlt9⟩ _) (p := ⟨L 9, 1, none⟩) ⟨Nat.le_refl _, hlt9⟩ _), fun x0 x1 h => ?_⟩
        cases (HV7.out.symm.trans ((upd_ne (by decide)).symm.trans h))
        refine ⟨hlt9, ?_, ?_, ?_, ?_⟩
        all_goals go_simp
      · intro V L H w1 hb1 hd
        obtain ⟨⟨hL8, hM8, hH8, hv8⟩, -⟩ := hd
        clear hv8
        go_wp2_with fail
        exact freePost _ rfl ⟨Below.refl _ _, upd_self.trans (upd_ne (by decide)).symm⟩
      · intro V L H w1 hb1 hd hap hdead
        obtain ⟨⟨hL0, hM0, hH0, hv0⟩, ⟨hL1, hM1, hH1, hv1⟩, ⟨hL2, hM2, hH2, hv2⟩, ⟨hL3, hM3, hH3, hv3⟩, ⟨hL4, hM4, hH4, hv4⟩, ⟨hL5, hM5, hH5, a9, c9, hv5, ho5_0⟩, ⟨hL6, hM6, hH6, hv6, a9_6, c9_6, hz6⟩, ⟨hL7, hM7, hH7, hv7, a9_7, c9_7, hz7⟩, ⟨hL8, hM8, hH8, hv8⟩, ⟨hL10, hM10, hH10, hst10_⟩, ⟨hL11, hM11, hH11, hv11⟩, -⟩ := hd
        have hv6' := hv6.trans hv5
        have hv7' := hv7 _ _ hv6'
        have hv8' := hv8 _ _ hv6'
        have hv11' := hv11.trans hv8'
        obtain ⟨hlt, hc0, hf0, hc1, hf1⟩ := hst10_ _ _ hv7'
        obtain ⟨hLe, hHe, wo, hva, -⟩ := hdead 10 9 (by decide) rfl
        rw [← hLe] at hva
        rw [hv0, hv1, hv2, hv3, hv4, hv5, hv6', hv7', hv8', hva, hv11']
        clear hv0 hv1 hv2 hv3 hv4 hv5 hv6' hv7' hv8' hva hv11' hv6 hv7 hv8 hv11
        clear hLe hHe
        have o0 : w1.cell? ⟨w.heap.size + 2, 0, none⟩ = some (.int .i64 oc.fPos) := (hb1.cell (p := ⟨w.heap.size + 2, 0, none⟩) (by first | omega | (simp; done))).trans o0
        have o1 : w1.cell? ⟨w.heap.size + 2, 1, none⟩ = some (.string oc.fName) := (hb1.cell (p := ⟨w.heap.size + 2, 1, none⟩) (by first | omega | (simp; done))).trans o1
        have HSA : Hid (Sl 0 w1.heap.size w1 4 (symS g.fSymbols (symbolAt x oc.fPos)).fAttributes.length (fun k => DAttribute.ct ((symS g.fSymbols (symbolAt x oc.fPos)).fAttributes.getD k default)) a9) := (ho5_0.mono (Nat.zero_le _) (Nat.le_trans HHI.out hb1.size))
        have HB1 := Lib.hid (HB.out.trans (hb1.mono HB.out.size))
        have hsz1 : w.heap.size + 4 ≤ w1.heap.size := by have := hb1.size; omega
        clear ho5_0 hap hdead
        have HB2b := Lib.hid HB1.out
        have y0 : w1.cell? ⟨w.heap.size + 3, 0, none⟩ = some (.string ⟨#[]⟩) := (hb1.cell (p := ⟨w.heap.size + 3, 0, none⟩) (by first | omega | (simp; done) | (simp; omega))).trans y0
        have y1 : w1.cell? ⟨w.heap.size + 3, 1, none⟩ = some (.int .i64 0) := (hb1.cell (p := ⟨w.heap.size + 3, 1, none⟩) (by first | omega | (simp; done) | (simp; omega))).trans y1
        have y2 : w1.cell? ⟨w.heap.size + 3, 2, none⟩ = some (.int .i64 0) := (hb1.cell (p := ⟨w.heap.size + 3, 2, none⟩) (by first | omega | (simp; done) | (simp; omega))).trans y2
        have y3 : w1.cell? ⟨w.heap.size + 3, 3, none⟩ = some (.bool false) := (hb1.cell (p := ⟨w.heap.size + 3, 3, none⟩) (by first | omega | (simp; done) | (simp; omega))).trans y3
        have f0 : w1.frozen? ⟨w.heap.size + 3, 0, none⟩ = false := (hb1.frozen (p := ⟨w.heap.size + 3, 0, none⟩) (by first | omega | (simp; done) | (simp; omega))).trans f0
        have f1 : w1.frozen? ⟨w.heap.size + 3, 1, none⟩ = false := (hb1.frozen (p := ⟨w.heap.size + 3, 1, none⟩) (by first | omega | (simp; done) | (simp; omega))).trans f1
        have f2 : w1.frozen? ⟨w.heap.size + 3, 2, none⟩ = false := (hb1.frozen (p := ⟨w.heap.size + 3, 2, none⟩) (by first | omega | (simp; done) | (simp; omega))).trans f2
        have f3 : w1.frozen? ⟨w.heap.size + 3, 3, none⟩ = false := (hb1.frozen (p := ⟨w.heap.size + 3, 3, none⟩) (by first | omega | (simp; done) | (simp; omega))).trans f3
        have HGR := Lib.hid ((hb1.block (w.heap.size + 3) (by omega)).trans HGR.out)
        go_wp2_with fail
        refine (impl_FindAttributeL (c0_0 := c9) (symS g.fSymbols (symbolAt x oc.fPos)) HNS.out oc.fName _ (Nat.le_refl _) HSA.out).mono ?_
        rintro e w2 ⟨rfl, hb2⟩
        have HB := Lib.hid (HB1.out.trans (hb2.mono HB1.out.size))
        have hm1 := hb1.size
        have y0 : w2.cell? ⟨w.heap.size + 3, 0, none⟩ = some (.string ⟨#[]⟩) := (hb2.cell (p := ⟨w.heap.size + 3, 0, none⟩) (by first | omega | (simp; done) | (simp; omega))).trans y0
        have y1 : w2.cell? ⟨w.heap.size + 3, 1, none⟩ = some (.int .i64 0) := (hb2.cell (p := ⟨w.heap.size + 3, 1, none⟩) (by first | omega | (simp; done) | (simp; omega))).trans y1
        have y2 : w2.cell? ⟨w.heap.size + 3, 2, none⟩ = some (.int .i64 0) := (hb2.cell (p := ⟨w.heap.size + 3, 2, none⟩) (by first | omega | (simp; done) | (simp; omega))).trans y2
        have y3 : w2.cell? ⟨w.heap.size + 3, 3, none⟩ = some (.bool false) := (hb2.cell (p := ⟨w.heap.size + 3, 3, none⟩) (by first | omega | (simp; done) | (simp; omega))).trans y3
        have f0 : w2.frozen? ⟨w.heap.size + 3, 0, none⟩ = false := (hb2.frozen (p := ⟨w.heap.size + 3, 0, none⟩) (by first | omega | (simp; done) | (simp; omega))).trans f0
        have f1 : w2.frozen? ⟨w.heap.size + 3, 1, none⟩ = false := (hb2.frozen (p := ⟨w.heap.size + 3, 1, none⟩) (by first | omega | (simp; done) | (simp; omega))).trans f1
        have f2 : w2.frozen? ⟨w.heap.size + 3, 2, none⟩ = false := (hb2.frozen (p := ⟨w.heap.size + 3, 2, none⟩) (by first | omega | (simp; done) | (simp; omega))).trans f2
        have f3 : w2.frozen? ⟨w.heap.size + 3, 3, none⟩ = false := (hb2.frozen (p := ⟨w.heap.size + 3, 3, none⟩) (by first | omega | (simp; done) | (simp; omega))).trans f3
        have HGR := Lib.hid ((hb2.block (w.heap.size + 3) (by omega)).trans HGR.out)
        have hsz2 := hb2.size
        have hlt2 : w.heap.size + 3 < w2.heap.size := by omega
        clear hb2 hb1 o0 o1
        generalize hf : findAttr (symS g.fSymbols (symbolAt x oc.fPos)) oc.fName = f at *
        clear hf
        obtain ⟨⟨f1, f2, f3, f4⟩, f5⟩ := f
        dsimp only
        go_wp2
        refine bodyPost_ret (v := .tuple #[.agg #[.string f1, .int .i64 f2, .int .i64 f3, .bool f4], .bool f5]) (results_cell_tmp Try.results69 _ _ (w.heap.size + 3) 108 #[.string f1, .int .i64 f2, .int .i64 f3, .bool f4] (0, 0) _ rfl (by (repeat (with_reducible refine blk_alloc (by simp [World.setCell]; omega) ?_)); refine Eq.trans (blk_set (cs := #[.string f1, .int .i64 f2, .int .i64 f3, .bool false]) (t := 108) (fr := (0, 0)) ?_) rfl; refine Eq.trans (blk_set (cs := #[.string f1, .int .i64 f2, .int .i64 0, .bool false]) (t := 108) (fr := (0, 0)) ?_) rfl; refine Eq.trans (blk_set (cs := #[.string f1, .int .i64 0, .int .i64 0, .bool false]) (t := 108) (fr := (0, 0)) ?_) rfl; refine Eq.trans (blk_set (cs := #[.string ⟨#[]⟩, .int .i64 0, .int .i64 0, .bool false]) (t := 108) (fr := (0, 0)) ?_) rfl; exact HGR.out) Try.underlying108 rfl rfl) rfl ⟨att_ret HP.out rfl, ?_⟩
        exact (by repeat (first | (with_reducible exact HB.out) | (refine Below.setCell ?_ (by first | omega | (simp <;> omega)) _) | (refine Below.alloc ?_ (by first | omega | (simp <;> omega)) _)))
  · have hp' : inR oc.fPos 0 x.fRight.length = false := by simpa using hp
    have HP := Lib.hid (attAt_no (g := g) hp')
    have HI := Lib.hid (fun (W : World) => by have h := impl_hasPosition (a2 := b2) (a4 := b4) (a5 := b5) (c0_0 := c1_0) (c0_1 := c1_1) (c0_2 := c1_2) x hnx oc.fPos W; rw [hp'] at h; exact h)
    clear hp hp'
    go_enter Try.func69, Try.ntmps69
    go_wp2_with fail
    refine (HI.out _).mono ?_
    rintro e w9 ⟨rfl, hb9⟩
    have g0 : w9.cell? ⟨w.heap.size, 0, none⟩ = some (.slice a0 g.fSymbols.length c0_0) := (hb9.cell (p := ⟨w.heap.size, 0, none⟩) (by first | omega | (simp; done) | (simp; omega))).trans (by go_simp)
    have g1 : w9.cell? ⟨w.heap.size, 1, none⟩ = some (.slice a1 g.fRules.length c0_1) := (hb9.cell (p := ⟨w.heap.size, 1, none⟩) (by first | omega | (simp; done) | (simp; omega))).trans (by go_simp)
    have r0 : w9.cell? ⟨w.heap.size + 1, 0, none⟩ = some (.string x.fName) := (hb9.cell (p := ⟨w.heap.size + 1, 0, none⟩) (by first | omega | (simp; done) | (simp; omega))).trans (by go_simp)
    have r1 : w9.cell? ⟨w.heap.size + 1, 1, none⟩ = some (.string x.fLeft) := (hb9.cell (p := ⟨w.heap.size + 1, 1, none⟩) (by first | omega | (simp; done) | (simp; omega))).trans (by go_simp)
    have r2 : w9.cell? ⟨w.heap.size + 1, 2, none⟩ = some (.slice b2 x.fRight.length c1_0) := (hb9.cell (p := ⟨w.heap.size + 1, 2, none⟩) (by first | omega | (simp; done) | (simp; omega))).trans (by go_simp)
    have r3 : w9.cell? ⟨w.heap.size + 1, 3, none⟩ = some (.bool x.fLiteral) := (hb9.cell (p := ⟨w.heap.size + 1, 3, none⟩) (by first | omega | (simp; done) | (simp; omega))).trans (by go_simp)
    have r4 : w9.cell? ⟨w.heap.size + 1, 4, none⟩ = some (.slice b4 x.fEquations.length c1_1) := (hb9.cell (p := ⟨w.heap.size + 1, 4, none⟩) (by first | omega | (simp; done) | (simp; omega))).trans (by go_simp)
    have r5 : w9.cell? ⟨w.heap.size + 1, 5, none⟩ = some (.slice b5 x.fContributions.length c1_2) := (hb9.cell (p := ⟨w.heap.size + 1, 5, none⟩) (by first | omega | (simp; done) | (simp; omega))).trans (by go_simp)
    have o0 : w9.cell? ⟨w.heap.size + 2, 0, none⟩ = some (.int .i64 oc.fPos) := (hb9.cell (p := ⟨w.heap.size + 2, 0, none⟩) (by first | omega | (simp; done) | (simp; omega))).trans (by go_simp)
    have o1 : w9.cell? ⟨w.heap.size + 2, 1, none⟩ = some (.string oc.fName) := (hb9.cell (p := ⟨w.heap.size + 2, 1, none⟩) (by first | omega | (simp; done) | (simp; omega))).trans (by go_simp)
    have y0 : w9.cell? ⟨w.heap.size + 3, 0, none⟩ = some (.string ⟨#[]⟩) := (hb9.cell (p := ⟨w.heap.size + 3, 0, none⟩) (by first | omega | (simp; done) | (simp; omega))).trans (by go_simp)
    have y1 : w9.cell? ⟨w.heap.size + 3, 1, none⟩ = some (.int .i64 0) := (hb9.cell (p := ⟨w.heap.size + 3, 1, none⟩) (by first | omega | (simp; done) | (simp; omega))).trans (by go_simp)
    have y2 : w9.cell? ⟨w.heap.size + 3, 2, none⟩ = some (.int .i64 0) := (hb9.cell (p := ⟨w.heap.size + 3, 2, none⟩) (by first | omega | (simp; done) | (simp; omega))).trans (by go_simp)
    have y3 : w9.cell? ⟨w.heap.size + 3, 3, none⟩ = some (.bool false) := (hb9.cell (p := ⟨w.heap.size + 3, 3, none⟩) (by first | omega | (simp; done) | (simp; omega))).trans (by go_simp)
    have f0 : w9.frozen? ⟨w.heap.size + 3, 0, none⟩ = false := (hb9.frozen (p := ⟨w.heap.size + 3, 0, none⟩) (by first | omega | (simp; done) | (simp; omega))).trans (by go_simp)
    have f1 : w9.frozen? ⟨w.heap.size + 3, 1, none⟩ = false := (hb9.frozen (p := ⟨w.heap.size + 3, 1, none⟩) (by first | omega | (simp; done) | (simp; omega))).trans (by go_simp)
    have f2 : w9.frozen? ⟨w.heap.size + 3, 2, none⟩ = false := (hb9.frozen (p := ⟨w.heap.size + 3, 2, none⟩) (by first | omega | (simp; done) | (simp; omega))).trans (by go_simp)
    have f3 : w9.frozen? ⟨w.heap.size + 3, 3, none⟩ = false := (hb9.frozen (p := ⟨w.heap.size + 3, 3, none⟩) (by first | omega | (simp; done) | (simp; omega))).trans (by go_simp)
    have HGR := Lib.hid ((hb9.block (w.heap.size + 3) (by first | omega | (simp; done) | (simp; omega))).trans (show ((((w.alloc (.cells #[.slice a0 g.fSymbols.length c0_0, .slice a1 g.fRules.length c0_1] 41)).alloc (.cells #[.string x.fName, .string x.fLeft, .slice b2 x.fRight.length c1_0, .bool x.fLiteral, .slice b4 x.fEquations.length c1_1, .slice b5 x.fContributions.length c1_2] 46)).alloc (.cells #[.int .i64 oc.fPos, .string oc.fName] 114)).alloc (.cells #[.string ⟨#[]⟩, .int .i64 0, .int .i64 0, .bool false] 108)).heap[w.heap.size + 3]? = some (.cells #[.string ⟨#[]⟩, .int .i64 0, .int .i64 0, .bool false] 108) from blk_new (by simp)))
    have hsz9 : w.heap.size + 4 ≤ w9.heap.size := by have := hb9.size; simp at this; omega
    have hk0 : w.heap.size + 0 < w9.heap.size := by omega
    have hk1 : w.heap.size + 1 < w9.heap.size := by omega
    have hk2 : w.heap.size + 2 < w9.heap.size := by omega
    have hk3 : w.heap.size + 3 < w9.heap.size := by omega
    have HSY := Lib.hid (HSY.out.later hb9 HHI.out)
    have HR1 := Lib.hid (HR1.out.later hb9 HHI.out)
    have HR2 := Lib.hid (HR2.out.later hb9 HHI.out)
    have HR4 := Lib.hid (HR4.out.later hb9 HHI.out)
    have HR5 := Lib.hid (HR5.out.later hb9 HHI.out)
    have HHI := Lib.hid (Nat.le_trans HHI.out hb9.size)
    have HB := Lib.hid (HB.out.trans (hb9.mono HB.out.size))
    clear hb9
    go_wp2
    refine bodyPost_ret (v := .tuple #[.agg #[.string ⟨#[]⟩, .int .i64 0, .int .i64 0, .bool false], .bool false]) (results_cell_tmp Try.results69 _ _ (w.heap.size + 3) 108 #[.string ⟨#[]⟩, .int .i64 0, .int .i64 0, .bool false] (0, 0) _ rfl (by (repeat (with_reducible refine blk_alloc (by simp [World.setCell]; omega) ?_)); refine Eq.trans (blk_set (cs := #[.string ⟨#[]⟩, .int .i64 0, .int .i64 0, .bool false]) (t := 108) (fr := (0, 0)) ?_) rfl; refine Eq.trans (blk_set (cs := #[.string ⟨#[]⟩, .int .i64 0, .int .i64 0, .bool false]) (t := 108) (fr := (0, 0)) ?_) rfl; refine Eq.trans (blk_set (cs := #[.string ⟨#[]⟩, .int .i64 0, .int .i64 0, .bool false]) (t := 108) (fr := (0, 0)) ?_) rfl; refine Eq.trans (blk_set (cs := #[.string ⟨#[]⟩, .int .i64 0, .int .i64 0, .bool false]) (t := 108) (fr := (0, 0)) ?_) rfl; exact HGR.out) Try.underlying108 rfl rfl) rfl ⟨att_ret HP.out rfl, ?_⟩
    exact (by repeat (first | (with_reducible exact HB.out) | (refine Below.setCell ?_ (by first | omega | (simp <;> omega)) _) | (refine Below.alloc ?_ (by first | omega | (simp <;> omega)) _)))

end Go.Proofs.Ytpipdlgnedhhaaa

namespace Go.Proofs.Ytpipdlgnedhhaaa
open Go.ChangeShapes Go.WideShapes Go.ChangeAt Go.RowKit Go.Deep


/-- The type of an operation, by those of its args. -/
def opT (n : Int) (zs : List Int) : Int := if zs.length ≠ 2 ∨ zs.getD 0 default ≠ oL n ∨ zs.getD 1 default ≠ oR n then 0 else oO n
/-- The type of a remote attribute. -/
def remT (g : DGrammar) (sy nm : ByteArray) (zs : List Int) : Int := if zs.length ≠ 1 ∨ zs.getD 0 default ≠ 4 then 0 else (findAttr (symS g.fSymbols sy) nm).1.fType
def combT (g : DGrammar) (x : DRule) (nd : ENode) (zs : List Int) : Int :=
  if nd.fKind = 1 then nd.fType
  else if nd.fKind = 2 then (if x.fLiteral = true then 1 else 0)
  else if nd.fKind = 3 then (attAt g x ⟨nd.fPos, nd.fName⟩).1.fType
  else if nd.fKind = 4 then opT nd.fN zs
  else if nd.fKind = 5 then ifT zs
  else if nd.fKind = 6 then (if inR nd.fPos 0 x.fRight.length = true then 4 else 0)
  else if nd.fKind = 7 then 4
  else if nd.fKind = 8 then remT g nd.fSymbol nd.fName zs
  else 0
section
variable {g : DGrammar} {x : DRule} {nd : ENode} {zs : List Int}
theorem combT_1 (h : nd.fKind = 1) : combT g x nd zs = nd.fType := by unfold combT; rw [if_pos h]
theorem combT_2 (h : nd.fKind = 2) : combT g x nd zs = (if x.fLiteral = true then 1 else 0) := by unfold combT; rw [if_neg (by omega), if_pos h]
theorem combT_3 (h : nd.fKind = 3) : combT g x nd zs = (attAt g x ⟨nd.fPos, nd.fName⟩).1.fType := by unfold combT; rw [if_neg (by omega), if_neg (by omega), if_pos h]
theorem combT_4 (h : nd.fKind = 4) : combT g x nd zs = opT nd.fN zs := by unfold combT; rw [if_neg (by omega), if_neg (by omega), if_neg (by omega), if_pos h]
theorem combT_5 (h : nd.fKind = 5) : combT g x nd zs = ifT zs := by unfold combT; rw [if_neg (by omega), if_neg (by omega), if_neg (by omega), if_neg (by omega), if_pos h]
theorem combT_6 (h : nd.fKind = 6) : combT g x nd zs = (if inR nd.fPos 0 x.fRight.length = true then 4 else 0) := by unfold combT; rw [if_neg (by omega), if_neg (by omega), if_neg (by omega), if_neg (by omega), if_neg (by omega), if_pos h]
theorem combT_7 (h : nd.fKind = 7) : combT g x nd zs = 4 := by unfold combT; rw [if_neg (by omega), if_neg (by omega), if_neg (by omega), if_neg (by omega), if_neg (by omega), if_neg (by omega), if_pos h]
theorem combT_8 (h : nd.fKind = 8) : combT g x nd zs = remT g nd.fSymbol nd.fName zs := by unfold combT; rw [if_neg (by omega), if_neg (by omega), if_neg (by omega), if_neg (by omega), if_neg (by omega), if_neg (by omega), if_neg (by omega), if_pos h]
theorem combT_0 (h : nd.fKind < 1 ∨ 8 < nd.fKind) : combT g x nd zs = 0 := by unfold combT; rw [if_neg (by omega), if_neg (by omega), if_neg (by omega), if_neg (by omega), if_neg (by omega), if_neg (by omega), if_neg (by omega), if_neg (by omega)]
end
theorem combT_depth (g : DGrammar) (x : DRule) (e : DExpr) (d : Nat) (zs : List Int) : combT g x (nodeOfX e d) zs = combT g x (nodeOfX e 0) zs := rfl
theorem foldT_list (g : DGrammar) (x : DRule) (d : Nat) : ∀ es : List DExpr, (∀ a ∈ es, ∀ d, foldX (combT g x) a d = foldX (combT g x) a 0) → foldL (combT g x) es d = es.map fun e => foldX (combT g x) e 0
  | [], _ => rfl
  | e :: es, h => by
    show foldX (combT g x) e d :: foldL (combT g x) es d = _
    rw [h e (List.mem_cons_self ..), foldT_list g x d es fun a ha => h a (List.mem_cons_of_mem _ ha), List.map_cons]
theorem foldT_depth (g : DGrammar) (x : DRule) : ∀ (e : DExpr) (d : Nat), foldX (combT g x) e d = foldX (combT g x) e 0 := by
  intro e
  refine DExpr.ind (P := fun e => ∀ d, foldX (combT g x) e d = foldX (combT g x) e 0) (fun e ih d => ?_) e
  rw [foldX_eq, foldX_eq, foldT_list g x _ _ ih, foldT_list g x _ _ ih]
  rfl
/-- The type of an expression. -/
def typeX (g : DGrammar) (x : DRule) (e : DExpr) : Int := foldX (combT g x) e 0
theorem typeX_eq (g : DGrammar) (x : DRule) (e : DExpr) : typeX g x e = combT g x (nodeOfX e 0) (e.fArgs.map (typeX g x)) := by
  show foldX (combT g x) e 0 = _
  rw [foldX_eq, foldT_list g x _ _ (fun a _ => foldT_depth g x a)]
  rfl
theorem typeX_at {g : DGrammar} {x : DRule} {es : List DExpr} {k : Nat} (hk : k < es.length) : (es.map (typeX g x)).getD k default = typeX g x (es.getD k default) := by
  rw [List.getD_eq_getElem?_getD, List.getD_eq_getElem?_getD, List.getElem?_map, List.getElem?_eq_getElem hk]
  rfl
theorem mem_nodesL {nd : ENode} (d : Nat) : ∀ {l : List DExpr}, nd ∈ nodesL l d → ∃ e ∈ l, nd ∈ nodesX e d
  | [], h => by simp [nodesL] at h
  | e :: es, h => by
    have h' : nd ∈ nodesX e d ++ nodesL es d := h
    rcases List.mem_append.1 h' with h1 | h1
    · exact ⟨e, List.mem_cons_self .., h1⟩
    · obtain ⟨a, ha, h2⟩ := mem_nodesL d h1
      exact ⟨a, List.mem_cons_of_mem _ ha, h2⟩
/-- What the nodes of an expression of a size have. -/
theorem node_in (e : DExpr) : e.ok → e.sz ≤ 1048576 → ∀ (d : Nat) (nd : ENode), nd ∈ nodesX e d → okI nd.fPos ∧ nd.fName.size ≤ 1048576 ∧ nd.fSymbol.size ≤ 1048576 := by
  refine DExpr.ind (P := fun e => e.ok → e.sz ≤ 1048576 → ∀ (d : Nat) (nd : ENode), nd ∈ nodesX e d → okI nd.fPos ∧ nd.fName.size ≤ 1048576 ∧ nd.fSymbol.size ≤ 1048576) (fun e ih hok hsz d nd h => ?_) e
  rw [nodesX_eq] at h
  rw [DExpr.ok_iff] at hok
  rw [DExpr.sz_eq] at hsz
  rcases List.mem_cons.1 h with rfl | h
  · exact ⟨hok.2.2.1, by show e.fName.size ≤ _; omega, by show e.fSymbol.size ≤ _; omega⟩
  · obtain ⟨a, ha, h1⟩ := mem_nodesL _ h
    obtain ⟨k, hk, e1⟩ := List.getElem_of_mem ha
    have h2 := szle_at (f := DExpr.sz) e.fArgs k hk
    rw [List.getD_eq_getElem?_getD, List.getElem?_eq_getElem hk, Option.getD_some, e1] at h2
    exact ih a ha (hok.2.2.2.2.2.2.2 a ha) (by omega) _ nd h1

theorem rightlen' {x : DRule} (h : x.sz ≤ 1048576) : x.fRight.length ≤ 1048576 := by unfold DRule.sz lsz at h; omega

set_option maxHeartbeats 6400000 in
set_option maxRecDepth 100000 in
theorem typeOfSelf {c : Nat} {a a0 a1 b2 b4 b5 : Option Addr} {c0_0 c0_1 c1_0 c1_1 c1_2 : Nat} (g : DGrammar) (x : DRule) (hszx : x.sz ≤ 1048576) (w : World) (nd : ENode) (zs : List Int) :
    Calls Try.prog 55 #[.agg #[.slice a0 g.fSymbols.length c0_0, .slice a1 g.fRules.length c0_1, .string x.fName, .string x.fLeft, .slice b2 x.fRight.length c1_0, .bool x.fLiteral, .slice b4 x.fEquations.length c1_1, .slice b5 x.fContributions.length c1_2], .agg #[.int .i64 nd.fKind, .int .i64 nd.fN, .int .i64 nd.fPos, .int .i64 nd.fType, .string nd.fSymbol, .string nd.fName, .int .i64 (nd.fArgs : Int), .int .i64 (nd.fDepth : Int)], .slice a zs.length c] w fun e w' => e = .returned (.int .i64 ((if inR nd.fPos 0 x.fRight.length = true then 4 else 0))) ∧ Below w.heap.size w w' := by
  have HB := Lib.hid (((Below.refl w.heap.size w).alloc (Nat.le_refl _) (.cells #[.slice a0 g.fSymbols.length c0_0, .slice a1 g.fRules.length c0_1, .string x.fName, .string x.fLeft, .slice b2 x.fRight.length c1_0, .bool x.fLiteral, .slice b4 x.fEquations.length c1_1, .slice b5 x.fContributions.length c1_2] 72)).alloc (by simp) (.cells #[.int .i64 nd.fKind, .int .i64 nd.fN, .int .i64 nd.fPos, .int .i64 nd.fType, .string nd.fSymbol, .string nd.fName, .int .i64 (nd.fArgs : Int), .int .i64 (nd.fDepth : Int)] 79))
  have HP := Lib.hid (fun (W : World) => impl_hasPosition (a2 := b2) (a4 := b4) (a5 := b5) (c0_0 := c1_0) (c0_1 := c1_1) (c0_2 := c1_2) x (rightlen' hszx) nd.fPos W)
  clear hszx
  cases hb : inR nd.fPos 0 x.fRight.length
  · rw [hb] at HP
    clear hb
    go_enter Try.func55, Try.ntmps55
    go_wp2_with fail
    refine (HP.out _).mono ?_
    rintro e w1 ⟨rfl, hb1⟩
    have HB1 := Lib.hid (HB.out.trans (hb1.mono HB.out.size))
    clear hb1
    go_wp2
    go_ret
    exact ⟨rfl, HB1.out⟩
  · rw [hb] at HP
    clear hb
    go_enter Try.func55, Try.ntmps55
    go_wp2_with fail
    refine (HP.out _).mono ?_
    rintro e w1 ⟨rfl, hb1⟩
    have HB1 := Lib.hid (HB.out.trans (hb1.mono HB.out.size))
    clear hb1
    go_wp2
    go_ret
    exact ⟨rfl, HB1.out⟩

set_option maxHeartbeats 6400000 in
set_option maxRecDepth 100000 in
theorem typeOfAttr {lo hi c : Nat} {a : Option Addr} {a0 a1 b2 b4 b5 : Option Addr} {c0_0 c0_1 c1_0 c1_1 c1_2 : Nat} (g : DGrammar) (okg : g.ok) (hszg : g.sz ≤ 1048576) (x : DRule) (okx : x.ok) (hszx : x.sz ≤ 1048576) (w : World) (hhi : hi ≤ w.heap.size) (hs0 : Sl lo hi w 2 g.fSymbols.length (fun k => DSymbol.ct (g.fSymbols.getD k default)) a0) (hs1 : Sl lo hi w 6 g.fRules.length (fun k => DRule.ct (g.fRules.getD k default)) a1) (hs2 : Sl lo hi w 1 x.fRight.length (fun k => ictS (x.fRight.getD k default)) b2) (hs4 : Sl lo hi w 9 x.fEquations.length (fun k => DEquation.ct (x.fEquations.getD k default)) b4) (hs5 : Sl lo hi w 16 x.fContributions.length (fun k => DContribution.ct (x.fContributions.getD k default)) b5) (nd : ENode) (zs : List Int) (okp : okI nd.fPos) (hn : nd.fName.size ≤ 1048576) :
    Calls Try.prog 52 #[.agg #[.slice a0 g.fSymbols.length c0_0, .slice a1 g.fRules.length c0_1, .string x.fName, .string x.fLeft, .slice b2 x.fRight.length c1_0, .bool x.fLiteral, .slice b4 x.fEquations.length c1_1, .slice b5 x.fContributions.length c1_2], .agg #[.int .i64 nd.fKind, .int .i64 nd.fN, .int .i64 nd.fPos, .int .i64 nd.fType, .string nd.fSymbol, .string nd.fName, .int .i64 (nd.fArgs : Int), .int .i64 (nd.fDepth : Int)], .slice a zs.length c] w fun e w' => e = .returned (.int .i64 ((attAt g x ⟨nd.fPos, nd.fName⟩).1.fType)) ∧ Below w.heap.size w w' := by
  have HB := Lib.hid (((Below.refl w.heap.size w).alloc (Nat.le_refl _) (.cells #[.slice a0 g.fSymbols.length c0_0, .slice a1 g.fRules.length c0_1, .string x.fName, .string x.fLeft, .slice b2 x.fRight.length c1_0, .bool x.fLiteral, .slice b4 x.fEquations.length c1_1, .slice b5 x.fContributions.length c1_2] 72)).alloc (by simp) (.cells #[.int .i64 nd.fKind, .int .i64 nd.fN, .int .i64 nd.fPos, .int .i64 nd.fType, .string nd.fSymbol, .string nd.fName, .int .i64 (nd.fArgs : Int), .int .i64 (nd.fDepth : Int)] 79))
  have HA := Lib.hid (impl_attributeAt (c0_0 := c0_0) (c0_1 := c0_1) (c1_0 := c1_0) (c1_1 := c1_1) (c1_2 := c1_2) g okg hszg x okx hszx ⟨nd.fPos, nd.fName⟩ ⟨okp, by show nd.fName.size ≤ _; omega⟩ (by unfold DOccurrence.sz; omega) ((w.alloc (.cells #[.slice a0 g.fSymbols.length c0_0, .slice a1 g.fRules.length c0_1, .string x.fName, .string x.fLeft, .slice b2 x.fRight.length c1_0, .bool x.fLiteral, .slice b4 x.fEquations.length c1_1, .slice b5 x.fContributions.length c1_2] 72)).alloc (.cells #[.int .i64 nd.fKind, .int .i64 nd.fN, .int .i64 nd.fPos, .int .i64 nd.fType, .string nd.fSymbol, .string nd.fName, .int .i64 (nd.fArgs : Int), .int .i64 (nd.fDepth : Int)] 79)) (Nat.le_trans hhi HB.out.size) (hs0.later HB.out hhi) (hs1.later HB.out hhi) (hs2.later HB.out hhi) (hs4.later HB.out hhi) (hs5.later HB.out hhi))
  clear okg hszg okx hszx okp hn hs0 hs1 hs2 hs4 hs5 hhi
  generalize attAt g x ⟨nd.fPos, nd.fName⟩ = q at *
  obtain ⟨⟨q1, q2, q3, q4⟩, q5⟩ := q
  dsimp only at *
  go_enter Try.func52, Try.ntmps52
  go_wp2_with fail
  refine HA.out.mono ?_
  rintro e w1 ⟨rfl, hb1⟩
  have HB1 := Lib.hid (HB.out.trans (hb1.mono HB.out.size))
  clear hb1
  go_wp2
  go_ret
  exact ⟨rfl, HB1.out.alloc (by have := HB1.out.size; omega) _⟩

set_option maxHeartbeats 6400000 in
set_option maxRecDepth 100000 in
theorem typeOfOp {c C : Nat} {a a0 a1 b2 b4 b5 : Option Addr} {c0_0 c0_1 c1_0 c1_1 c1_2 : Nat} (g : DGrammar) (x : DRule) (w : World) (nd : ENode) (zs : List Int) (hown : w.ownsRow C 3 1 (.slice a zs.length c) zs.length (zs.flatMap valsint)) :
    Calls Try.prog 53 #[.agg #[.slice a0 g.fSymbols.length c0_0, .slice a1 g.fRules.length c0_1, .string x.fName, .string x.fLeft, .slice b2 x.fRight.length c1_0, .bool x.fLiteral, .slice b4 x.fEquations.length c1_1, .slice b5 x.fContributions.length c1_2], .agg #[.int .i64 nd.fKind, .int .i64 nd.fN, .int .i64 nd.fPos, .int .i64 nd.fType, .string nd.fSymbol, .string nd.fName, .int .i64 (nd.fArgs : Int), .int .i64 (nd.fDepth : Int)], .slice a zs.length c] w fun e w' => e = .returned (.int .i64 (opT nd.fN zs)) ∧ Below w.heap.size w w' := by
  have HB := Lib.hid (((Below.refl w.heap.size w).alloc (Nat.le_refl _) (.cells #[.slice a0 g.fSymbols.length c0_0, .slice a1 g.fRules.length c0_1, .string x.fName, .string x.fLeft, .slice b2 x.fRight.length c1_0, .bool x.fLiteral, .slice b4 x.fEquations.length c1_1, .slice b5 x.fContributions.length c1_2] 72)).alloc (by simp) (.cells #[.int .i64 nd.fKind, .int .i64 nd.fN, .int .i64 nd.fPos, .int .i64 nd.fType, .string nd.fSymbol, .string nd.fName, .int .i64 (nd.fArgs : Int), .int .i64 (nd.fDepth : Int)] 79))
  have HP := Lib.hid (impl_OperandTypes nd.fN)
  unfold opT
  generalize oL nd.fN = l1 at *
  generalize oR nd.fN = l2 at *
  generalize oO nd.fN = l3 at *
  by_cases hn : zs.length = 2
  · obtain ⟨gb, c2, e2, _, hgl⟩ := own_some hown (by omega)
    simp only [Value.slice.injEq, true_and] at e2
    obtain ⟨rfl, rfl⟩ := e2
    have HX := Lib.hid (fun (W : World) (hW : Below w.heap.size w W) => (show W.cell? ⟨gb, 0, none⟩ = some (.int .i64 (zs.getD 0 default)) ∧ W.cell? ⟨gb, 1, none⟩ = some (.int .i64 (zs.getD 1 default)) from ⟨zs_int (ownsRow_below hown hW) (k := 0) (by omega), zs_int (ownsRow_below hown hW) (k := 1) (by omega)⟩))
    clear hown hgl
    generalize zs.getD 0 default = z0 at *
    generalize zs.getD 1 default = z1 at *
    rw [hn]
    clear hn
    by_cases h0 : z0 = l1
    · by_cases h1 : z1 = l2
      · rw [if_neg (by simp [h0, h1])]
        have q0 : (z0 != l1) = false := by simp [h0]
        have q1 : (z1 != l2) = false := by simp [h1]
        clear h0 h1
        go_enter Try.func53, Try.ntmps53
        go_wp2_with fail
        refine (HP.out _).mono ?_
        rintro e w1 ⟨rfl, hb1⟩
        have HB1 := Lib.hid (HB.out.trans (hb1.mono HB.out.size))
        obtain ⟨x0, x1⟩ := HX.out _ HB1.out
        clear hb1
        go_wp2
        go_ret
        exact ⟨rfl, HB1.out⟩
      · rw [if_pos (by simp [h1])]
        have q0 : (z0 != l1) = false := by simp [h0]
        have q1 : (z1 != l2) = true := bne_iff_ne.2 h1
        clear h0 h1
        go_enter Try.func53, Try.ntmps53
        go_wp2_with fail
        refine (HP.out _).mono ?_
        rintro e w1 ⟨rfl, hb1⟩
        have HB1 := Lib.hid (HB.out.trans (hb1.mono HB.out.size))
        obtain ⟨x0, x1⟩ := HX.out _ HB1.out
        clear hb1
        go_wp2
        go_ret
        exact ⟨rfl, HB1.out⟩
    · rw [if_pos (by simp [h0])]
      have q0 : (z0 != l1) = true := bne_iff_ne.2 h0
      clear h0
      go_enter Try.func53, Try.ntmps53
      go_wp2_with fail
      refine (HP.out _).mono ?_
      rintro e w1 ⟨rfl, hb1⟩
      have HB1 := Lib.hid (HB.out.trans (hb1.mono HB.out.size))
      obtain ⟨x0, x1⟩ := HX.out _ HB1.out
      clear hb1
      go_wp2
      go_ret
      exact ⟨rfl, HB1.out⟩
  · rw [if_pos (.inl hn)]
    have qn : ((zs.length : Int) != 2) = true := bne_iff_ne.2 (by omega)
    clear hown hn
    generalize zs.length = n at *
    go_enter Try.func53, Try.ntmps53
    go_wp2_with fail
    refine (HP.out _).mono ?_
    rintro e w1 ⟨rfl, hb1⟩
    have HB1 := Lib.hid (HB.out.trans (hb1.mono HB.out.size))
    clear hb1
    go_wp2
    go_ret
    exact ⟨rfl, HB1.out⟩

set_option maxHeartbeats 6400000 in
set_option maxRecDepth 100000 in
theorem typeOfRemote {lo hi c C : Nat} {a a0 a1 b2 b4 b5 : Option Addr} {c0_0 c0_1 c1_0 c1_1 c1_2 : Nat} (g : DGrammar) (hszg : g.sz ≤ 1048576) (x : DRule) (w : World) (hhi : hi ≤ w.heap.size) (hs0 : Sl lo hi w 2 g.fSymbols.length (fun k => DSymbol.ct (g.fSymbols.getD k default)) a0) (nd : ENode) (zs : List Int) (hown : w.ownsRow C 3 1 (.slice a zs.length c) zs.length (zs.flatMap valsint)) :
    Calls Try.prog 57 #[.agg #[.slice a0 g.fSymbols.length c0_0, .slice a1 g.fRules.length c0_1, .string x.fName, .string x.fLeft, .slice b2 x.fRight.length c1_0, .bool x.fLiteral, .slice b4 x.fEquations.length c1_1, .slice b5 x.fContributions.length c1_2], .agg #[.int .i64 nd.fKind, .int .i64 nd.fN, .int .i64 nd.fPos, .int .i64 nd.fType, .string nd.fSymbol, .string nd.fName, .int .i64 (nd.fArgs : Int), .int .i64 (nd.fDepth : Int)], .slice a zs.length c] w fun e w' => e = .returned (.int .i64 (remT g nd.fSymbol nd.fName zs)) ∧ Below w.heap.size w w' := by
  have hzs : lsz DSymbol.sz g.fSymbols ≤ 1048576 := by unfold DGrammar.sz at hszg; omega
  have HB := Lib.hid (((Below.refl w.heap.size w).alloc (Nat.le_refl _) (.cells #[.slice a0 g.fSymbols.length c0_0, .slice a1 g.fRules.length c0_1, .string x.fName, .string x.fLeft, .slice b2 x.fRight.length c1_0, .bool x.fLiteral, .slice b4 x.fEquations.length c1_1, .slice b5 x.fContributions.length c1_2] 72)).alloc (by simp) (.cells #[.int .i64 nd.fKind, .int .i64 nd.fN, .int .i64 nd.fPos, .int .i64 nd.fType, .string nd.fSymbol, .string nd.fName, .int .i64 (nd.fArgs : Int), .int .i64 (nd.fDepth : Int)] 79))
  have HNS := Lib.hid (sym_len hzs nd.fSymbol)
  have HS := Lib.hid (fun (W : World) (hW : Below w.heap.size w W) => impl_symbolNamed (c0 := c0_0) (c1 := c0_1) (a1 := a1) (n1 := g.fRules.length) g.fSymbols hzs nd.fSymbol W (Nat.le_trans hhi hW.size) (hs0.later hW hhi))
  have HHI := Lib.hid hhi
  clear hszg hzs hs0 hhi
  unfold remT
  by_cases hn : zs.length = 1
  · obtain ⟨gb, c2, e2, _, hgl⟩ := own_some hown (by omega)
    simp only [Value.slice.injEq, true_and] at e2
    obtain ⟨rfl, rfl⟩ := e2
    have x0 := zs_int (ownsRow_below hown HB.out) (k := 0) (by omega)
    clear hown hgl
    generalize zs.getD 0 default = z0 at *
    rw [hn]
    clear hn
    by_cases h0 : z0 = 4
    · subst h0
      rw [if_neg (by simp)]
      generalize symS g.fSymbols nd.fSymbol = s at *
      have HF := Lib.hid (fun (W : World) (c9 : Nat) (a9 : Option Addr) (h1 : hi ≤ W.heap.size) (h2 : Sl lo hi W 4 s.fAttributes.length (fun k => DAttribute.ct (s.fAttributes.getD k default)) a9) => impl_FindAttributeL (c0_0 := c9) s HNS.out nd.fName W h1 h2)
      generalize findAttr s nd.fName = q at *
      obtain ⟨⟨q1, q2, q3, q4⟩, q5⟩ := q
      dsimp only at *
      go_enter Try.func57, Try.ntmps57
      go_wp2_with fail
      refine (HS.out _ HB.out).mono ?_
      rintro e w1 ⟨⟨a9, c9, rfl, hs9⟩, hb1⟩
      have HB1 := Lib.hid (HB.out.trans (hb1.mono HB.out.size))
      have HS9 := Lib.hid hs9
      have k4 : w1.cell? ⟨w.heap.size + 1, 5, none⟩ = some (.string nd.fName) := (hb1.cell (p := ⟨w.heap.size + 1, 5, none⟩) (by simp)).trans (by go_simp)
      have hk1 : w.heap.size + 1 < w1.heap.size := by have := hb1.size; simp at this; omega
      clear hb1 hs9
      have HSB := Lib.hid (show Below w1.heap.size w1 (w1.alloc (.cells #[.string s.fName, .slice a9 s.fAttributes.length c9] 104)) from (Below.refl _ _).alloc (Nat.le_refl _) _)
      go_wp2_with fail
      refine (HF.out _ c9 a9 (Nat.le_trans HHI.out (HB1.out.trans (HSB.out.mono HB1.out.size)).size) (HS9.out.later (HSB.out.mono HB1.out.size) (by have := HB1.out.size; have := HHI.out; omega))).mono ?_
      rintro e w2 ⟨rfl, hb2⟩
      have HB2 := Lib.hid ((HB1.out.trans (HSB.out.mono HB1.out.size)).trans (hb2.mono (HB1.out.trans (HSB.out.mono HB1.out.size)).size))
      clear hb2
      go_wp2
      go_ret
      exact ⟨rfl, HB2.out.alloc (by have := HB2.out.size; omega) _⟩
    · rw [if_pos (by simp [h0])]
      have q0 : (z0 != 4) = true := bne_iff_ne.2 h0
      clear h0
      go_enter Try.func57, Try.ntmps57
      go_wp2
      go_ret
      exact ⟨rfl, HB.out⟩
  · rw [if_pos (.inl hn)]
    have qn : ((zs.length : Int) != 1) = true := bne_iff_ne.2 (by omega)
    clear hown hn
    generalize zs.length = n at *
    go_enter Try.func57, Try.ntmps57
    go_wp2
    go_ret
    exact ⟨rfl, HB.out⟩
end Go.Proofs.Ytpipdlgnedhhaaa
