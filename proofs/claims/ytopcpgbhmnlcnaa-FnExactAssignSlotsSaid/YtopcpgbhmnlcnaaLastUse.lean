/-
  LastUse, in the program and in the model.
-/
import Derived.Test.YtopcpgbhmnlcnaaUses31
namespace Go.Proofs.Ytopcpgbhmnlcnaa
open Go.ChangeShapes Go.WideShapes Go.ChangeAt Go.RowKit Go.Deep

/-- The last uses were computed. -/
def LUd (w : World) (b : Nat) (aT : Option Addr) (cT : Nat) (tr : List DTraceStep) (kk : Option Value) : Prop :=
  ∃ (a : Option Addr) (c lo9 hi9 : Nat), b < lo9 ∧ hi9 ≤ w.heap.size ∧ UB w b (.slice aT tr.length cT) (.int .u32 1) (.int .i32 0) (.slice a tr.length c) kk ∧ Own w (fun y => lo9 ≤ y ∧ y < hi9) (.sl 1 tr.length (fun i => ictI ((lastL tr tr.length).getD i default))) (.slice a tr.length c)
def LUs (w : World) (b : Nat) (aT : Option Addr) (cT : Nat) (tr : List DTraceStep) (kk : Option Value) : Prop :=
  UB w b (.slice aT tr.length cT) (.int .u32 0) (.int .i32 0) (.slice none 0 0) kk ∨ LUd w b aT cT tr kk
theorem LUd.keep {w w' : World} {b : Nat} {aT : Option Addr} {cT : Nat} {tr : List DTraceStep} {kk : Option Value} (h : LUd w b aT cT tr kk) (hk : Kept (fun y => b ≤ y) w w') (hb : b < w.heap.size) : LUd w' b aT cT tr kk := by
  obtain ⟨a, c, lo9, hi9, h1, h2, h3, h4⟩ := h
  exact ⟨a, c, lo9, hi9, h1, Nat.le_trans h2 hk.1, h3.block (hk.2 b (Nat.le_refl _) hb), h4.kept (hk.sub fun y hy => by have := hy.1; omega)⟩
theorem LUs.keep {w w' : World} {b : Nat} {aT : Option Addr} {cT : Nat} {tr : List DTraceStep} {kk : Option Value} (h : LUs w b aT cT tr kk) (hk : Kept (fun y => b ≤ y) w w') (hb : b < w.heap.size) : LUs w' b aT cT tr kk := by
  rcases h with h | h
  · exact .inl (h.block (hk.2 b (Nat.le_refl _) hb))
  · exact .inr (h.keep hk hb)

set_option maxRecDepth 100000 in
theorem do_uses {lo hi : Nat} {aT : Option Addr} {cT b : Nat} {kk : Option Value} (tr : List DTraceStep) (hn : tr.length ≤ 1048576) (hin : ∀ k, k < tr.length → (tr.getD k default).fInputs.length ≤ 1048576) (hok : ∀ k, k < tr.length → okMO (tr.getD k default).fAt ∧ ∀ j, j < (tr.getD k default).fInputs.length → okMO ((tr.getD k default).fInputs.getD j default)) (w : World) (hhi : hi ≤ b) (hb0 : 0 < b) (hb : b < w.heap.size) (hs : Sl lo hi w 3 tr.length (fun k => DTraceStep.ct (tr.getD k default)) aT) (hl : LUs w b aT cT tr kk) :
    Calls Try.prog 40 #[.pointer (some ⟨b, 1, none⟩), .func (.func 41) #[.pointer (some ⟨b, 0, none⟩)] #[]] w fun e w' => e = .returned (.tuple #[]) ∧ LUd w' b aT cT tr kk ∧ WritesF (fun y => y = b) w w' := by
  rcases hl with h | h
  · have hw2 : WritesF (fun y => y = b) w (w.setCell ⟨b, 2, none⟩ (.int .i32 1)) := (WritesF.refl _ _).setCell (p := ⟨b, 2, none⟩) rfl
    have hc := impl_compute (lo := lo) (hi := hi) (aT := aT) (cT := cT) (b := b) (kk := kk) tr hn hin hok (w.setCell ⟨b, 2, none⟩ (.int .i32 1)) hhi hb0 (by rw [show (w.setCell ⟨b, 2, none⟩ (.int .i32 1)).heap.size = w.heap.size by simp [World.setCell]]; exact hb) (hs.frame fun b9 o h1 h2 => hw2.cellN (p := ⟨b9, o, none⟩) (by show b9 < _; omega) (by show ¬ b9 = b; omega)) (h.set2 (.int .i32 1))
    refine (do_first b 1 ⟨b, 0, none⟩ _ w hc (fun w' hr => ?_) h.c1 h.c2 h.f2).mono ?_
    · obtain ⟨a, c, lo9, _, hu, _, _⟩ := hr
      exact ⟨hu.c1, hu.c2, hu.f1, hu.f2⟩
    · rintro e w' ⟨rfl, w1, ⟨a, c, lo9, hlo, hu, ho, hw⟩, rfl⟩
      have hsz : w.heap.size ≤ lo9 := by rw [show (w.setCell ⟨b, 2, none⟩ (.int .i32 1)).heap.size = w.heap.size by simp [World.setCell]] at hlo; exact hlo
      have hw3 : WritesF (fun y => y = b) w1 ((w1.drew.setCell ⟨b, 1, none⟩ (.int .u32 1)).setCell ⟨b, 2, none⟩ (.int .i32 0)) := (((WritesF.refl (fun y => y = b) w1).later ((Below.refl _ _).drew)).setCell (p := ⟨b, 1, none⟩) rfl).setCell (p := ⟨b, 2, none⟩) rfl
      refine ⟨rfl, ⟨a, c, lo9, w1.heap.size, by omega, hw3.size, (hu.drew.set1 (.int .u32 1)).set2 (.int .i32 0), ho.kept (hw3.kept fun y hy => by have := hy.1; omega)⟩, (hw2.trans hw).trans hw3⟩
  · exact (do_done ⟨b, 1, none⟩ 1 (by decide) _ w (by obtain ⟨a, c, lo9, hi9, _, _, hu, _⟩ := h; exact hu.c1)).mono fun e w' ⟨he, hw⟩ => by subst hw; exact ⟨he, h, WritesF.refl _ _⟩

set_option maxHeartbeats 1600000 in
set_option maxRecDepth 100000 in
theorem impl_of {lo hi : Nat} {aT : Option Addr} {cT b : Nat} {kk : Option Value} (tr : List DTraceStep) (hn : tr.length ≤ 1048576) (hin : ∀ k, k < tr.length → (tr.getD k default).fInputs.length ≤ 1048576) (hok : ∀ k, k < tr.length → okMO (tr.getD k default).fAt ∧ ∀ j, j < (tr.getD k default).fInputs.length → okMO ((tr.getD k default).fInputs.getD j default)) (w : World) (hhi : hi ≤ b) (hb0 : 0 < b) (hb : b < w.heap.size) (hs : Sl lo hi w 3 tr.length (fun k => DTraceStep.ct (tr.getD k default)) aT) (hl : LUs w b aT cT tr kk) (i : Nat) (hi' : i < tr.length) :
    Calls Try.prog 28 #[.pointer (some ⟨b, 0, none⟩), .int .i64 (i : Int)] w fun e w' => e = .returned (.int .i64 (lastU tr i)) ∧ LUd w' b aT cT tr kk ∧ WritesF (fun y => y = b) w w' := by
  have HD := Lib.hid (do_uses tr hn hin hok w hhi hb0 hb hs hl)
  have hmf : ∀ (fn : Fn) (first cap : Array Value) (w : World), (Instr.makeFunc fn first cap).run Try.prog w = .ok (.func fn first cap) w := fun _ _ _ _ => rfl
  have HLA := Lib.hid (lastL_at tr hi')
  clear hin hok hs hl
  go_enter Try.func28, Try.ntmps28
  go_wp2_with fail
  refine HD.out.mono ?_
  rintro e w1 ⟨rfl, hd, hw⟩
  have HLD := Lib.hid hd
  have HW := Lib.hid hw
  obtain ⟨a, c, lo9, hi9, h1, h2, hu, ho⟩ := hd
  have g4 := hu.c4
  obtain ⟨b9, off, rfl, _, _, hc⟩ := (Sl.of (ho.lies (lo := lo9) (hi := hi9) fun y hy => hy)).at i hi'
  obtain ⟨u, hcu, hlu⟩ := hc 0 (by decide)
  have hcs : w1.cell? ⟨b9, off + i, none⟩ = some (.int .i64 (lastU tr i)) := by
    rw [← HLA.out, ← lies_lit hlu]; simpa using hcu
  have hiI : (0 : Int) ≤ (i : Int) ∧ (i : Int) < (tr.length : Int) := by omega
  clear hmf hw hu ho hc hcu hlu HD
  go_wp2
  go_ret
  exact ⟨rfl, HLD.out, HW.out⟩

set_option maxHeartbeats 1600000 in
set_option maxRecDepth 100000 in
theorem impl_LastUseU {lo hi : Nat} {aT : Option Addr} {cT : Nat} (tr : List DTraceStep) (hn : tr.length ≤ 1048576) (hin : ∀ k, k < tr.length → (tr.getD k default).fInputs.length ≤ 1048576) (hok : ∀ k, k < tr.length → okMO (tr.getD k default).fAt ∧ ∀ j, j < (tr.getD k default).fInputs.length → okMO ((tr.getD k default).fInputs.getD j default)) (w : World) (hhi : hi ≤ w.heap.size) (hs : Sl lo hi w 3 tr.length (fun k => DTraceStep.ct (tr.getD k default)) aT) (i : Int) (hiw : -9223372036854775808 ≤ i ∧ i ≤ 9223372036854775807) :
    Calls Try.prog 9 #[.slice aT tr.length cT, .int .i64 i] w fun e w' => e = .returned (.int .i64 (lastUse tr i)) ∧ Below w.heap.size w w' := by
  by_cases hii : 0 ≤ i ∧ i < tr.length
  · obtain ⟨k, rfl⟩ : ∃ k : Nat, i = (k : Int) := ⟨i.toNat, by omega⟩
    have hk : k < tr.length := by omega
    have hw0 : 0 < w.heap.size := by obtain ⟨b9, _, _, _, h, _⟩ := hs.at k hk; omega
    have HB := Lib.hid (show Below w.heap.size w (w.alloc (.cells #[.slice aT tr.length cT, .int .u32 0, .int .i32 0, .int .u32 0, .slice none 0 0] 68)) from (Below.refl _ _).alloc (Nat.le_refl _) _)
    have HBK := Lib.hid (show (w.alloc (.cells #[.slice aT tr.length cT, .int .u32 0, .int .i32 0, .int .u32 0, .slice none 0 0] 68)).heap[w.heap.size]? = some (.cells #[.slice aT tr.length cT, .int .u32 0, .int .i32 0, .int .u32 0, .slice none 0 0] 68) from blk_new rfl)
    have HUB := Lib.hid (show UB (w.alloc (.cells #[.slice aT tr.length cT, .int .u32 0, .int .i32 0, .int .u32 0, .slice none 0 0] 68)) w.heap.size (.slice aT tr.length cT) (.int .u32 0) (.int .i32 0) (.slice none 0 0) none from
      ⟨pblk_cell HBK.out rfl, pblk_cell HBK.out rfl, pblk_cell HBK.out rfl, pblk_cell HBK.out rfl, by simp only [World.cell?, HBK.out]; rfl, pblk_frozen HBK.out, pblk_frozen HBK.out, pblk_frozen HBK.out⟩)
    have HOF := Lib.hid (impl_of (kk := none) tr hn hin hok (w.alloc (.cells #[.slice aT tr.length cT, .int .u32 0, .int .i32 0, .int .u32 0, .slice none 0 0] 68)) hhi hw0 (by simp) (hs.later HB.out hhi) (.inl HUB.out) k hk)
    have HL := Lib.hid (lastUse_in (tr := tr) hk)
    clear hin hok hs HUB HBK
    have hkI : (0 : Int) ≤ (k : Int) ∧ (k : Int) < (tr.length : Int) := by omega
    go_enter Try.func9, Try.ntmps9
    go_wp2_with fail
    refine HOF.out.mono ?_
    rintro e w' ⟨rfl, -, hw⟩
    have HW := Lib.hid (HB.out.trans (hw.below (B := w.heap.size) (fun x hx => by omega) (by simp)))
    clear hw
    go_wp2
    go_ret
    exact ⟨congrArg (fun z => Ending.returned (Value.int .i64 z)) HL.out.symm, HW.out⟩
  · have HL := Lib.hid (lastUse_out (tr := tr) (i := i) hii)
    clear hin hok hs
    by_cases h0 : i < 0
    · go_enter Try.func9, Try.ntmps9
      go_wp2
      go_ret
      exact ⟨congrArg (fun z => Ending.returned (Value.int .i64 z)) HL.out.symm, Below.refl _ _⟩
    · have h1 : (tr.length : Int) ≤ i := by omega
      have h2 : (0 : Int) ≤ i := by omega
      go_enter Try.func9, Try.ntmps9
      go_wp2
      go_ret
      exact ⟨congrArg (fun z => Ending.returned (Value.int .i64 z)) HL.out.symm, Below.refl _ _⟩

set_option maxHeartbeats 1600000 in
set_option maxRecDepth 100000 in
theorem spec_l31Has {lo hi : Nat} {a0 : Option Addr} {c0 : Nat} (l : List DInstance) (hl : l.length ≤ 1048576) (x : DInstance) (w : World) (hhi : hi ≤ w.heap.size) (hs : Sl lo hi w 2 l.length (fun k => DInstance.ct (l.getD k default)) a0) :
    Calls Try.prog 26 #[.slice a0 l.length c0, .agg #[.int .i64 x.fNode, .string x.fName]] w fun e w' => e = .returned (.bool (hasI l x)) ∧ Below w.heap.size w w' := by
  have HB := Lib.hid (show Below w.heap.size w (w.alloc (.cells #[.int .i64 x.fNode, .string x.fName] 51)) from (Below.refl _ _).alloc (Nat.le_refl _) _)
  have HI := Lib.hid (spec_InstanceIndex (c0_0 := c0) l hl x (w.alloc (.cells #[.int .i64 x.fNode, .string x.fName] 51)) (Nat.le_trans hhi HB.out.size) (hs.later HB.out hhi))
  have HH := Lib.hid (hasI_idx l x)
  clear hs
  go_enter Try.func26, Try.ntmps26
  go_wp2_with fail
  refine HI.out.mono ?_
  rintro e w' ⟨rfl, hb⟩
  have HW := Lib.hid (HB.out.trans (hb.mono HB.out.size))
  clear hb HI
  go_wp2
  go_ret
  exact ⟨congrArg (fun z => Ending.returned (Value.bool z)) HH.out, HW.out⟩
end Go.Proofs.Ytopcpgbhmnlcnaa
