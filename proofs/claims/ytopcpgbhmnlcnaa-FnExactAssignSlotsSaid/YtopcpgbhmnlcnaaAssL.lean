/-
  AssignSlots of both sides, as its law asks.
-/
import Derived.Test.YtopcpgbhmnlcnaaAssS
namespace Go.Proofs.Ytopcpgbhmnlcnaa
open Go.ChangeShapes Go.WideShapes Go.ChangeAt Go.RowKit Go.Deep

def asgCells (t : List DTraceStep) (k : List DInstance) : List Int := (asg t k t.length).1
def asgCount (t : List DTraceStep) (k : List DInstance) : Int := ((asg t k t.length).2.length : Nat)
theorem asgCells_len {t : List DTraceStep} (h : lsz DTraceStep.sz t ≤ 1048576) (k : List DInstance) : (asgCells t k).length ≤ 1048576 := by
  unfold asgCells
  rw [asg_len1]
  exact tr_len h
theorem asgCells_sz {t : List DTraceStep} (h : lsz DTraceStep.sz t ≤ 1048576) (k : List DInstance) : lsz (fun _ => 0) (asgCells t k) ≤ 1048576 := by rw [lsz_zero]; exact asgCells_len h k
/-- What a call hands out: the cells, in blocks of its own, and their number. -/
def AsgOut (w : World) (K : List Int) (z : Int) (e : Ending) (w' : World) : Prop := ∃ a c, e = .returned (.tuple #[.slice a K.length c, .int .i64 z]) ∧ Own w' (fun y => w.heap.size ≤ y ∧ y < w'.heap.size) (.sl 1 K.length (fun k => ictI (K.getD k default))) (.slice a K.length c) ∧ Below w.heap.size w w'
theorem asg_out {t : List DTraceStep} {k : List DInstance} {w : World} {e : Ending} {w' : World} (h : ∃ (ac : Option Addr) (cc : Nat), e = .returned (.tuple #[.slice ac t.length cc, .int .i64 ((asg t k t.length).2.length : Nat)]) ∧
      Own w' (fun y => w.heap.size ≤ y ∧ y < w'.heap.size) (.sl 1 t.length (fun q => ictI ((asg t k t.length).1.getD q default))) (.slice ac t.length cc) ∧ Below w.heap.size w w') : AsgOut w (asgCells t k) (asgCount t k) e w' := by
  obtain ⟨a, c, he, ho, hb⟩ := h
  have hl : (asgCells t k).length = t.length := asg_len1 t k t.length
  refine ⟨a, c, by rw [hl]; exact he, ?_, hb⟩
  rw [hl]
  exact ho

theorem spec_AssignSlots {lo hi c0_0 c1_0 : Nat} {a0 a1 : Option Addr} (t : List DTraceStep) (_ : okL DTraceStep.ok t) (hst : lsz DTraceStep.sz t ≤ 1048576) (k : List DInstance) (_ : okL DInstance.ok k) (hsk : lsz DInstance.sz k ≤ 1048576) (w : World) (hhi : hi ≤ w.heap.size)
    (hs0 : Sl lo hi w 3 t.length (fun q => DTraceStep.ct (t.getD q default)) a0) (hs1 : Sl lo hi w 2 k.length (fun q => DInstance.ct (k.getD q default)) a1) :
    Calls Try.prog 18 #[.slice a0 t.length c0_0, .slice a1 k.length c1_0] w (AsgOut w (asgCells t k) (asgCount t k)) :=
  (spec_AssignSlotsU t (tr_len hst) (tr_in hst) k (kp_len hsk) w hhi hs0 hs1).mono fun _ _ h => asg_out h

theorem impl_AssignSlots {lo hi c0_0 c1_0 : Nat} {a0 a1 : Option Addr} (t : List DTraceStep) (okt : okL DTraceStep.ok t) (hst : lsz DTraceStep.sz t ≤ 1048576) (k : List DInstance) (okk : okL DInstance.ok k) (hsk : lsz DInstance.sz k ≤ 1048576) (w : World) (hhi : hi ≤ w.heap.size)
    (hs0 : Sl lo hi w 3 t.length (fun q => DTraceStep.ct (t.getD q default)) a0) (hs1 : Sl lo hi w 2 k.length (fun q => DInstance.ct (k.getD q default)) a1) :
    Calls Try.prog 19 #[.slice a0 t.length c0_0, .slice a1 k.length c1_0] w (AsgOut w (asgCells t k) (asgCount t k)) :=
  (impl_AssignSlotsU t (tr_len hst) (tr_in hst) (tr_ok okt hst) k (kp_len hsk) (kp_ok okk hsk) w hhi hs0 hs1).mono fun _ _ h => asg_out h
end Go.Proofs.Ytopcpgbhmnlcnaa
