/-
  CheckSlots of both sides, as its law asks.
-/
import Derived.Test.YtopcpgbhmnlcnaaCheckS2
namespace Go.Proofs.Ytopcpgbhmnlcnaa
open Go.ChangeShapes Go.WideShapes Go.ChangeAt Go.RowKit Go.Deep

theorem kp_len {kp : List DInstance} (hsz : lsz DInstance.sz kp ≤ 1048576) : kp.length ≤ 1048576 := by
  have h : lsz DInstance.sz kp = kp.length + (kp.map DInstance.sz).sum := rfl
  omega
theorem kp_ok {kp : List DInstance} (hok : okL DInstance.ok kp) (hsz : lsz DInstance.sz kp ≤ 1048576) (j : Nat) (hj : j < kp.length) : okMO (kp.getD j default) := by
  have h4 := szle_at (f := DInstance.sz) kp j hj
  exact okMO_of (hok.at hj) (by omega)
theorem spec_CheckSlots {lo hi c0_0 c1_0 c2_0 : Nat} {a0 a1 a2 : Option Addr} (t : List DTraceStep) (_ : okL DTraceStep.ok t) (hst : lsz DTraceStep.sz t ≤ 1048576) (k : List DInstance) (_ : okL DInstance.ok k) (hsk : lsz DInstance.sz k ≤ 1048576) (c : List Int) (_ : okL okI c) (_ : lsz (fun _ => 0) c ≤ 1048576) (w : World) (hhi : hi ≤ w.heap.size)
    (hs0 : Sl lo hi w 3 t.length (fun q => DTraceStep.ct (t.getD q default)) a0) (hs1 : Sl lo hi w 2 k.length (fun q => DInstance.ct (k.getD q default)) a1) (hs2 : Sl lo hi w 1 c.length (fun q => ictI (c.getD q default)) a2) :
    Calls Try.prog 12 #[.slice a0 t.length c0_0, .slice a1 k.length c1_0, .slice a2 c.length c2_0] w fun e w' => e = .returned (.bool (checkS t k c)) ∧ Below w.heap.size w w' :=
  spec_CheckSlotsU t (tr_len hst) (tr_in hst) k (kp_len hsk) c w hhi hs0 hs1 hs2

theorem impl_CheckSlots {lo hi c0_0 c1_0 c2_0 : Nat} {a0 a1 a2 : Option Addr} (t : List DTraceStep) (okt : okL DTraceStep.ok t) (hst : lsz DTraceStep.sz t ≤ 1048576) (k : List DInstance) (okk : okL DInstance.ok k) (hsk : lsz DInstance.sz k ≤ 1048576) (c : List Int) (okc : okL okI c) (_ : lsz (fun _ => 0) c ≤ 1048576) (w : World) (hhi : hi ≤ w.heap.size)
    (hs0 : Sl lo hi w 3 t.length (fun q => DTraceStep.ct (t.getD q default)) a0) (hs1 : Sl lo hi w 2 k.length (fun q => DInstance.ct (k.getD q default)) a1) (hs2 : Sl lo hi w 1 c.length (fun q => ictI (c.getD q default)) a2) :
    Calls Try.prog 15 #[.slice a0 t.length c0_0, .slice a1 k.length c1_0, .slice a2 c.length c2_0] w fun e w' => e = .returned (.bool (checkS t k c)) ∧ Below w.heap.size w w' :=
  impl_CheckSlotsU t (tr_len hst) (tr_in hst) (tr_ok okt hst) k (kp_len hsk) (kp_ok okk hsk) c (fun _ hj => okc.at hj) w hhi hs0 hs1 hs2
end Go.Proofs.Ytopcpgbhmnlcnaa
