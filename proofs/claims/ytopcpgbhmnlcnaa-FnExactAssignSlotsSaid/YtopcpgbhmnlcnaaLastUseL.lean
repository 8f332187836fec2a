/-
  LastUse of both sides, as its law asks.
-/
import Derived.Test.YtopcpgbhmnlcnaaLastUseS
namespace Go.Proofs.Ytopcpgbhmnlcnaa
open Go.ChangeShapes Go.WideShapes Go.ChangeAt Go.RowKit Go.Deep

theorem okMO_of {x : DInstance} (h : x.ok) (hs : x.sz ≤ 1048576) : okMO x := ⟨h.1, by show x.fName.size ≤ maxLen; unfold DInstance.sz at hs; unfold maxLen; omega⟩
theorem step_in (x : DTraceStep) : x.fInputs.length ≤ x.sz ∧ x.fAt.sz ≤ x.sz ∧ lsz DInstance.sz x.fInputs ≤ x.sz := by
  have h : lsz DInstance.sz x.fInputs = x.fInputs.length + (x.fInputs.map DInstance.sz).sum := rfl
  have h2 : x.sz = x.fAt.sz + lsz DInstance.sz x.fInputs := rfl
  omega
theorem tr_in {tr : List DTraceStep} (hsz : lsz DTraceStep.sz tr ≤ 1048576) (k : Nat) (hk : k < tr.length) : (tr.getD k default).fInputs.length ≤ 1048576 := by
  have h := szle_at (f := DTraceStep.sz) tr k hk
  have h2 := step_in (tr.getD k default)
  omega
theorem tr_ok {tr : List DTraceStep} (hok : okL DTraceStep.ok tr) (hsz : lsz DTraceStep.sz tr ≤ 1048576) (k : Nat) (hk : k < tr.length) :
    okMO (tr.getD k default).fAt ∧ ∀ j, j < (tr.getD k default).fInputs.length → okMO ((tr.getD k default).fInputs.getD j default) := by
  have h := szle_at (f := DTraceStep.sz) tr k hk
  have h2 := step_in (tr.getD k default)
  have h3 := hok.at hk
  refine ⟨okMO_of h3.1 (by omega), fun j hj => ?_⟩
  have h4 := szle_at (f := DInstance.sz) (tr.getD k default).fInputs j hj
  exact okMO_of (h3.2.at hj) (by omega)
theorem tr_len {tr : List DTraceStep} (hsz : lsz DTraceStep.sz tr ≤ 1048576) : tr.length ≤ 1048576 := by
  have h : lsz DTraceStep.sz tr = tr.length + (tr.map DTraceStep.sz).sum := rfl
  omega

theorem spec_LastUse {lo hi c0_0 : Nat} {a0 : Option Addr} (l : List DTraceStep) (_ : okL DTraceStep.ok l) (hsz : lsz DTraceStep.sz l ≤ 1048576) (x : Int) (hx : okI x) (w : World) (hhi : hi ≤ w.heap.size) (hs : Sl lo hi w 3 l.length (fun k => DTraceStep.ct (l.getD k default)) a0) :
    Calls Try.prog 7 #[.slice a0 l.length c0_0, .int .i64 x] w fun e w' => e = .returned (.int .i64 (lastUse l x)) ∧ Below w.heap.size w w' :=
  spec_LastUseU l (tr_len hsz) (tr_in hsz) w hhi hs x hx

theorem impl_LastUse {lo hi c0_0 : Nat} {a0 : Option Addr} (l : List DTraceStep) (hok : okL DTraceStep.ok l) (hsz : lsz DTraceStep.sz l ≤ 1048576) (x : Int) (hx : okI x) (w : World) (hhi : hi ≤ w.heap.size) (hs : Sl lo hi w 3 l.length (fun k => DTraceStep.ct (l.getD k default)) a0) :
    Calls Try.prog 9 #[.slice a0 l.length c0_0, .int .i64 x] w fun e w' => e = .returned (.int .i64 (lastUse l x)) ∧ Below w.heap.size w w' :=
  impl_LastUseU l (tr_len hsz) (tr_in hsz) (tr_ok hok hsz) w hhi hs x hx
end Go.Proofs.Ytopcpgbhmnlcnaa
