/-
  Traces: where the value of a step is used last. Maps keyed by instances.
-/
import Derived.Test.YtopcpgbhmnlcnaaInstIdxL
import Derived.Test.YtopcpgbhmnlcnaaTTraceStep
import Derived.Test.YtopcpgbhmnlcnaaMapF
namespace Go.Proofs.Ytopcpgbhmnlcnaa
open Go.ChangeShapes Go.WideShapes Go.ChangeAt Go.RowKit Go.Deep

instance decInst : DecidableEq DInstance := fun a b =>
  if h : a.fNode = b.fNode ∧ a.fName = b.fName then isTrue (by cases a; cases b; simp only at h; rw [h.1, h.2]) else isFalse (fun e => h (by rw [e]; exact ⟨rfl, rfl⟩))
def hasI (l : List DInstance) (x : DInstance) : Bool := decide (x ∈ l)
theorem PInst_eq {x y : DInstance} (h : PInstance x y = true) : y = x := by
  unfold PInstance at h
  rw [Bool.and_eq_true, beq_iff_eq, beq_iff_eq] at h
  have := toList_injI h.2
  cases x; cases y
  dsimp only at h this
  rw [h.1, this]
theorem hasI_idx (l : List DInstance) (x : DInstance) : decide (0 ≤ indexInstance l x) = hasI l x := by
  have h : 0 ≤ idxI (PInstance x) l ↔ x ∈ l := by
    unfold idxI
    cases hf : l.findIdx? (PInstance x) with
    | none =>
      rw [List.findIdx?_eq_none_iff] at hf
      refine ⟨fun h => ?_, fun hm => ?_⟩
      · have h' : (0 : Int) ≤ -1 := h
        omega
      · have := hf x hm
        rw [PInstance_yes rfl rfl] at this
        cases this
    | some k =>
      obtain ⟨hk, hp, _⟩ := List.findIdx?_eq_some_iff_getElem.1 hf
      refine ⟨fun _ => ?_, fun _ => by show (0 : Int) ≤ (k : Int); omega⟩
      rw [← PInst_eq hp]
      exact List.getElem_mem hk
  unfold hasI indexInstance
  exact decide_eq_decide.2 h
theorem hasI_take {l : List DInstance} {j : Nat} (hj : j < l.length) (x : DInstance) : hasI (l.take (j + 1)) x = (hasI (l.take j) x || decide (x = l.getD j default)) := by
  unfold hasI
  rw [List.take_succ_eq_append_getElem hj, List.getD_eq_getElem?_getD, List.getElem?_eq_getElem hj, Option.getD_some]
  rw [Bool.eq_iff_iff, Bool.or_eq_true, decide_eq_true_eq, decide_eq_true_eq, decide_eq_true_eq, List.mem_append, List.mem_singleton]
/-- The last step below k that reads x; 0 where there is none. -/
def lastI (tr : List DTraceStep) (x : DInstance) : Nat → Int
  | 0 => 0
  | k + 1 => if hasI (tr.getD k default).fInputs x = true then (k : Int) else lastI tr x k
theorem lastI_le (tr : List DTraceStep) (x : DInstance) : ∀ k, 0 ≤ lastI tr x k ∧ (lastI tr x k = 0 ∨ lastI tr x k < k)
  | 0 => ⟨Int.le_refl _, .inl rfl⟩
  | k + 1 => by
    have ih := lastI_le tr x k
    unfold lastI
    split
    · exact ⟨by omega, .inr (by omega)⟩
    · exact ⟨ih.1, by omega⟩
/-- .. of the first j inputs of step k, and of all steps before it. -/
def lastJ (tr : List DTraceStep) (k j : Nat) (x : DInstance) : Int := if hasI ((tr.getD k default).fInputs.take j) x = true then (k : Int) else lastI tr x k
theorem lastJ_zero (tr : List DTraceStep) (k : Nat) (x : DInstance) : lastJ tr k 0 x = lastI tr x k := by
  unfold lastJ
  rw [List.take_zero, if_neg]
  unfold hasI
  simp
theorem lastJ_all (tr : List DTraceStep) (k : Nat) (x : DInstance) : lastJ tr k (tr.getD k default).fInputs.length x = lastI tr x (k + 1) := by
  unfold lastJ
  rw [List.take_length]
  rfl
theorem lastJ_put {tr : List DTraceStep} {k j : Nat} (hj : j < (tr.getD k default).fInputs.length) : lastJ tr k (j + 1) ((tr.getD k default).fInputs.getD j default) = (k : Int) := by
  unfold lastJ
  rw [if_pos]
  rw [hasI_take hj]
  simp
theorem lastJ_other {tr : List DTraceStep} {k j : Nat} (hj : j < (tr.getD k default).fInputs.length) {y : DInstance} (hy : y ≠ (tr.getD k default).fInputs.getD j default) : lastJ tr k (j + 1) y = lastJ tr k j y := by
  unfold lastJ
  rw [hasI_take hj, decide_eq_false hy, Bool.or_false]
def lastU (tr : List DTraceStep) (i : Nat) : Int := max (i : Int) (lastI tr (tr.getD i default).fAt tr.length)
theorem lastU_bd (tr : List DTraceStep) {i : Nat} (hi : i < tr.length) : (i : Int) ≤ lastU tr i ∧ lastU tr i < tr.length := by
  have h := lastI_le tr (tr.getD i default).fAt tr.length
  unfold lastU
  omega
def lastUse (tr : List DTraceStep) (i : Int) : Int := if 0 ≤ i ∧ i < tr.length then lastU tr i.toNat else -1
theorem lastUse_in {tr : List DTraceStep} {i : Nat} (h : i < tr.length) : lastUse tr i = lastU tr i := by unfold lastUse; rw [if_pos ⟨by omega, by omega⟩, Int.toNat_natCast]
theorem lastUse_out {tr : List DTraceStep} {i : Int} (h : ¬ (0 ≤ i ∧ i < tr.length)) : lastUse tr i = -1 := by unfold lastUse; rw [if_neg h]
/-- All of them, as a list. -/
def lastL (tr : List DTraceStep) (k : Nat) : List Int := (List.range k).map (lastU tr)
theorem lastL_len (tr : List DTraceStep) (k : Nat) : (lastL tr k).length = k := by unfold lastL; simp
theorem lastL_step (tr : List DTraceStep) (k : Nat) : lastL tr (k + 1) = lastL tr k ++ [lastU tr k] := by unfold lastL; rw [List.range_succ, List.map_append]; rfl
theorem lastL_at (tr : List DTraceStep) {k i : Nat} (h : i < k) : (lastL tr k).getD i default = lastU tr i := by unfold lastL; simp [List.getD_eq_getElem?_getD, h]

/-! Maps keyed by instances. -/
def embO (x : DInstance) : Value := .agg #[.int .i64 x.fNode, .string x.fName]
def okMO (x : DInstance) : Prop := okMI x.fNode ∧ okMS x.fName
theorem rowInst : (51 : TypeId) < Try.prog.types.size := of_decide_eq_true (by kernel_rfl)
theorem wideInst : (match Try.prog.underlying 51 with | some (.array _ _) | some (.struct _) => true | _ => false) = true := by kernel_rfl
set_option maxRecDepth 100000 in
theorem keyedInst : Maps.Keyed Try.prog 51 := Maps.Keyed.of_law (deep_law_laid laidOut (m := 3) (by omega) rowInst (by kernel_rfl) wideInst)
theorem keyInst (x : DInstance) (h : okMO x) : ∃ l, keyOf Try.prog 51 (embO x) = some l := by
  obtain ⟨n, s⟩ := x
  have hn : (Lit.int .i64 n).wf = true := WalkArith.wf_i64 h.1
  have hs : s.size ≤ maxLen := h.2
  have h1 : Try.prog.keyType 51 = true := by kernel_rfl
  have hc : Try.prog.cellsOf 51 = 2 := by kernel_rfl
  have hci : Try.prog.cellsOf 3 = 1 := by kernel_rfl
  have hcs : Try.prog.cellsOf 9 = 1 := by kernel_rfl
  have h2 : (embO ⟨n, s⟩).formed Try.prog 51 = true := by
    unfold embO Value.formed
    simp [Try.underlying51, hc]
  have h3 : ∀ d, Try.prog.keyLits (d + 2) 51 [.int .i64 n, .string s] = some [.int .i64 n, .string s.data.toList] := by
    intro d
    simp [Program.keyLits, Try.underlying51, Try.underlying3, Try.underlying9, hn, hs, hc, hci, hcs]
  obtain ⟨d, hd⟩ : ∃ d, Try.prog.types.size + 1 = d + 2 := ⟨_, show Try.prog.types.size + 1 = (Try.prog.types.size - 1) + 2 by have : 0 < Try.prog.types.size := Nat.lt_of_le_of_lt (Nat.zero_le _) rowInst; omega⟩
  refine ⟨.string (keyBytes [.int .i64 n, .string s.data.toList]), ?_⟩
  unfold keyOf
  rw [Try.underlying51]
  simp only [h1, h2, Bool.and_self, if_true]
  rw [hd]
  show Option.map _ (Try.prog.keyLits (d + 2) 51 [.int .i64 n, .string s]) = _
  rw [h3]
  rfl
theorem mapK_OI : MapK Try.prog 91 51 3 okMO embO okMI valI litI 0 :=
  ⟨keyedInst, Try.underlying91, keyInst, fun x y _ _ h => by cases x; cases y; simp only [embO, Value.agg.injEq] at h; simp at h; rw [h.1, h.2], valI_read Try.underlying3, valI_back Try.underlying3, fun w => by kernel_rfl, by unfold okMI; omega⟩
theorem mapK_OB : MapK Try.prog 85 51 4 okMO embO (fun _ => True) valB litB false :=
  ⟨keyedInst, Try.underlying85, keyInst, fun x y _ _ h => by cases x; cases y; simp only [embO, Value.agg.injEq] at h; simp at h; rw [h.1, h.2], fun v _ => plainElem_bool Try.underlying4 v, valB_back Try.underlying4, fun w => by kernel_rfl, trivial⟩
end Go.Proofs.Ytopcpgbhmnlcnaa
