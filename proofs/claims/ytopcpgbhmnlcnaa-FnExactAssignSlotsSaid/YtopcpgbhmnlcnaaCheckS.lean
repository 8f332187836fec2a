/-
  CheckSlots, in the program and in the model.
-/
import Derived.Test.YtopcpgbhmnlcnaaNeeds
namespace Go.Proofs.Ytopcpgbhmnlcnaa
open Go.ChangeShapes Go.WideShapes Go.ChangeAt Go.RowKit Go.Deep

/-- Step i has a cell that is free. -/
def goodI (tr : List DTraceStep) (kp : List DInstance) (cs : List Int) (i : Nat) : Prop := 0 ≤ cs.getD i default ∧ ∀ j, j < i → cs.getD j default = cs.getD i default → freeT tr kp j ≤ i
instance (tr : List DTraceStep) (kp : List DInstance) (cs : List Int) (i : Nat) : Decidable (goodI tr kp cs i) := by unfold goodI; infer_instance
def checkS (tr : List DTraceStep) (kp : List DInstance) (cs : List Int) : Bool := decide (cs.length = tr.length ∧ ∀ i, i < tr.length → goodI tr kp cs i)
theorem checkS_no {tr : List DTraceStep} {kp : List DInstance} {cs : List Int} (h : ¬ cs.length = tr.length) : checkS tr kp cs = false := decide_eq_false fun hh => h hh.1
theorem checkS_bad {tr : List DTraceStep} {kp : List DInstance} {cs : List Int} {i : Nat} (hi : i < tr.length) (h : ¬ goodI tr kp cs i) : checkS tr kp cs = false := decide_eq_false fun hh => h (hh.2 i hi)
theorem checkS_yes {tr : List DTraceStep} {kp : List DInstance} {cs : List Int} (hl : cs.length = tr.length) (h : ∀ i, i < tr.length → goodI tr kp cs i) : checkS tr kp cs = true := decide_eq_true ⟨hl, h⟩
/-- When cell c is free, after the first k steps. -/
def lastF (tr : List DTraceStep) (kp : List DInstance) (cs : List Int) : Nat → Int → Int
  | 0, _ => 0
  | k + 1, c => if cs.getD k default = c then freeT tr kp k else lastF tr kp cs k c
theorem lastF_good {tr : List DTraceStep} {kp : List DInstance} {cs : List Int} {c : Int} {m : Nat} : ∀ k, k ≤ m → (∀ i, i < k → goodI tr kp cs i) → lastF tr kp cs k c ≤ m → ∀ j, j < k → cs.getD j default = c → freeT tr kp j ≤ m
  | 0, _, _, _, j, hj, _ => absurd hj (Nat.not_lt_zero _)
  | k + 1, hk, hg, hl, j, hj, hc => by
    unfold lastF at hl
    split at hl
    · next e =>
      rcases Nat.lt_or_ge j k with h | h
      · have := (hg k (Nat.lt_succ_self _)).2 j h (by rw [e, hc])
        omega
      · obtain rfl : j = k := by omega
        exact hl
    · next e =>
      refine lastF_good k (by omega) (fun i hi => hg i (by omega)) hl j ?_ hc
      rcases Nat.lt_or_ge j k with h | h
      · exact h
      · obtain rfl : j = k := by omega
        exact absurd hc e
theorem lastF_bad {tr : List DTraceStep} {kp : List DInstance} {cs : List Int} {c : Int} {m : Nat} : ∀ k, (m : Int) < lastF tr kp cs k c → ∃ j, j < k ∧ cs.getD j default = c ∧ (m : Int) < freeT tr kp j
  | 0, h => by have h' : (m : Int) < 0 := h; omega
  | k + 1, h => by
    unfold lastF at h
    split at h
    · next e => exact ⟨k, Nat.lt_succ_self _, e, h⟩
    · obtain ⟨j, h1, h2, h3⟩ := lastF_bad k h
      exact ⟨j, by omega, h2, h3⟩
theorem goodI_of {tr : List DTraceStep} {kp : List DInstance} {cs : List Int} {k : Nat} (hg : ∀ i, i < k → goodI tr kp cs i) (h0 : 0 ≤ cs.getD k default) (hl : lastF tr kp cs k (cs.getD k default) ≤ k) : ∀ i, i < k + 1 → goodI tr kp cs i := fun i hi => by
  rcases Nat.lt_or_ge i k with h | h
  · exact hg i h
  · obtain rfl : i = k := by omega
    exact ⟨h0, fun j hj hc => lastF_good i (Nat.le_refl _) hg hl j hj hc⟩
theorem goodI_neg {tr : List DTraceStep} {kp : List DInstance} {cs : List Int} {k : Nat} (h0 : cs.getD k default < 0) : ¬ goodI tr kp cs k := fun h => by have := h.1; omega
theorem goodI_late {tr : List DTraceStep} {kp : List DInstance} {cs : List Int} {k : Nat} (hl : (k : Int) < lastF tr kp cs k (cs.getD k default)) : ¬ goodI tr kp cs k := fun h => by
  obtain ⟨j, h1, h2, h3⟩ := lastF_bad k hl
  have := h.2 j h1 h2
  omega

theorem mapII : MapK Try.prog 75 3 3 okMI valI okMI valI litI 0 := mapK_II Try.underlying75 Try.underlying3 Try.underlying3 (fun w => by kernel_rfl)

set_option maxHeartbeats 6400000 in
set_option maxRecDepth 100000 in
theorem impl_CheckSlotsU {lo hi : Nat} {aT aK aC : Option Addr} {cT cK cC : Nat} (tr : List DTraceStep) (hn : tr.length ≤ 1048576) (hin : ∀ k, k < tr.length → (tr.getD k default).fInputs.length ≤ 1048576) (hok : ∀ k, k < tr.length → okMO (tr.getD k default).fAt ∧ ∀ j, j < (tr.getD k default).fInputs.length → okMO ((tr.getD k default).fInputs.getD j default)) (kp : List DInstance) (hkn : kp.length ≤ 1048576) (hkok : ∀ j, j < kp.length → okMO (kp.getD j default)) (cs : List Int) (hcok : ∀ j, j < cs.length → okMI (cs.getD j default)) (w : World) (hhi : hi ≤ w.heap.size) (hs : Sl lo hi w 3 tr.length (fun k => DTraceStep.ct (tr.getD k default)) aT) (hsk : Sl lo hi w 2 kp.length (fun k => DInstance.ct (kp.getD k default)) aK) (hsc : Sl lo hi w 1 cs.length (fun k => ictI (cs.getD k default)) aC) :
    Calls Try.prog 15 #[.slice aT tr.length cT, .slice aK kp.length cK, .slice aC cs.length cC] w fun e w' => e = .returned (.bool (checkS tr kp cs)) ∧ Below w.heap.size w w' := by
  by_cases hlen : cs.length = tr.length
  · have HND := Lib.hid (impl_needsOf (aT := aT) (cT := cT) (cK := cK) tr kp hkn hkok w hhi hsk)
    have HSC := Lib.hid (fun (W : World) (hW : Below w.heap.size w W) => hsc.later hW hhi)
    have HFA := Lib.hid (fun (W : World) (hW : Below w.heap.size w W) (X : Nat → Prop) => impl_freeAt (lo := lo) (hi := hi) (aT := aT) (b := w.heap.size + 1) (mb := w.heap.size) (X := X) (cT := cT) tr hn hin hok kp W (by omega) (by omega))
    have HS := Lib.hid (fun (W : World) (hW : Below w.heap.size w W) => hs.later hW hhi)
    have HCK := Lib.hid hcok
    have HFB := Lib.hid (fun k (hk : k < tr.length) => freeT_bd tr kp hk hn)
    clear hs hsk hsc hin hok hkok hcok
    have hmm := @run_makeMap Try.prog
    go_enter Try.func15, Try.ntmps15
    go_wp2_with fail
    refine HND.out.mono ?_
    rintro e w2 ⟨rfl, hu, ⟨nm, hm⟩, hb⟩
    have HB2 := Lib.hid hb
    have hsz2 : w.heap.size + 1 < w2.heap.size := by
      rcases Nat.lt_or_ge (w.heap.size + 1) w2.heap.size with h | h
      · exact h
      · exact absurd hu.c0 (by simp [World.cell?, Array.getElem?_eq_none h])
    have HBA := Lib.hid (show Below w2.heap.size w2 (w2.alloc (.map #[] 0)) from (Below.refl _ _).alloc (Nat.le_refl _) _)
    have HU2 := Lib.hid (hu.block (HBA.out.block _ hsz2))
    have HM2 := Lib.hid (hm.later HBA.out)
    have HF2 := Lib.hid (show MapF Try.prog 3 3 okMI valI litI 0 (w2.alloc (.map #[] 0)) w2.heap.size 0 (lastF tr kp cs 0) from MapF.made w2)
    have HB3 := Lib.hid (hb.trans (HBA.out.mono hb.size))
    clear hu hm hb HND
    go_wp2
    clear hmm
    generalize hW3 : w2.alloc (.map #[] 0) = W3 at *
    clear hW3
    go_loopw [22] (fun i wr => ∃ k : Nat, k ≤ cs.length ∧ i = .int .i64 (k : Int) ∧ (∀ q, q < k → goodI tr kp cs q) ∧ LU2 wr (w.heap.size + 1) (fun g => g = w2.heap.size) aT cT tr (some (.map (some w.heap.size))) ∧ (∃ n, MapF Try.prog 51 4 okMO embO litB false wr w.heap.size n (hasI kp)) ∧ (∃ n, n ≤ k ∧ MapF Try.prog 3 3 okMI valI litI 0 wr w2.heap.size n (lastF tr kp cs k)) ∧ Below w.heap.size w wr) (fun i _ => cs.length - (intOf i).toNat)
    case atStart => exact ⟨0, Nat.zero_le _, rfl, fun _ h => absurd h (Nat.not_lt_zero _), .inl HU2.out, ⟨nm, HM2.out⟩, ⟨0, Nat.le_refl _, HF2.out⟩, HB3.out⟩
    case round =>
      obtain ⟨k, hk, rfl, hg, hl, ⟨n1, hm⟩, ⟨n2, hn2, hf⟩, hb⟩ := hrel
      have HG := Lib.hid hg
      have HL := Lib.hid hl
      have HM := Lib.hid hm
      have HF := Lib.hid hf
      have HB := Lib.hid hb
      have hflt : w2.heap.size < wr.heap.size := hf.lt
      clear hg hl hm hf hb
      by_cases hlt : k < cs.length
      · have hkt : k < tr.length := by omega
        obtain ⟨bc, offc, rfl, _, _, hc⟩ := (HSC.out wr HB.out).at k hlt
        obtain ⟨u, hcu, hlu⟩ := hc 0 (by decide)
        have hcs : wr.cell? ⟨bc, offc + k, none⟩ = some (.int .i64 (cs.getD k default)) := by rw [← lies_lit hlu]; simpa using hcu
        have hkI : (0 : Int) ≤ (k : Int) ∧ (k : Int) < (cs.length : Int) := by omega
        have HZK := Lib.hid (HCK.out k hlt)
        have HGP := Lib.hid (fun h0 hl => goodI_of (tr := tr) (kp := kp) (cs := cs) (k := k) HG.out h0 hl)
        have HGN := Lib.hid (fun h0 => checkS_bad hkt (goodI_neg (tr := tr) (kp := kp) (cs := cs) (k := k) h0))
        have HGL := Lib.hid (fun hl => checkS_bad hkt (goodI_late (tr := tr) (kp := kp) (cs := cs) (k := k) hl))
        have HLS := Lib.hid (show ∀ c, lastF tr kp cs (k + 1) c = if cs.getD k default = c then freeT tr kp k else lastF tr kp cs k c from fun _ => rfl)
        have HFK := Lib.hid (HF.out.look mapII HZK.out)
        have HKB := Lib.hid (HFB.out k hkt)
        clear hc hcu hlu HG
        generalize hz : cs.getD k default = z at *
        clear hz
        have hzb : -9223372036854775808 ≤ z ∧ z ≤ 9223372036854775807 := HZK.out
        by_cases hneg : z < 0
        · have HE := Lib.hid (HGN.out hneg)
          clear HGP HGL HLS HFK
          go_wp2
          go_ret
          exact ⟨congrArg (fun q => Ending.returned (Value.bool q)) HE.out.symm, HB.out⟩
        · have hnn : 0 ≤ z := by omega
          have hrun : (Instr.lookup 75 (.map (some w2.heap.size)) (.int .i64 z) false).run Try.prog wr = .ok (.int .i64 (lastF tr kp cs k z)) wr := HFK.out
          by_cases hlate : (k : Int) < lastF tr kp cs k z
          · have HE := Lib.hid (HGL.out hlate)
            clear HGP HGN HLS HFK
            generalize lastF tr kp cs k z = q at *
            go_wp2
            go_ret
            exact ⟨congrArg (fun q => Ending.returned (Value.bool q)) HE.out.symm, HB.out⟩
          · have hle : lastF tr kp cs k z ≤ k := by omega
            have HGK := Lib.hid (HGP.out hnn hle)
            have HCALL := Lib.hid (HFA.out wr HB.out (fun g => g = w2.heap.size) (by omega) (fun g hg => by subst hg; exact hflt) (HS.out wr HB.out) HL.out ⟨n1, HM.out⟩ k hkt)
            clear HGP HGN HGL HFK
            generalize lastF tr kp cs k z = q at *
            go_wp2_with fail
            refine HCALL.out.mono ?_
            rintro e w4 ⟨rfl, hl4, hw4⟩
            have hsz4 := hw4.size
            have HL4 := Lib.hid hl4
            have HM4 := Lib.hid (HM.out.block (hw4.block _ HM.out.lt (by show ¬ w.heap.size = w.heap.size + 1; omega)))
            have HF4 := Lib.hid (HF.out.block (hw4.block _ hflt (by show ¬ w2.heap.size = w.heap.size + 1; omega)))
            have HB4 := Lib.hid (HB.out.trans (hw4.below (B := w.heap.size) (fun x hx => by omega) HB.out.size))
            have hnx : n2 < maxLen := by unfold maxLen; omega
            have hfo : okMI (freeT tr kp k) := by have := HKB.out; exact ⟨by omega, by omega⟩
            have HLS1 := Lib.hid (show lastF tr kp cs (k + 1) z = freeT tr kp k by rw [HLS.out, if_pos rfl])
            have HLS2 := Lib.hid (fun y (hy : y ≠ z) => show lastF tr kp cs (k + 1) y = lastF tr kp cs k y by rw [HLS.out, if_neg (Ne.symm hy)])
            clear hl4 hw4 HCALL HLS HL HM HF hrun
            go_wp2_with (at_mapUpdate; refine wpList_put_mapF _ rfl (.tmp 36) (.tmp 37) (.tmp 40) rfl mapII HF4.out hnx rfl (y := z) HZK.out (u := freeT tr kp k) hfo rfl rfl (f' := lastF tr kp cs (k + 1)) HLS1.out (fun y _ hy => HLS2.out y hy) ?_; intro w9 hm9 hg9)
            have R1 := Lib.hid hm9
            have R2 := Lib.hid (HL4.out.keep (w' := w9) ⟨hg9.size, fun y hy hs => hg9.block y hs (fun e => hy (by injection e))⟩ (by show ¬ w.heap.size + 1 = w2.heap.size; omega) (by omega))
            have R3 := Lib.hid (HM4.out.kept hg9 (by intro e; injection e with e; omega))
            have R4 := Lib.hid (HB4.out.trans (show Below w.heap.size w4 w9 from ⟨hg9.os, hg9.tape, hg9.output, hg9.size, fun y hy => hg9.block y (by omega) (fun e => by injection e with e; omega)⟩))
            clear hm9 hg9
            go_wp2
            go_roundw
            case rel => exact ⟨k + 1, by omega, by go_num, HGK.out, R2.out, ⟨n1, R3.out⟩, ⟨n2 + 1, by omega, R1.out⟩, R4.out⟩
            case measure => simp [intOf]; omega
      · obtain rfl : k = cs.length := by omega
        have HE := Lib.hid (checkS_yes hlen (fun q hq => HG.out q (by omega)))
        go_wp2
        go_ret
        exact ⟨congrArg (fun q => Ending.returned (Value.bool q)) HE.out.symm, HB.out⟩
  · have HE := Lib.hid (checkS_no (kp := kp) hlen)
    have h1 : ((cs.length : Int) == (tr.length : Int)) = false := by simpa using (show ¬ ((cs.length : Int) = (tr.length : Int)) by omega)
    have h2 : ((tr.length : Int) == (cs.length : Int)) = false := by simpa using (show ¬ ((tr.length : Int) = (cs.length : Int)) by omega)
    clear hs hsk hsc hin hok hkok hcok hlen
    go_enter Try.func15, Try.ntmps15
    go_wp2
    go_ret
    exact ⟨congrArg (fun q => Ending.returned (Value.bool q)) HE.out.symm, Below.refl _ _⟩
end Go.Proofs.Ytopcpgbhmnlcnaa
