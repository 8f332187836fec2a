/-
  A region that draws its order, at any fence, in a round too: XFreeK's walk, its words turned by program (gen_freekin.py).
-/
import Derived.Test.YtoockfmkcjomhaaFreeK
import Derived.OrdersIn
import Derived.TacticsIn
namespace Go.Proofs.Ytoockfmkcjomhaa
open Go.ChangeShapes Go.WideShapes Go.ChangeAt Go.RowKit Go.Deep

section
variable {F : Fence} {n : Nat} {P : Program}
theorem wpIn_of_free {o : Oper} {lx a : Act} {w : World} {Q : Exit → Act → World → Prop} {K : Act → World → Prop} {R : Value → World → Prop} {ops : Array Oper}
    (hw : Region.wanted o (yielded ops a.tmps) = Region.wanted o (yielded ops lx.tmps)) (hs : ∀ cs b, o.op ≠ .select cs b) (hev : ∀ x ∈ o.op.operands, a.eval x = lx.eval x) (hsz : a.tmps.size = lx.tmps.size)
    (hK : ∀ v w', R v w' → K (a.put o.dst v) w')
    (h : wpListIn F n P ops (FreePost Q lx o.dst R) [o] lx w) : if Region.wanted o (yielded ops a.tmps) then o.wpIn F n P a w K Q else (∀ f, o.about P w a.eval = some f → F.fn f) ∧ K (a.put o.dst undef) w := by
  have hab : o.about P w a.eval = o.about P w lx.eval := about_congr o w hev
  have he : o.semAt F.round a.eval = o.semAt F.round lx.eval := by
    have h1 : execOp a.eval o = execOp lx.eval o := execOp_congr o hs hev
    unfold Oper.semAt
    cases F.round with
    | none => exact h1
    | some l =>
      cases ho : o.op
      case defer c => dsimp only; rw [show resolve a.eval c o.type = resolve lx.eval c o.type from resolve_congr (ρ := a.eval) (ρ' := lx.eval) c o.type (fun x hx => hev x (by rw [ho]; simpa [Op.operands] using hx))]
      all_goals exact h1
  unfold wpListIn at h
  rw [hw]
  by_cases hwn : Region.wanted o (yielded ops lx.tmps) = true
  case neg =>
    rw [if_neg hwn] at h ⊢
    refine ⟨by rw [hab]; exact h.1, ?_⟩
    replace h := h.2
    obtain ⟨v, h1, h2⟩ := h
    rw [put_inj hsz h1]
    exact hK v w h2
  rw [if_pos hwn] at h ⊢
  unfold Oper.wpIn at *
  refine ⟨by rw [hab]; exact h.1, ?_⟩
  replace h := h.2
  rw [he]
  generalize (o.semAt F.round lx.eval).run P w = r at *
  have key : ∀ v w', FreePost Q lx o.dst R .normal (lx.put o.dst v) w' → K (a.put o.dst v) w' := fun v w' ⟨v', h1, h2⟩ => by
    rw [put_inj hsz h1]; exact hK v' w' h2
  cases r with
  | ok x w' =>
    cases x <;> simp only [Oper.uponIn] at h ⊢
    case value v => exact key v w' h
    case skip => exact key _ w' h
    case defer d =>
      obtain ⟨v', h1, _⟩ := h
      have h2 := congrArg (fun x => x.defers.length) h1
      cases hd : o.dst <;> simp [Act.put, hd] at h2
    case enter f args =>
      refine ⟨h.1, CallsIn.mono h.2 fun e w'' he' => ?_⟩
      cases e with
      | returned v => exact key v w'' he'
      | panicked c => exact he'.elim
      | outgrown => exact letsOut_free he'
    case row r args => exact ⟨h.1, RowsIn.mono h.2 fun v w'' he' => key v w'' he'⟩
    case round l f tm sg bd =>
      refine ⟨h.1, RoundIn.mono h.2 fun e w'' he' => ?_⟩
      cases e with
      | returned v => exact key v w'' he'
      | panicked c => exact he'.elim
      | outgrown => exact letsOut_free he'
  | halt x w' => cases x <;> simp only [Oper.uponIn] at h ⊢ <;> exact h.elim

theorem wpAnyIn_freeK {l : List Oper} {ls : List LineK} {live os : List Nat} {a0 : Act} {w0 : World} {FJ : Nat → Prop} {J : World → Prop} {ob : Nat → Nat} {Gs : Nat → Sp} {Q : Exit → Act → World → Prop} (ok : FreeOkK l ls live os)
    (hob : ObLK w0.heap.size FJ ob os) (hF : ∀ y, FJ y → y < w0.heap.size)
    (hJ : ∀ w1 w2, w0.heap.size ≤ w1.heap.size → J w1 → Kept (fun y => y < w0.heap.size ∧ NeAllK ob y os) w1 w2 → J w2)
    (hloc : LocalK ls Gs) (hlast : ∀ i, i < l.length → LastsK w0.heap.size FJ ob os (ownK ls ob i) (Gs i))
    (hrun : ∀ i o, l[i]? = some o → ∀ V L H w, WritesF (FAK FJ ob os) w0 w → Kept (fun y => y < w0.heap.size ∧ ¬ FJ y ∧ NeAllK ob y (lineK ls i).2.2) w0 w → J w → (∀ j, j ∈ (lineK ls i).1 → heldK w0.heap.size Gs V L H w j) →
      wpListIn F n P l.toArray (FreePost Q (lexOf V 0 (l.take i) a0) o.dst (ShowsK ls FJ J ob Gs V L H w i)) [o] (lexOf V 0 (l.take i) a0) w)
    (hend : ∀ V L H w, WritesF (FAK FJ ob os) w0 w → J w → (∀ j, j ∈ live → heldK w0.heap.size Gs V L H w j) → (∀ i j, i ∈ live → j ∈ live → i ≠ j → H i ≤ L j ∨ H j ≤ L i) →
      (∀ s i, s < l.length → ovK ls s = .new i → L s = L i ∧ H s = H i ∧ ∃ wo, Gs i V (L i) (H i) wo) → Q .normal (lexOf V 0 l a0) w) :
    ∀ (f : Nat) (listed : Array Bool) (V : Nat → Value) (L H : Nat → Nat) (a : Act) (w : World), FreeInvK l ls os a0 w0 FJ J ob Gs listed V L H a w →
      (List.range l.length).countP (fun i => listed.getD i true == false) = f → wpAnyIn F n P .any l.toArray Q f listed a w
  | 0, listed, V, L, H, a, w, inv, hf => by
    have hall : ∀ i, i < l.length → listed.getD i true = true := fun i hi => by
      have h1 := List.countP_eq_zero.1 hf i (List.mem_range.2 hi)
      simpa using h1
    have hallf : ∀ i, i < l.length → listed.getD i false = true := fun i hi => by
      have h1 := hall i hi
      have h2 : i < listed.size := by have := inv.size; omega
      simp [h2] at h1 ⊢; exact h1
    have hlv : ∀ i, i ∈ live → LiveK l ls (fun k => listed.getD k false) i := fun i hi => ⟨(ok.lives i hi).1, hallf i (ok.lives i hi).1, fun s hs h => absurd h ((ok.lives i hi).2 s hs)⟩
    have hact : a = lexOf V 0 l a0 := by
      rw [inv.act]
      exact actOf_all _ _ _ fun m hm => by rw [Nat.zero_add]; exact hallf m hm
    refine ⟨?_, ?_⟩
    · cases hr : Region.ready .any l.toArray listed with
      | nil => rfl
      | cons i r =>
        have hi : i ∈ Region.ready .any l.toArray listed := by rw [hr]; exact List.mem_cons_self
        obtain ⟨hun, o, ho, _⟩ := mem_ready.1 hi
        have hil : i < l.length := lt_of_get (by simpa using ho)
        rw [hall i hil] at hun
        cases hun
    · rw [hact]
      exact hend V L H w inv.wrote inv.inv (fun j hj => inv.held j (hlv j hj)) (fun i j hi hj hij => inv.apart i j hij (hlv i hi) (hlv j hj)) (fun s i hs hsi => inv.dead s i hs hsi (hallf s hs))
  | f + 1, listed, V, L, H, a, w, inv, hf => by
    have hsz := inv.size
    have hex : ∃ i, i < l.length ∧ listed.getD i true = false := by
      have h1 : 0 < (List.range l.length).countP (fun i => listed.getD i true == false) := by omega
      obtain ⟨i, hi, h2⟩ := List.countP_pos_iff.1 h1
      exact ⟨i, List.mem_range.1 hi, by simpa using h2⟩
    obtain ⟨i0, hi0, hu0⟩ := hex
    refine ⟨fun h0 => ?_, fun i hi => ?_⟩
    · obtain ⟨j, hj⟩ := ready_someK ok hsz i0 hi0 hu0
      rw [h0] at hj; cases hj
    · obtain ⟨hun, o, ho, hall⟩ := mem_ready.1 hi
      have ho' : l[i]? = some o := by simpa using ho
      have hil := lt_of_get ho'
      have hoff : listed.getD i false = false := getD_both hun
      have hwaits : ∀ j, Region.waitsFor .any l.toArray i j = true → j < i ∧ listed.getD j false = true := fun j hj => by
        obtain ⟨oj, hoj, e, he, hb, hon⟩ := Region.waitsFor_spec hj
        obtain rfl : oj = o := Option.some.inj (hoj.symm.trans ho)
        exact ⟨hon ▸ ok.back i oj ho' e he hb, hon ▸ hall e he hb⟩
      have hlive : ∀ j, Region.waitsFor .any l.toArray i j = true → (∀ s, s < l.length → ovK ls s = .new j → s = i) → LiveK l ls (fun k => listed.getD k false) j := fun j hj hs =>
        ⟨by have := (hwaits j hj).1; omega, (hwaits j hj).2, fun s hsl hsj => by rw [hs s hsl hsj]; exact hoff⟩
      have hclosed : ∀ j oj, l[j]? = some oj → (listed.setIfInBounds i true).getD j false = true → ∀ e ∈ oj.after, Region.binds .any e = true → (listed.setIfInBounds i true).getD e.on false = true := fun j oj hoj hl e he hb => by
        by_cases hij : i = j
        · subst hij
          obtain rfl : oj = o := Option.some.inj (hoj.symm.trans ho')
          exact getD_set_true (hall e he hb)
        · rw [getD_set_ne false hij] at hl
          exact getD_set_true (inv.closed j oj hoj hl e he hb)
      have hanc : ∀ j, j ∈ ancK l i → i ≠ j → listed.getD j false = true := fun j hj hij => by
        have h1 := closGo_specK hclosed (i + 1) [i] (fun s hs => by rw [List.mem_singleton.1 hs]; simp [show i < listed.size by omega]) j hj
        rwa [getD_set_ne false hij] at h1
      have hlive2 : ∀ j, j ∈ ancK l i → i ≠ j → (∀ s, s < l.length → ovK ls s = .new j → s = i) → LiveK l ls (fun k => listed.getD k false) j := fun j hj hij hs =>
        ⟨by have h1 := hanc j hj hij; rcases Nat.lt_or_ge j listed.size with h2 | h2; (· omega); (· simp [h2] at h1), hanc j hj hij, fun s hsl hsj => by rw [hs s hsl hsj]; exact hoff⟩
      -- a store that must come behind i has not run
      have hlater : ∀ j, j ∈ os → i ∈ ancK l j → listed.getD j false = false := fun j hj ha => by
        cases hl : listed.getD j false with
        | false => rfl
        | true =>
          have := closGo_specK inv.closed (j + 1) [j] (fun s hs => by rw [List.mem_singleton.1 hs]; exact hl) i ha
          rw [hoff] at this; cases this
      have hkept : Kept (fun y => y < w0.heap.size ∧ ¬ FJ y ∧ NeAllK ob y (lineK ls i).2.2) w0 w := ⟨inv.wrote.size, fun y hy hlt => by
        obtain ⟨_, h2, h3⟩ := hy
        by_cases hya : NeAllK ob y os
        · exact inv.wrote.block y hlt (fun h => h.elim h2 (fun h => h hya))
        · obtain ⟨j, hj, hyj⟩ : ∃ j, j ∈ os ∧ y = ob j := by
            by_cases h : ∃ j, j ∈ os ∧ y = ob j
            · exact h
            · exact absurd (neAll_iffK.2 fun j hj e => h ⟨j, hj, e⟩) hya
          subst hyj
          rcases ok.ms i j hil hj with h | h
          · exact absurd rfl (neAll_iffK.1 h3 j h)
          · exact inv.notyet j hj (hlater j hj h)⟩
      have hR := hrun i o ho' V L H w inv.wrote hkept inv.inv (fun j hj => inv.held j (hlive2 j (ok.deps i j hil hj).1.1 (ok.deps i j hil hj).1.2 (ok.deps i j hil hj).2))
      have hagree : ∀ t, t ∈ o.looksAt l.toArray → a.eval (.tmp t) = (lexOf V 0 (l.take i) a0).eval (.tmp t) := fun t ht => by
        rw [inv.act]
        refine agreeK l 0 i a0 a0 rfl rfl fun m o2 hm hd => ?_
        rw [Nat.zero_add]
        rcases ok.looks i o m o2 t ho' hm hd ht with hw | hw
        · exact .inl (hwaits m hw)
        · obtain ⟨o3, ho3, e, he, hb, hon⟩ := Region.waitsFor_spec hw
          have ho3' : l[m]? = some o3 := by simpa using ho3
          have hlt := ok.back m o3 ho3' e he hb
          refine .inr ⟨by omega, ?_⟩
          cases hl : listed.getD m false with
          | false => rfl
          | true =>
            have := inv.closed m o3 ho3' hl e he hb
            rw [hon, hoff] at this
            cases this
      unfold wpOpIn
      simp only [ho]
      refine wpIn_of_free (wanted_same (by rw [inv.act, actOf_size, lexOf_size]) fun t ht => hagree t ht) (Region.noSelect_spec ok.sel i o · · ho) (fun x hx => ?_) (by rw [inv.act, actOf_size, lexOf_size]) (fun v w' hS => ?_) hR
      · cases x with
        | tmp t => exact hagree t (List.mem_append_left _ (List.mem_filterMap.2 ⟨.tmp t, by simpa using hx, rfl⟩))
        | _ => rfl
      · have hgs : ∀ j, (listed.setIfInBounds i true).getD j false = (j == 0 + i || listed.getD j false) := fun j => by
          by_cases hji : j = i
          · subst hji; simp [show j < listed.size by omega]
          · rw [getD_set_ne false (Ne.symm hji)]; simp [hji]
        have hact : actOf (fun k => (listed.setIfInBounds i true).getD k false) (upd V i v) 0 l a0 = a.put o.dst v := by
          have hact := actOf_set (on := fun k => listed.getD k false) (V := V) (v := v) l 0 i a0 o ho' (fun m' o2 hm hne d hd hd2 => ok.dst m' o2 i o d hne hm ho' hd hd2)
          rcases hact with hact | hact
          · rw [inv.act, ← hact]
            congr 1
            · funext j; exact hgs j
            · funext j; simp [upd]
          · rw [Nat.zero_add] at hact; rw [hact] at hoff; cases hoff
        have hcnt : (List.range l.length).countP (fun j => (listed.setIfInBounds i true).getD j true == false) = f := by
          have h1 := countP_flip (p := fun j => listed.getD j true == false) (q := fun j => (listed.setIfInBounds i true).getD j true == false) (i := i) (List.range l.length) List.nodup_range (List.mem_range.2 hil) (by simpa using hun) (by simp [show i < listed.size by omega]) (fun j hj => by simp only [getD_set_ne true (Ne.symm hj)])
          omega
        have hold : ∀ j, j ≠ i → LiveK l ls (fun k => (listed.setIfInBounds i true).getD k false) j → LiveK l ls (fun k => listed.getD k false) j ∧ ovK ls i ≠ .new j := fun j hji ⟨h1, h2, h3⟩ =>
          ⟨⟨h1, by have := h2; simp only [hgs j, Nat.zero_add] at this; simpa [hji] using this, fun s hs hsj => by
              have h4 := h3 s hs hsj
              simp only [hgs s, Bool.or_eq_false_iff] at h4
              exact h4.2⟩, fun h => by have h4 := h3 i hil h; simp [hgs i] at h4⟩
        have htgt : ∀ s t, s < l.length → ovK ls s = .new t → listed.getD s false = true → listed.getD t false = true := fun s t hs hst hl => by
          obtain ⟨os, hos, e, he, hb, hon⟩ := Region.waitsFor_spec (ok.over s t hs hst).1
          exact hon ▸ inv.closed s os (by simpa using hos) hl e he hb
        have hni : ∀ t, listed.getD t false = true → t ≠ i := fun t ht e => by rw [e, hoff] at ht; cases ht
        have hmv : ∀ k, k < l.length → listed.getD k false = true → ∀ L H w, Gs k V L H w → Gs k (upd V i v) L H w := fun k hk hon L H w hG =>
          hloc k V (upd V i v) L H w (upd_ne (hni k hon)).symm (fun j hj => (upd_ne (hni j (by
            exact closGo_specK inv.closed (k + 1) [k] (fun s hs => by rw [List.mem_singleton.1 hs]; exact hon) j (ok.deps k j hk hj).1.1))).symm) hG
        have htlt : ∀ s t, s < l.length → ovK ls s = .new t → t < l.length := fun s t hs hst => by
          obtain ⟨os, hos, e, he, hb, hon⟩ := Region.waitsFor_spec (ok.over s t hs hst).1
          have h5 := ok.back s os (by simpa using hos) e he hb
          omega
        -- a live one's blocks are none of FJ
        have hfj : ∀ j, LiveK l ls (fun k => listed.getD k false) j → ∀ y, L j ≤ y → y < H j → ¬ FJ y := fun j hlj y h1 h2 hy => by
          obtain ⟨g1, _⟩ := inv.held j hlj
          unfold lowK at g1
          have := hF y hy
          omega
        have hB : w0.heap.size ≤ w.heap.size := inv.wrote.size
        cases hov : ovK ls i with
        | none =>
          unfold ShowsK at hS
          rw [hov] at hS
          obtain ⟨⟨hb, hj'⟩, hG⟩ := hS
          have hios : i ∉ os := fun h => by have := (ok.oss i h).2; rw [hov] at this; cases this
          refine wpAnyIn_freeK ok hob hF hJ hloc hlast hrun hend f (listed.setIfInBounds i true) (upd V i v) (fun j => if j = i then w.heap.size else L j) (fun j => if j = i then w'.heap.size else H j) _ w' ⟨by simpa using hsz, hclosed, hact.symm, inv.wrote.trans (hb.sub fun _ h => .inl h), hj', ?_, ?_, ?_, ?_⟩ hcnt
          · intro j hj hl
            rw [hgs j] at hl
            have hl' : listed.getD j false = false := by
              cases h : listed.getD j false with
              | false => rfl
              | true => rw [h, Bool.or_true] at hl; cases hl
            exact (hb.block _ (Nat.lt_of_lt_of_le (hob.at j hj).1 hB) (hob.at j hj).2).trans (inv.notyet j hj hl')
          · intro j hj
            unfold heldK
            by_cases hji : j = i
            · subst hji
              simp only [if_true]
              refine ⟨?_, hb.size, Nat.le_refl _, hG⟩
              unfold lowK
              simp only [if_true]
              exact inv.wrote.size
            · simp only [hji, if_false]
              have hlj := (hold j hji hj).1
              obtain ⟨h1, h2, h3, h4⟩ := inv.held j hlj
              refine ⟨?_, h2, Nat.le_trans h3 hb.size, hlast j hj.1 _ _ _ w w' hB h3 ⟨hb.size, fun y hy hlt => hb.block y hlt ?_⟩ (hmv j hj.1 hlj.2.1 _ _ _ h4)⟩
              · unfold lowK at h1 ⊢
                simp only [hji, if_false]
                exact h1
              · rcases hy with hy | hy | hy
                · exact hy.2.1
                · exact hfj j hlj y hy.1 hy.2
                · rw [hy.2]; exact (hob.at j (ok.olds j hlj.1 hy.1)).2
          · intro s t hs hst hl
            rw [hgs s] at hl
            by_cases hsi : s = i
            · subst hsi; rw [hov] at hst; cases hst
            · have hl' : listed.getD s false = true := by simpa [hsi] using hl
              have hti := hni t (htgt s t hs hst hl')
              obtain ⟨e1, e2, wo, hG'⟩ := inv.dead s t hs hst hl'
              simp only [hsi, hti, if_false]
              exact ⟨e1, e2, wo, hmv t (htlt s t hs hst) (htgt s t hs hst hl') _ _ _ hG'⟩
          · intro j k hjk hlj hlk
            by_cases hji : j = i
            · subst hji
              simp only [if_true, Ne.symm hjk, if_false]
              exact .inr (inv.held k (hold k (Ne.symm hjk) hlk).1).2.2.1
            · by_cases hki : k = i
              · subst hki
                simp only [if_true, hji, if_false]
                exact .inl (inv.held j (hold j hji hlj).1).2.2.1
              · simp only [hji, hki, if_false]
                exact inv.apart j k hjk (hold j hji hlj).1 (hold k hki hlk).1
        | new t =>
          unfold ShowsK at hS
          rw [hov] at hS
          obtain ⟨hb, hG⟩ := hS
          obtain ⟨hwt, hto, huni⟩ := ok.over i t hil hov
          have hlt : LiveK l ls (fun k => listed.getD k false) t := hlive t hwt (fun s hs h => huni s hs h)
          obtain ⟨t1, t2, t3, t4⟩ := inv.held t hlt
          have t1' : w0.heap.size ≤ L t := t1
          have hne : ∀ j, j ≠ i → LiveK l ls (fun k => (listed.setIfInBounds i true).getD k false) j → j ≠ t := fun j hji hj e => (hold j hji hj).2 (e ▸ hov)
          have hios : i ∉ os := fun h => by have := (ok.oss i h).2; rw [hov] at this; cases this
          refine wpAnyIn_freeK ok hob hF hJ hloc hlast hrun hend f (listed.setIfInBounds i true) (upd V i v) (fun j => if j = i then L t else L j) (fun j => if j = i then H t else H j) _ w' ⟨by simpa using hsz, hclosed, hact.symm, inv.wrote.touchedK hb (fun b h1 _ h2 => by omega), hJ w w' hB inv.inv ⟨hb.size, fun y hy hlt => hb.block y hlt (fun h => by have := hy.1; omega)⟩, ?_, ?_, ?_, ?_⟩ hcnt
          · intro j hj hl
            rw [hgs j] at hl
            have hl' : listed.getD j false = false := by
              cases h : listed.getD j false with
              | false => rfl
              | true => rw [h, Bool.or_true] at hl; cases hl
            have hoj := (hob.at j hj).1
            exact (hb.block _ (Nat.lt_of_lt_of_le hoj hB) (fun h => by omega)).trans (inv.notyet j hj hl')
          · intro j hj
            unfold heldK
            by_cases hji : j = i
            · subst hji
              simp only [if_true]
              refine ⟨?_, t2, Nat.le_trans t3 hb.size, hG⟩
              unfold lowK
              simp only [if_true]
              exact t1'
            · simp only [hji, if_false]
              have hlj := (hold j hji hj).1
              obtain ⟨h1, h2, h3, h4⟩ := inv.held j hlj
              have hap := inv.apart j t (hne j hji hj) hlj hlt
              refine ⟨?_, h2, Nat.le_trans h3 hb.size, hlast j hj.1 _ _ _ w w' hB h3 ⟨hb.size, fun y hy hlt => hb.block y hlt (fun hb3 => ?_)⟩ (hmv j hj.1 hlj.2.1 _ _ _ h4)⟩
              · unfold lowK at h1 ⊢
                simp only [hji, if_false]
                exact h1
              · rcases hy with hy | hy | hy
                · have := hy.1; omega
                · rcases hap with h | h <;> omega
                · have := (hob.at j (ok.olds j hlj.1 hy.1)).1; have := hy.2; omega
          · intro s u hs hst hl
            rw [hgs s] at hl
            by_cases hsi : s = i
            · subst hsi
              obtain rfl : t = u := by rw [hov] at hst; exact OvK.new.inj hst
              have hti := hni t hlt.2.1
              simp only [hti, if_true, if_false]
              exact ⟨trivial, trivial, w, hmv t hlt.1 hlt.2.1 _ _ _ t4⟩
            · have hl' : listed.getD s false = true := by simpa [hsi] using hl
              have hti := hni u (htgt s u hs hst hl')
              obtain ⟨e1, e2, wo, hG'⟩ := inv.dead s u hs hst hl'
              simp only [hsi, hti, if_false]
              exact ⟨e1, e2, wo, hmv u (htlt s u hs hst) (htgt s u hs hst hl') _ _ _ hG'⟩
          · intro j k hjk hlj hlk
            by_cases hji : j = i
            · subst hji
              simp only [if_true, Ne.symm hjk, if_false]
              exact (inv.apart t k (Ne.symm (hne k (Ne.symm hjk) hlk)) hlt (hold k (Ne.symm hjk) hlk).1)
            · by_cases hki : k = i
              · subst hki
                simp only [if_true, hji, if_false]
                exact (inv.apart j t (hne j hji hlj) (hold j hji hlj).1 hlt)
              · simp only [hji, hki, if_false]
                exact inv.apart j k hjk (hold j hji hlj).1 (hold k hki hlk).1
        | old =>
          unfold ShowsK at hS
          rw [hov] at hS
          obtain ⟨hb, hG⟩ := hS
          have hios := ok.olds i hil hov
          obtain ⟨ho1, ho2⟩ := hob.at i hios
          refine wpAnyIn_freeK ok hob hF hJ hloc hlast hrun hend f (listed.setIfInBounds i true) (upd V i v) (fun j => if j = i then w.heap.size else L j) (fun j => if j = i then w'.heap.size else H j) _ w' ⟨by simpa using hsz, hclosed, hact.symm, inv.wrote.touchedK hb (fun b h1 hn h2 => hn (.inr (fun hne => neAll_iffK.1 hne i hios (by omega)))), hJ w w' hB inv.inv ⟨hb.size, fun y hy hlt => hb.block y hlt (fun h => by have := neAll_iffK.1 hy.2 i hios; omega)⟩, ?_, ?_, ?_, ?_⟩ hcnt
          · intro j hj hl
            rw [hgs j] at hl
            have hji : j ≠ i := fun e => by subst e; simp at hl
            have hl' : listed.getD j false = false := by
              cases h : listed.getD j false with
              | false => rfl
              | true => rw [h, Bool.or_true] at hl; cases hl
            have hne := hob.ne j hj i hios hji
            exact (hb.block _ (Nat.lt_of_lt_of_le (hob.at j hj).1 hB) (fun h => by omega)).trans (inv.notyet j hj hl')
          · intro j hj
            unfold heldK
            by_cases hji : j = i
            · subst hji
              simp only [if_true]
              refine ⟨?_, hb.size, Nat.le_refl _, hG⟩
              unfold lowK
              simp only [if_true]
              exact inv.wrote.size
            · simp only [hji, if_false]
              have hlj := (hold j hji hj).1
              obtain ⟨h1, h2, h3, h4⟩ := inv.held j hlj
              refine ⟨?_, h2, Nat.le_trans h3 hb.size, hlast j hj.1 _ _ _ w w' hB h3 ⟨hb.size, fun y hy hlt => hb.block y hlt (fun hb3 => ?_)⟩ (hmv j hj.1 hlj.2.1 _ _ _ h4)⟩
              · unfold lowK at h1 ⊢
                simp only [hji, if_false]
                exact h1
              · rcases hy with hy | hy | hy
                · have := neAll_iffK.1 hy.2.2 i hios; omega
                · unfold lowK at h1; omega
                · have := hob.ne i hios j (ok.olds j hlj.1 hy.1) (Ne.symm hji); have := hy.2; omega
          · intro s t hs hst hl
            rw [hgs s] at hl
            by_cases hsi : s = i
            · subst hsi; rw [hov] at hst; cases hst
            · have hl' : listed.getD s false = true := by simpa [hsi] using hl
              have hti := hni t (htgt s t hs hst hl')
              obtain ⟨e1, e2, wo, hG'⟩ := inv.dead s t hs hst hl'
              simp only [hsi, hti, if_false]
              exact ⟨e1, e2, wo, hmv t (htlt s t hs hst) (htgt s t hs hst hl') _ _ _ hG'⟩
          · intro j k hjk hlj hlk
            by_cases hji : j = i
            · subst hji
              simp only [if_true, Ne.symm hjk, if_false]
              exact .inr (inv.held k (hold k (Ne.symm hjk) hlk).1).2.2.1
            · by_cases hki : k = i
              · subst hki
                simp only [if_true, hji, if_false]
                exact .inl (inv.held j (hold j hji hlj).1).2.2.1
              · simp only [hji, hki, if_false]
                exact inv.apart j k hjk (hold j hji hlj).1 (hold k hki hlk).1

/-- The whole walk: operation by operation; then what stands behind the region. -/
def freeKIn (F : Fence) (n : Nat) (P : Program) (ops : Array Oper) (Q : Exit → Act → World → Prop) (w0 : World) (FJ : Nat → Prop) (J : World → Prop) (ob : Nat → Nat) (Gs : Nat → Sp) (live os : List Nat) (ls : List LineK) : Nat → ((Nat → Value) → Act) → List Oper → List LineK → Prop
  | _, A, [], [] => ∀ V L H w, WritesF (FAK FJ ob os) w0 w → J w → heldOfK w0.heap.size Gs V L H w live → (∀ i j, i ∈ live → j ∈ live → i ≠ j → H i ≤ L j ∨ H j ≤ L i) → (∀ s i, s < ls.length → ovK ls s = .new i → L s = L i ∧ H s = H i ∧ ∃ wo, Gs i V (L i) (H i) wo) → wpListIn F n P ops Q [] (A V) w
  | _, _, [], _ :: _ => False
  | _, _, _ :: _, [] => False
  | k, A, o :: l, (ds, ov, ms) :: dss => (∀ V L H w, WritesF (FAK FJ ob os) w0 w → Kept (fun y => y < w0.heap.size ∧ ¬ FJ y ∧ NeAllK ob y ms) w0 w → J w → heldOfK w0.heap.size Gs V L H w ds → wpListIn F n P ops (FreePost Q (A V) o.dst (effK FJ J ob Gs V L H w k ov)) [o] (A V) w) ∧
      freeKIn F n P ops Q w0 FJ J ob Gs live os ls (k + 1) (fun V => (A V).put o.dst (V k)) l dss

theorem freeKIn_spec {ops : Array Oper} {Q : Exit → Act → World → Prop} {w0 : World} {FJ : Nat → Prop} {J : World → Prop} {ob : Nat → Nat} {Gs : Nat → Sp} {live os : List Nat} {ls : List LineK} {a0 : Act} : ∀ (dss pd : List LineK) (l pre : List Oper) (A : (Nat → Value) → Act), pd.length = pre.length → (∀ V, A V = lexOf V 0 pre a0) → pd ++ dss = ls →
    freeKIn F n P ops Q w0 FJ J ob Gs live os ls pre.length A l dss →
    (∀ i o, l[i]? = some o → ∀ V L H w, WritesF (FAK FJ ob os) w0 w → Kept (fun y => y < w0.heap.size ∧ ¬ FJ y ∧ NeAllK ob y (lineK dss i).2.2) w0 w → J w → heldOfK w0.heap.size Gs V L H w (lineK dss i).1 →
      wpListIn F n P ops (FreePost Q (lexOf V 0 (pre ++ l.take i) a0) o.dst (ShowsK ls FJ J ob Gs V L H w (pre.length + i))) [o] (lexOf V 0 (pre ++ l.take i) a0) w) ∧
    (∀ V L H w, WritesF (FAK FJ ob os) w0 w → J w → heldOfK w0.heap.size Gs V L H w live → (∀ i j, i ∈ live → j ∈ live → i ≠ j → H i ≤ L j ∨ H j ≤ L i) → (∀ s i, s < ls.length → ovK ls s = .new i → L s = L i ∧ H s = H i ∧ ∃ wo, Gs i V (L i) (H i) wo) → wpListIn F n P ops Q [] (lexOf V 0 (pre ++ l) a0) w)
  | [], pd, [], pre, A, hp, hA, hls, h => by
    refine ⟨fun i o hi => absurd hi (by simp), fun V L H w hb hj hh hd hx => ?_⟩
    unfold freeKIn at h
    have := h V L H w hb hj hh hd hx
    rw [hA] at this
    simpa using this
  | [], _, _ :: _, pre, A, hp, hA, hls, h => by unfold freeKIn at h; exact h.elim
  | _ :: _, _, [], pre, A, hp, hA, hls, h => by unfold freeKIn at h; exact h.elim
  | (ds, ov, ms) :: dss, pd, o :: l, pre, A, hp, hA, hls, h => by
    have hov : ovK ls pre.length = ov := by
      unfold ovK lineK
      rw [← hls, ← hp, List.getD_eq_getElem?_getD, List.getElem?_append_right (Nat.le_refl _)]
      simp
    unfold freeKIn at h
    obtain ⟨h1, h2⟩ := h
    have ih := freeKIn_spec (a0 := a0) dss (pd ++ [(ds, ov, ms)]) l (pre ++ [o]) (fun V => (A V).put o.dst (V pre.length)) (by simp [hp]) (fun V => by rw [hA V, lexOf_snoc, Nat.zero_add]) (by simpa using hls) (by simpa using h2)
    refine ⟨fun i o' ho V L H w hb hk hj hh => ?_, fun V L H w hb hj hh hd hx => ?_⟩
    · cases i with
      | zero =>
        obtain rfl : o = o' := by simpa using ho
        have := h1 V L H w hb (by simpa [lineK] using hk) hj (by simpa [lineK] using hh)
        rw [hA] at this
        have he : ShowsK ls FJ J ob Gs V L H w (pre.length + 0) = effK FJ J ob Gs V L H w pre.length ov := by
          funext v w'
          unfold ShowsK
          rw [Nat.add_zero, hov]
          cases ov <;> rfl
        rw [he]
        simpa using this
      | succ i =>
        have := ih.1 i o' (by simpa using ho) V L H w hb (by simpa [lineK] using hk) hj (by simpa [lineK] using hh)
        simpa [Nat.add_assoc, Nat.add_comm 1 i] using this
    · have := ih.2 V L H w hb hj hh hd hx
      simpa using this

theorem wpIn_region_freeK {id : Nat} {Q : Exit → Act → World → Prop} {a : Act} {w : World} {l : List Oper} (ls : List LineK) (live os : List Nat) (FJ : Nat → Prop) (J : World → Prop) (ob : Nat → Nat) (Gs : Nat → Sp) (hm : P.follows .mixedOrders = true)
    (hB : freeKB l ls live os = true) (hob : ObLK w.heap.size FJ ob os) (hF : ∀ y, FJ y → y < w.heap.size) (hJ0 : J w)
    (hJ : ∀ w1 w2, w.heap.size ≤ w1.heap.size → J w1 → Kept (fun y => y < w.heap.size ∧ NeAllK ob y os) w1 w2 → J w2)
    (hloc : LocalK ls Gs) (hlast : ∀ i, i < l.length → LastsK w.heap.size FJ ob os (ownK ls ob i) (Gs i))
    (h : freeKIn F n P l.toArray Q w FJ J ob Gs live os ls 0 (fun _ => a) l ls) : (Code.region id l.toArray true).wpIn F n P Q a w := by
  have ok := freeOkK hB
  obtain ⟨h1, h2⟩ := freeKIn_spec (a0 := a) ls [] l [] (fun _ => a) rfl (fun _ => rfl) rfl h
  simp only [List.nil_append, List.length_nil, Nat.zero_add] at h1 h2
  refine wpIn_region_any hm ?_
  have hcount : (List.range l.length).countP (fun i => (Array.replicate l.toArray.size false).getD i true == false) = l.length := by
    rw [List.countP_eq_length.2, List.length_range]
    intro i hi
    have : i < l.length := List.mem_range.1 hi
    simp [this]
  have := wpAnyIn_freeK (F := F) (n := n) (P := P) (Q := Q) (a0 := a) (w0 := w) (Gs := Gs) ok hob hF hJ hloc hlast (fun i o ho V L H w' hb hk hj hd => h1 i o ho V L H w' hb hk hj (heldOfK_of _ hd))
    (fun V L H w' hb hj hd hap hdead => by simpa [wpListIn] using h2 V L H w' hb hj (heldOfK_of _ hd) hap (fun s i hs => hdead s i (ok.len ▸ hs)))
    _ (Array.replicate l.toArray.size false) (fun _ => undef) (fun _ => 0) (fun _ => 0) a { w with drawn := w.drawn + 1 }
    ⟨by simp, fun j oj _ hl => (by rw [getD_replicate_false] at hl; cases hl),
      (actOf_off _ _ _ fun m _ => getD_replicate_false _ _).symm, ⟨rfl, rfl, rfl, Nat.le_refl _, fun _ _ _ => rfl⟩, hJ w _ (Nat.le_refl _) hJ0 ⟨Nat.le_refl _, fun _ _ _ => rfl⟩, fun i _ _ => rfl, fun i hl => absurd hl.2.1 (by simp only [getD_replicate_false]; decide), fun s i _ _ hl => (by rw [getD_replicate_false] at hl; cases hl), fun i j _ hl => absurd hl.2.1 (by simp only [getD_replicate_false]; decide)⟩ hcount
  simpa using this
end
end Go.Proofs.Ytoockfmkcjomhaa
