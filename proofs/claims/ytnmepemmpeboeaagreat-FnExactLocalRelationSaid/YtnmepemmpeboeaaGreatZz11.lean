/-
  The nodes of an expression, in the program: nodesOf, allNodesOf.
  CountExpr, DepthOfExpr, HasRemote, in the model and in the program.
-/
import Derived.Test.YtnmepemmpeboeaaGreatZNodes1
import Derived.Test.YtnmepemmpeboeaaGreatZz10
import Derived.Deep.LoopGhost
import Derived.Test.YtnmepemmpeboeaaGreatZz6
namespace Go.Proofs.YtnmepemmpeboeaaGreat
open Go.ChangeShapes Go.WideShapes Go.ChangeAt Go.RowKit Go.Deep

def nodeCells (N : List ENode) : List Value := N.flatMap ENode.vals
theorem nodeCells_snoc (N : List ENode) (n : ENode) : nodeCells (N ++ [n]) = nodeCells N ++ n.vals := by unfold nodeCells; simp
theorem info_node : (Tryz.prog.info? 128).map (fun i => (i.zero, i.size, i.bytes)) = some (some (.agg #[.int .i64 0, .int .i64 0, .int .i64 0, .int .i64 0, .string ⟨#[]⟩, .string ⟨#[]⟩, .int .i64 0, .int .i64 0]), 8, 80) := by kernel_rfl

/-- The nodes of x; at most so many. -/
def nodesM (x : DExpr) (most : Int) : List ENode := (nodesX x 1).take most.toNat

theorem own_slice {w : World} {B : Nat} {e : TypeId} {m n : Nat} {v : Value} {xs : List Value} (h : w.ownsRow B e m v n xs) : ∃ a c, v = .slice a n c := by
  rcases h.2 with ⟨rfl, rfl⟩ | ⟨g, cap, cur, rfl, _⟩
  · exact ⟨none, 0, rfl⟩
  · exact ⟨_, cap, rfl⟩
theorem own_some {w : World} {B : Nat} {e : TypeId} {m n : Nat} {v : Value} {xs : List Value} (h : w.ownsRow B e m v n xs) (hn : 0 < n) : ∃ g c, v = .slice (some ⟨g, 0, none⟩) n c ∧ B ≤ g ∧ g < w.heap.size := by
  rcases h.2 with ⟨rfl, rfl⟩ | ⟨g, cap, cur, rfl, hB, hg, _⟩
  · omega
  · exact ⟨g, cap, rfl, hB, (Array.getElem?_eq_some_iff.1 hg).1⟩
theorem own_cap {w : World} {B g n c : Nat} {e : TypeId} {m : Nat} {xs : List Value} (h : w.ownsRow B e m (.slice (some ⟨g, 0, none⟩) n c) n xs) : n ≤ c ∧ c ≤ 9223372036854775807 := by
  rcases h.2 with ⟨h, _⟩ | ⟨g', cap', cur, h, _, _, h1, h2, _⟩
  · cases h
  · simp only [Value.slice.injEq, Option.some.injEq, Addr.mk.injEq, and_true, true_and] at h
    obtain ⟨rfl, rfl⟩ := h
    exact ⟨h1, by unfold maxLen at h2; exact h2⟩
theorem own_apart {w : World} {B B' : Nat} {e e' : TypeId} {m m' n n' : Nat} {v v' : Value} {xs xs' : List Value} (h : w.ownsRow B e m v n xs) (h' : w.ownsRow B' e' m' v' n' xs') (hne : e ≠ e') : v.ownBlock = none ∨ v.ownBlock ≠ v'.ownBlock := by
  rcases h.2 with ⟨rfl, rfl⟩ | ⟨g, cap, cur, rfl, hB, hg, _⟩
  · exact Or.inl rfl
  · refine Or.inr fun he => ?_
    rcases h'.2 with ⟨rfl, rfl⟩ | ⟨g', cap', cur', rfl, hB', hg', _⟩
    · cases he
    · have e1 : some g = some g' := he
      injection e1 with e1
      subst e1
      rw [hg] at hg'
      simp only [Option.some.injEq, Obj.cells.injEq] at hg'
      exact hne hg'.2.1
theorem PSet.kept {w w' : World} {b : Nat} {L : List (Nat × Nat)} {row : Option Nat} (h : PSet w b L) (hg : w.grownBy w' row) (hne : some b ≠ row) : PSet w' b L := h.block (hg.block b h.lt hne)
theorem PSet.later {w w' : World} {b : Nat} {L : List (Nat × Nat)} (h : PSet w b L) (hb : Below w.heap.size w w') : PSet w' b L := h.block (hb.block b h.lt)
theorem PSet.alloc {w : World} {b : Nat} {L : List (Nat × Nat)} (h : PSet w b L) (o : Obj) : PSet (w.alloc o) b L := h.kept (World.grownBy_alloc w o none) (by simp)
theorem stepCells_one (S : List Stp) : ∀ u ∈ stepCells S, u.oneCell' = true := by
  intro u hu
  unfold stepCells at hu
  obtain ⟨s, _, hs⟩ := List.mem_flatMap.1 hu
  unfold Stp.vals at hs
  simp only [List.mem_cons, List.not_mem_nil, or_false] at hs
  rcases hs with rfl | rfl | rfl <;> rfl
theorem nodeVals_one (n : ENode) : ∀ u ∈ n.vals, u.oneCell' = true := by
  intro u hu
  unfold ENode.vals at hu
  simp only [List.mem_cons, List.not_mem_nil, or_false] at hu
  rcases hu with rfl | rfl | rfl | rfl | rfl | rfl | rfl | rfl <;> rfl
theorem own_notAt {w : World} {B : Nat} {e : TypeId} {m n : Nat} {v : Value} {xs : List Value} (h : w.ownsRow B e m v n xs) {b : Nat} (hb : b < B) : some b ≠ v.ownBlock := fun h' => by have := (h.lt b h'.symm).1; omega
theorem own_keptAt {w w' : World} {B : Nat} {e : TypeId} {m n : Nat} {v : Value} {xs : List Value} (h : w.ownsRow B e m v n xs) {b : Nat} (hb : b < B) (hg : w.grownBy w' (some b)) : w'.ownsRow B e m v n xs := h.kept hg (Or.inr fun e => own_notAt h hb e.symm)
theorem work_len : ∀ T : List Stp, T.length ≤ workOf T
  | [] => Nat.le_refl _
  | s :: T => by
    have h := work_len T
    rw [workOf_cons, List.length_cons]
    have : 1 ≤ s.work := by
      unfold Stp.work
      have := cntX_pos s.x
      split <;> omega
    omega
/-- At the end the nodes done are the first ones. -/
theorem mid_end {hi : Nat} {w : World} {x : DExpr} {N : List ENode} {T : List Stp} {most : Int} (h : Mid hi w x N T) (hl : N.length ≤ most.toNat) (he : T = [] ∨ most ≤ (N.length : Int)) : N = nodesM x most := by
  unfold nodesM
  rw [← h.nodes]
  rcases he with rfl | he
  · rw [show nodesOfT [] = [] from rfl, List.append_nil, List.take_of_length_le hl]
  · have : most.toNat = N.length := by omega
    rw [this, List.take_left]
theorem mid_start {hi : Nat} {w : World} {x : DExpr} {b : Nat} (h : At hi w ⟨b, 0, x, 1, false⟩) : Mid hi w x [] [⟨b, 0, x, 1, false⟩] := by
  refine ⟨fun s hs => ?_, List.pairwise_cons.2 ⟨fun _ h => (by cases h), List.Pairwise.nil⟩, ?_, fun s hs _ => ?_⟩
  · rw [List.mem_singleton.1 hs]; exact h
  · show [] ++ (nodesX x 1 ++ []) = _
    simp
  · rw [List.mem_singleton.1 hs]
    show 1 + cntX x ≤ cntX x + 1
    omega
theorem sum_ge : ∀ l : List DExpr, l.length ≤ (l.map cntX).sum
  | [] => Nat.le_refl _
  | a :: l => by
    have h := sum_ge l
    have h2 := cntX_pos a
    rw [List.map_cons, List.sum_cons, List.length_cons]
    omega
theorem size_Expr (w : World) : (sizeOf 64).run Tryz.prog w = .ok 7 w := by kernel_rfl
theorem zero_bool (w : World) : (zeroValue 4).run Tryz.prog w = .ok (.bool false) w := by kernel_rfl

set_option maxHeartbeats 12800000 in
set_option maxRecDepth 100000 in
theorem impl_nodesOf {hi c6 : Nat} {a6 : Option Addr} (x : DExpr) (hsz : x.sz ≤ 1048576) (most : Int) (hm : okI most) (w : World) (hhi : hi ≤ w.heap.size) (hs6 : Sf 0 hi w 7 x.fArgs.length (ctE x.fArgs) a6) :
    Calls Tryz.prog 95 #[.agg #[.int .i64 x.fKind, .int .i64 x.fN, .int .i64 x.fPos, .int .i64 x.fType, .string x.fSymbol, .string x.fName, .slice a6 x.fArgs.length c6], .int .i64 most] w fun e w' =>
      ∃ v, e = .returned v ∧ w'.ownsRow (w.heap.size + 1) 128 8 v (nodesM x most).length (nodeCells (nodesM x most)) ∧ Below w.heap.size w w' := by
  obtain ⟨i1, hi1, hy0, hy1, hy2⟩ := info_parts info_step
  obtain ⟨i0, hi', hz0, hz1, hz2⟩ := info_parts info_node
  have hcnt := cntX_le x
  have hm1 : -9223372036854775808 ≤ most ∧ most ≤ 9223372036854775807 := hm
  have HAT := Lib.hid (show ∀ W, Below (w.heap.size + 1) (w.alloc (.cells #[.int .i64 x.fKind, .int .i64 x.fN, .int .i64 x.fPos, .int .i64 x.fType, .string x.fSymbol, .string x.fName, .slice a6 x.fArgs.length c6] 64)) W → At (w.heap.size + 1) W ⟨w.heap.size, 0, x, 1, false⟩ from fun W hW => by
    have hbox : Below w.heap.size w (w.alloc (.cells #[.int .i64 x.fKind, .int .i64 x.fN, .int .i64 x.fPos, .int .i64 x.fType, .string x.fSymbol, .string x.fName, .slice a6 x.fArgs.length c6] 64)) := (Below.refl _ _).alloc (Nat.le_refl _) _
    refine At.later ⟨fun j hj => ?_, fun o => ?_, Nat.lt_succ_self _⟩ hW
    · rw [Nat.zero_add]
      match j, hj with
      | 0, _ => exact ⟨_, (by go_simp), .lit _⟩
      | 1, _ => exact ⟨_, (by go_simp), .lit _⟩
      | 2, _ => exact ⟨_, (by go_simp), .lit _⟩
      | 3, _ => exact ⟨_, (by go_simp), .lit _⟩
      | 4, _ => exact ⟨_, (by go_simp), .lit _⟩
      | 5, _ => exact ⟨_, (by go_simp), .lit _⟩
      | 6, _ => exact ⟨.slice a6 x.fArgs.length c6, (by go_simp), ((hs6.later hbox hhi).mono (Nat.le_refl _) (by omega)) c6⟩
    · exact frozen_of_row _ _ o _ _ (blk_new rfl))
  clear hs6 hm
  have hmm := @run_makeMap Tryz.prog
  go_enter Tryz.func95, Tryz.ntmps95
  go_wp2
  have HO0 := Lib.hid (World.ownsRow_lit (base := w.heap.size + 2) (size := 3) (e := 173) ((w.alloc (.cells #[.int .i64 x.fKind, .int .i64 x.fN, .int .i64 x.fPos, .int .i64 x.fType, .string x.fSymbol, .string x.fName, .slice a6 x.fArgs.length c6] 64)).alloc (.map #[] 0)) #[.pointer (some ⟨w.heap.size, 0, none⟩), .int .i64 1, .bool false] 1 (by simp) (by decide) rfl)
  have HP0 := Lib.hid ((PSet.made (w := w.alloc (.cells #[.int .i64 x.fKind, .int .i64 x.fN, .int .i64 x.fPos, .int .i64 x.fType, .string x.fSymbol, .string x.fName, .slice a6 x.fArgs.length c6] 64))).alloc (.cells #[.pointer (some ⟨w.heap.size, 0, none⟩), .int .i64 1, .bool false] 173))
  go_loopg [5, 7] (2 * cntX x) (fun k v5 v7 wr => ∃ (N : List ENode) (T : List Stp), workOf T ≤ k ∧ workOf T ≤ 2 * cntX x ∧ N.length ≤ most.toNat ∧ Mid (w.heap.size + 1) wr x N T ∧ PSet wr (w.heap.size + 1) (insideOf T) ∧ wr.ownsRow (w.heap.size + 2) 128 8 v5 N.length (nodeCells N) ∧ wr.ownsRow (w.heap.size + 2) 173 3 v7 T.length (stepCells T.reverse) ∧ Below (w.heap.size + 1) (w.alloc (.cells #[.int .i64 x.fKind, .int .i64 x.fN, .int .i64 x.fPos, .int .i64 x.fType, .string x.fSymbol, .string x.fName, .slice a6 x.fArgs.length c6] 64)) wr)
  case atStart =>
    have hbs : Below (w.heap.size + 1) (w.alloc (.cells #[.int .i64 x.fKind, .int .i64 x.fN, .int .i64 x.fPos, .int .i64 x.fType, .string x.fSymbol, .string x.fName, .slice a6 x.fArgs.length c6] 64)) (((w.alloc (.cells #[.int .i64 x.fKind, .int .i64 x.fN, .int .i64 x.fPos, .int .i64 x.fType, .string x.fSymbol, .string x.fName, .slice a6 x.fArgs.length c6] 64)).alloc (.map #[] 0)).alloc (.cells #[.pointer (some ⟨w.heap.size, 0, none⟩), .int .i64 1, .bool false] 173)) := ((Below.refl _ _).alloc (by simp) _).alloc (by simp) _
    refine ⟨[], [⟨w.heap.size, 0, x, 1, false⟩], Nat.le_refl _, Nat.le_refl _, Nat.zero_le _, mid_start (HAT.out _ hbs), ?_, World.ownsRow_nil _ _ _ _, ?_, hbs⟩
    · have h := HP0.out
      simp only [World.size_alloc] at h
      exact h
    · have h := HO0.out
      simp only [World.size_alloc] at h
      exact h
  case round =>
    clear HO0 HP0 HAT
    obtain ⟨N, T, hk, hk2, hlen, hmid, hps, ho5, ho7, hbl⟩ := hrel
    have HM := Lib.hid hmid
    have HP := Lib.hid hps
    have HB := Lib.hid hbl
    have HO5 := Lib.hid ho5
    have HLE := Lib.hid hlen
    have HK := Lib.hid hk
    have HK2 := Lib.hid hk2
    have hNl : (N.length : Int) ≤ 1048577 := by
      have h1 := congrArg List.length hmid.nodes
      rw [List.length_append, len_nodesX] at h1
      omega
    have hs0 : w.heap.size + 1 ≤ wr.heap.size := Nat.le_trans (by simp) hbl.size
    have hmb : w.heap.size + 1 < wr.heap.size := hps.lt
    have FIN := Lib.hid (show (T = [] ∨ most ≤ (N.length : Int)) → ∀ v, wr.ownsRow (w.heap.size + 2) 128 8 v N.length (nodeCells N) → wr.ownsRow (w.heap.size + 1) 128 8 v (nodesM x most).length (nodeCells (nodesM x most)) ∧ Below w.heap.size w wr from fun he v hv => by
      rw [← mid_end hmid hlen he]
      refine ⟨⟨hv.1, hv.2.imp id ?_⟩, ((Below.refl w.heap.size w).alloc (Nat.le_refl _) (.cells #[.int .i64 x.fKind, .int .i64 x.fN, .int .i64 x.fPos, .int .i64 x.fType, .string x.fSymbol, .string x.fName, .slice a6 x.fArgs.length c6] 64)).trans (hbl.mono (Nat.le_succ _))⟩
      rintro ⟨g, cap, cur, h1, h2, h3⟩
      exact ⟨g, cap, cur, h1, by omega, h3⟩)
    have hwl := work_len T
    obtain ⟨a5, c5, e5⟩ := own_slice ho5
    cases T with
    | nil =>
      obtain ⟨a7, c7, e7⟩ := own_slice ho7
      subst e5 e7
      clear hmid hps ho5 ho7 hbl hlen hk hk2
      go_wp2
      go_ret
      have h := FIN.out (by simp) _ HO5.out
      exact ⟨_, rfl, h.1, h.2⟩
    | cons s T =>
      obtain ⟨g7, c7, e7, hg71, hg72⟩ := own_some ho7 (Nat.succ_pos _)
      subst e5 e7
      obtain ⟨ho7', d0, d1, d2⟩ := own_drop ho7 rfl
      have hcap : T.length + 1 ≤ c7 ∧ c7 ≤ 9223372036854775807 := own_cap ho7
      have hcap1 : T.length ≤ c7 := by omega
      have hcap2 : (T.length : Int) ≤ (c7 : Int) := by omega
      have HO7 := Lib.hid ho7'
      have hTl : T.length + 1 ≤ 2097154 := by rw [List.length_cons] at hwl; omega
      clear hmid hps ho5 ho7 ho7' hbl hlen hk hk2 hwl
      by_cases hlt : (N.length : Int) < most
      · cases hsl : s.leaving
        · rw [hsl] at d2
          obtain ⟨b, off, sx, sd, sl⟩ := s
          dsimp only at hsl
          subst hsl
          dsimp only at *
          have hat := HM.out.at_ _ (List.mem_cons_self ..)
          have hdep := HM.out.depth _ (List.mem_cons_self ..) rfl
          obtain ⟨a9, c9, f0, f1, f2, f3, f4, f5, f6, rb, ro, hrb, hrow⟩ := hat.row
          dsimp only at f0 f1 f2 f3 f4 f5 f6 hrb hrow hdep
          have hbb : b < w.heap.size + 1 := hat.2.2
          have hsx := cntX_eq sx
          have hsl : sx.fArgs.length ≤ 2097152 := by have h1 := sum_ge sx.fArgs; omega
          have HN := Lib.hid (show ∀ W, Below wr.heap.size wr W → _ from fun W hW => impl_nodeOf sx sd W ((hW.cell (p := ⟨b, off, none⟩) (by show b < _; omega)).trans f0) ((hW.cell (p := ⟨b, off + 1, none⟩) (by show b < _; omega)).trans f1) ((hW.cell (p := ⟨b, off + 2, none⟩) (by show b < _; omega)).trans f2) ((hW.cell (p := ⟨b, off + 3, none⟩) (by show b < _; omega)).trans f3) ((hW.cell (p := ⟨b, off + 4, none⟩) (by show b < _; omega)).trans f4) ((hW.cell (p := ⟨b, off + 5, none⟩) (by show b < _; omega)).trans f5) ((hW.cell (p := ⟨b, off + 6, none⟩) (by show b < _; omega)).trans f6))
          have HSI := Lib.hid (show ∀ W, Below (w.heap.size + 1) wr W → _ from fun W hW => impl_stepsInto (b := b) (off := off) (rb := rb) (ro := ro) (c6 := c9) (a6 := a9) sx sd hsl (by omega) W ((hW.cell (p := ⟨b, off + 6, none⟩) hbb).trans f6) hrb)
          have HNI := Lib.hid HM.out.notIn
          have HROW := Lib.hid hrow
          clear hat f0 f1 f2 f3 f4 f5 f6 hrb hrow hsx
          go_wp2_with fail
          refine (HN.out _ ((Below.refl _ _).alloc (Nat.le_refl _) _)).mono ?_
          rintro e w1 ⟨rfl, hb1⟩
          have q0 : w1.cell? ⟨wr.heap.size, 0, none⟩ = some (.pointer (some ⟨b, off, none⟩)) := (hb1.cell (p := ⟨wr.heap.size, 0, none⟩) (by simp)).trans (by go_simp)
          have q1 : w1.cell? ⟨wr.heap.size, 1, none⟩ = some (.int .i64 (sd : Int)) := (hb1.cell (p := ⟨wr.heap.size, 1, none⟩) (by simp)).trans (by go_simp)
          have q2 : w1.cell? ⟨wr.heap.size, 2, none⟩ = some (.bool false) := (hb1.cell (p := ⟨wr.heap.size, 2, none⟩) (by simp)).trans (by go_simp)
          have hB1 : wr.heap.size < w1.heap.size := Nat.lt_of_lt_of_le (by simp) hb1.size
          have hbw : Below wr.heap.size wr w1 := ((Below.refl wr.heap.size wr).alloc (Nat.le_refl _) (.cells #[.pointer (some ⟨b, off, none⟩), .int .i64 (sd : Int), .bool false] 173)).trans (hb1.mono (by simp))
          have hbn : Below wr.heap.size wr (w1.alloc (.cells #[.int .i64 sx.fKind, .int .i64 sx.fN, .int .i64 sx.fPos, .int .i64 sx.fType, .string sx.fSymbol, .string sx.fName, .int .i64 (sx.fArgs.length : Int), .int .i64 (sd : Int)] 128)) := hbw.alloc (by omega) _
          have HP2 := Lib.hid (HP.out.later hbn)
          have HM2 := Lib.hid (HM.out.later (hbn.mono hs0))
          have O5 := Lib.hid (ownsRow_below HO5.out hbn)
          have O7 := Lib.hid (ownsRow_below HO7.out hbn)
          have HBN := Lib.hid hbn
          have hdec : decide ((b, off) ∈ insideOf (⟨b, off, sx, sd, false⟩ :: T)) = false := decide_eq_false (by rw [insideOf_cons]; exact HNI.out)
          have HDEC := Lib.hid hdec
          have hpl := (HM2.out.at_ _ (List.mem_cons_self ..)).plain
          have hpn : ∀ q ∈ insideOf (⟨b, off, sx, sd, false⟩ :: T), PlainAt (w1.alloc (.cells #[.int .i64 sx.fKind, .int .i64 sx.fN, .int .i64 sx.fPos, .int .i64 sx.fType, .string sx.fSymbol, .string sx.fName, .int .i64 (sx.fArgs.length : Int), .int .i64 (sd : Int)] 128)) q := by rw [insideOf_cons]; exact HM2.out.plainIn
          have HPL := Lib.hid hpl
          have HPN := Lib.hid hpn
          have HQ0 := Lib.hid q0
          have HQ1 := Lib.hid q1
          have HQ2 := Lib.hid q2
          clear hb1 hbw hbn hdec hpl hpn HN
          go_wp2_with (first
            | (at_lookup; refine wpList_look_pset _ rfl (.tmp 43) (.tmp 45) 170 rfl 171 4 64 7 Tryz.underlying170 Tryz.underlying171 (size_Expr _) (by decide) (zero_bool _) (w.heap.size + 1) _ rfl HP2.out (b, off) rfl HPL.out HPN.out ?_; rw [HDEC.out])
            | (at_mapUpdate; refine wpList_update_pset _ rfl (.tmp 48) (.tmp 50) (.const (.bool true)) 170 rfl 171 4 64 7 Tryz.underlying170 Tryz.underlying171 (size_Expr _) (by decide) (w.heap.size + 1) _ rfl HP2.out (b, off) rfl rfl HPL.out HPN.out (of_decide_eq_false HDEC.out) ?_; intro w3 hps3 hg3;
               have s0 : w3.cell? ⟨wr.heap.size, 0, none⟩ = some (.pointer (some ⟨b, off, none⟩)) := hg3.cell (a := ⟨wr.heap.size, 0, none⟩) ((((Below.refl w1.heap.size w1).alloc (Nat.le_refl _) _).cell (p := ⟨wr.heap.size, 0, none⟩) hB1).trans HQ0.out) (by intro e; simp at e; omega);
               have s1 : w3.cell? ⟨wr.heap.size, 1, none⟩ = some (.int .i64 (sd : Int)) := hg3.cell (a := ⟨wr.heap.size, 1, none⟩) ((((Below.refl w1.heap.size w1).alloc (Nat.le_refl _) _).cell (p := ⟨wr.heap.size, 1, none⟩) hB1).trans HQ1.out) (by intro e; simp at e; omega);
               have s2 : w3.cell? ⟨wr.heap.size, 2, none⟩ = some (.bool false) := hg3.cell (a := ⟨wr.heap.size, 2, none⟩) ((((Below.refl w1.heap.size w1).alloc (Nat.le_refl _) _).cell (p := ⟨wr.heap.size, 2, none⟩) hB1).trans HQ2.out) (by intro e; simp at e; omega); have r0 : w3.cell? ⟨w1.heap.size, 0, none⟩ = some (.int .i64 sx.fKind) := hg3.cell (a := ⟨w1.heap.size, 0, none⟩) (by go_simp) (by intro e; simp at e; omega); have r1 : w3.cell? ⟨w1.heap.size, 1, none⟩ = some (.int .i64 sx.fN) := hg3.cell (a := ⟨w1.heap.size, 1, none⟩) (by go_simp) (by intro e; simp at e; omega); have r2 : w3.cell? ⟨w1.heap.size, 2, none⟩ = some (.int .i64 sx.fPos) := hg3.cell (a := ⟨w1.heap.size, 2, none⟩) (by go_simp) (by intro e; simp at e; omega); have r3 : w3.cell? ⟨w1.heap.size, 3, none⟩ = some (.int .i64 sx.fType) := hg3.cell (a := ⟨w1.heap.size, 3, none⟩) (by go_simp) (by intro e; simp at e; omega); have r4 : w3.cell? ⟨w1.heap.size, 4, none⟩ = some (.string sx.fSymbol) := hg3.cell (a := ⟨w1.heap.size, 4, none⟩) (by go_simp) (by intro e; simp at e; omega); have r5 : w3.cell? ⟨w1.heap.size, 5, none⟩ = some (.string sx.fName) := hg3.cell (a := ⟨w1.heap.size, 5, none⟩) (by go_simp) (by intro e; simp at e; omega); have r6 : w3.cell? ⟨w1.heap.size, 6, none⟩ = some (.int .i64 (sx.fArgs.length : Int)) := hg3.cell (a := ⟨w1.heap.size, 6, none⟩) (by go_simp) (by intro e; simp at e; omega); have r7 : w3.cell? ⟨w1.heap.size, 7, none⟩ = some (.int .i64 (sd : Int)) := hg3.cell (a := ⟨w1.heap.size, 7, none⟩) (by go_simp) (by intro e; simp at e; omega)))
          have hg3' := Lib.hid hg3
          have hsz3 : w1.heap.size + 1 ≤ w3.heap.size := by have := hg3.size; simp at this; omega
          have HB3 := Lib.hid (show Below (w.heap.size + 1) wr w3 from (HBN.out.mono hs0).grown hg3 (by simp; omega) (fun g hg => by cases hg; exact Nat.le_refl _))
          have O5b := Lib.hid (own_keptAt O5.out (Nat.lt_succ_self _) hg3)
          have O7b := Lib.hid (own_keptAt O7.out (Nat.lt_succ_self _) hg3)
          have HP3 := Lib.hid hps3
          clear hg3 hps3 q0 q1 q2 HP2 HM2 O5 O7 HPL HPN HQ0 HQ1 HQ2 hg3'
          refine (HSI.out _ HB3.out).mono ?_
          rintro e w4 ⟨v8, rfl, hov, hb4⟩
          obtain ⟨g8, c8, rfl, hg81, hg82⟩ := own_some hov (Nat.succ_pos _)
          have O5c := Lib.hid (ownsRow_below O5b.out hb4)
          have O7c := Lib.hid (ownsRow_below O7b.out hb4)
          have HP4 := Lib.hid (HP3.out.later hb4)
          have HB4 := Lib.hid (HB3.out.trans (hb4.mono (Nat.le_trans hs0 (by omega))))
          have t0 : w4.cell? ⟨w1.heap.size, 0, none⟩ = some (.int .i64 sx.fKind) := (hb4.cell (p := ⟨w1.heap.size, 0, none⟩) (by show w1.heap.size < _; omega)).trans r0
          have t1 : w4.cell? ⟨w1.heap.size, 1, none⟩ = some (.int .i64 sx.fN) := (hb4.cell (p := ⟨w1.heap.size, 1, none⟩) (by show w1.heap.size < _; omega)).trans r1
          have t2 : w4.cell? ⟨w1.heap.size, 2, none⟩ = some (.int .i64 sx.fPos) := (hb4.cell (p := ⟨w1.heap.size, 2, none⟩) (by show w1.heap.size < _; omega)).trans r2
          have t3 : w4.cell? ⟨w1.heap.size, 3, none⟩ = some (.int .i64 sx.fType) := (hb4.cell (p := ⟨w1.heap.size, 3, none⟩) (by show w1.heap.size < _; omega)).trans r3
          have t4 : w4.cell? ⟨w1.heap.size, 4, none⟩ = some (.string sx.fSymbol) := (hb4.cell (p := ⟨w1.heap.size, 4, none⟩) (by show w1.heap.size < _; omega)).trans r4
          have t5 : w4.cell? ⟨w1.heap.size, 5, none⟩ = some (.string sx.fName) := (hb4.cell (p := ⟨w1.heap.size, 5, none⟩) (by show w1.heap.size < _; omega)).trans r5
          have t6 : w4.cell? ⟨w1.heap.size, 6, none⟩ = some (.int .i64 (sx.fArgs.length : Int)) := (hb4.cell (p := ⟨w1.heap.size, 6, none⟩) (by show w1.heap.size < _; omega)).trans r6
          have t7 : w4.cell? ⟨w1.heap.size, 7, none⟩ = some (.int .i64 (sd : Int)) := (hb4.cell (p := ⟨w1.heap.size, 7, none⟩) (by show w1.heap.size < _; omega)).trans r7
          have hsz4 : w1.heap.size < w4.heap.size := Nat.lt_of_lt_of_le (by omega) hb4.size
          have hnl : (stepCells (intoOf b off rb ro sd sx)).length = (sx.fArgs.length + 1) * 3 := by rw [stepCells_len, intoOf_len]
          have HNL := Lib.hid hnl
          have HNEW := Lib.hid (hov.cells (g := g8) rfl)
          have HNE7 := Lib.hid (show some w1.heap.size ≠ (Value.slice (some ⟨g7, 0, none⟩) T.length c7).ownBlock from fun e => by have e2 : some w1.heap.size = some g7 := e; injection e2 with e2; omega)
          clear hov hb4 hnl s0 s1 s2 r0 r1 r2 r3 r4 r5 r6 r7 O5b O7b HP3 HB3
          go_wp2_with (first
            | (at_builtin; refine wpList_append_own _ rfl (.tmp 51) (.tmp 53) 174 rfl (w.heap.size + 2) 173 i1 (.agg #[.pointer none, .int .i64 0, .bool false]) 3 24 Tryz.underlying174 hi1 hy0 hy1 hy2 rfl (by decide) _ _ _ rfl O7c.out ⟨g8, 0, none⟩ (sx.fArgs.length + 1) c8 (stepCells (intoOf b off rb ro sd sx)) rfl HNL.out HNEW.out (stepCells_one _) (by unfold maxLen; omega) (by omega) (by omega) ?_; intro v7 w5 hown7 hgrow7 hnil7; have u0 : w5.cell? ⟨w1.heap.size, 0, none⟩ = some (.int .i64 sx.fKind) := hgrow7.cell (a := ⟨w1.heap.size, 0, none⟩) t0 HNE7.out; have u1 : w5.cell? ⟨w1.heap.size, 1, none⟩ = some (.int .i64 sx.fN) := hgrow7.cell (a := ⟨w1.heap.size, 1, none⟩) t1 HNE7.out; have u2 : w5.cell? ⟨w1.heap.size, 2, none⟩ = some (.int .i64 sx.fPos) := hgrow7.cell (a := ⟨w1.heap.size, 2, none⟩) t2 HNE7.out; have u3 : w5.cell? ⟨w1.heap.size, 3, none⟩ = some (.int .i64 sx.fType) := hgrow7.cell (a := ⟨w1.heap.size, 3, none⟩) t3 HNE7.out; have u4 : w5.cell? ⟨w1.heap.size, 4, none⟩ = some (.string sx.fSymbol) := hgrow7.cell (a := ⟨w1.heap.size, 4, none⟩) t4 HNE7.out; have u5 : w5.cell? ⟨w1.heap.size, 5, none⟩ = some (.string sx.fName) := hgrow7.cell (a := ⟨w1.heap.size, 5, none⟩) t5 HNE7.out; have u6 : w5.cell? ⟨w1.heap.size, 6, none⟩ = some (.int .i64 (sx.fArgs.length : Int)) := hgrow7.cell (a := ⟨w1.heap.size, 6, none⟩) t6 HNE7.out; have u7 : w5.cell? ⟨w1.heap.size, 7, none⟩ = some (.int .i64 (sd : Int)) := hgrow7.cell (a := ⟨w1.heap.size, 7, none⟩) t7 HNE7.out; have O5d := Lib.hid (O5c.out.kept hgrow7 (own_apart O5c.out O7c.out (by decide))); have hsz5 : w1.heap.size < w5.heap.size := Nat.lt_of_lt_of_le hsz4 hgrow7.size)
            | (at_builtin; refine wpList_append_own _ rfl (.tmp 55) (.tmp 57) 123 rfl (w.heap.size + 2) 128 i0 _ 8 80 Tryz.underlying123 hi' hz0 hz1 hz2 rfl (by decide) _ _ _ rfl (O5d.out.alloc _) ⟨w5.heap.size, 0, none⟩ 1 1 [.int .i64 sx.fKind, .int .i64 sx.fN, .int .i64 sx.fPos, .int .i64 sx.fType, .string sx.fSymbol, .string sx.fName, .int .i64 (sx.fArgs.length : Int), .int .i64 (sd : Int)] rfl rfl cells_new (by intro u hu; exact nodeVals_one (nodeOfX sx sd) u hu) (by unfold maxLen; omega) (by omega) (by simp; omega) ?_; intro v5 w6 hown5 hgrow5 hnil5))
          have O7d := Lib.hid (show w5.ownsRow (w.heap.size + 2) 173 3 v7 (enters rb ro (sd + 1) 0 sx.fArgs ++ ⟨b, off, sx, 0, true⟩ :: T).length (stepCells (enters rb ro (sd + 1) 0 sx.fArgs ++ ⟨b, off, sx, 0, true⟩ :: T).reverse) from by
            have h1 := rev_enter (s := ⟨b, off, sx, sd, false⟩) (T := T) rb ro
            have h2 : (enters rb ro (sd + 1) 0 sx.fArgs ++ ⟨b, off, sx, 0, true⟩ :: T).length = T.length + (sx.fArgs.length + 1) := by rw [List.length_append, enters_len, List.length_cons]; omega
            dsimp only at h1
            rw [h1, h2, stepCells_append]
            exact hown7)
          have HP5 := Lib.hid (HP4.out.kept hgrow7 (fun e => by have e2 : some (w.heap.size + 1) = some g7 := e; injection e2 with e2; omega))
          have HB5 := Lib.hid (HB4.out.grown hgrow7 (by omega) (fun g hg => by have e2 : some g7 = some g := hg; injection e2 with e2; omega))
          clear hown7 hgrow7 hnil7 t0 t1 t2 t3 t4 t5 t6 t7 O5c O7c HP4 HB4 HNL HNEW HNE7
          have O5e := Lib.hid (show w6.ownsRow (w.heap.size + 2) 128 8 v5 (N ++ [nodeOfX sx sd]).length (nodeCells (N ++ [nodeOfX sx sd])) from by
            rw [nodeCells_snoc, List.length_append]
            exact hown5)
          have O7e := Lib.hid ((O7d.out.alloc _).kept hgrow5 (own_apart O7d.out O5d.out (by decide)))
          have HP6 := Lib.hid ((HP5.out.alloc _).kept hgrow5 (own_notAt O5d.out (Nat.lt_succ_self _)))
          have HB6 := Lib.hid ((HB5.out.alloc (by omega) _).grown hgrow5 (by simp; omega) (fun g hg => by have := (O5d.out.lt g hg).1; omega))
          have HM6 := Lib.hid ((HM.out.enter rfl HROW.out).later HB6.out)
          have hwk := work_enter (s := ⟨b, off, sx, sd, false⟩) (T := T) rfl rb ro
          have HWK := Lib.hid hwk
          clear hown5 hgrow5 hnil5 u0 u1 u2 u3 u4 u5 u6 u7 O5d O7d HP5 HB5 hwk HM HROW
          go_wp2
          go_roundg (workOf (enters rb ro (sd + 1) 0 sx.fArgs ++ ⟨b, off, sx, 0, true⟩ :: T))
          case measure => have h1 := HWK.out; have h2 := HK.out; omega
          case rel => exact ⟨N ++ [nodeOfX sx sd], _, Nat.le_refl _, by have h1 := HWK.out; have h2 := HK2.out; omega, by rw [List.length_append, List.length_singleton]; omega, HM6.out, by rw [insideOf_enters, insideOf_cons]; have h := HP6.out; rw [insideOf_cons] at h; exact h, O5e.out, O7e.out, HB.out.trans (HB6.out.mono (by simp))⟩
        · rw [hsl] at d2
          obtain ⟨b, off, sx, sd, sl⟩ := s
          dsimp only at hsl
          subst hsl
          dsimp only at *
          have hbn : Below wr.heap.size wr (wr.alloc (.cells #[.pointer (some ⟨b, off, none⟩), .int .i64 (sd : Int), .bool true] 173)) := (Below.refl _ _).alloc (Nat.le_refl _) _
          have HM2 := Lib.hid (HM.out.later (hbn.mono hs0))
          have HP2 := Lib.hid (show PSet (wr.alloc (.cells #[.pointer (some ⟨b, off, none⟩), .int .i64 (sd : Int), .bool true] 173)) (w.heap.size + 1) (insideOf T ++ [(b, off)]) from by
            have h := HP.out.later hbn
            rw [insideOf_cons] at h
            exact h)
          have O5 := Lib.hid (ownsRow_below HO5.out hbn)
          have O7 := Lib.hid (ownsRow_below HO7.out hbn)
          have HBN := Lib.hid hbn
          have HPL := Lib.hid (HM2.out.at_ _ (List.mem_cons_self ..)).plain
          have HPN := Lib.hid HM2.out.plainIn
          have HNI := Lib.hid HM2.out.notIn
          clear hbn
          go_wp2_with (at_delete; refine wpList_delete_pset _ rfl (.tmp 35) (.tmp 37) 170 171 rfl 4 64 7 Tryz.underlying170 Tryz.underlying171 (size_Expr _) (by decide) (w.heap.size + 1) (insideOf T) rfl (b, off) HP2.out rfl HPL.out HPN.out HNI.out ?_; intro w3 hps3 hg3)
          have HB3 := Lib.hid (show Below (w.heap.size + 1) wr w3 from (HBN.out.mono hs0).grown hg3 (by simp; omega) (fun g hg => by cases hg; exact Nat.le_refl _))
          have O5b := Lib.hid (own_keptAt O5.out (Nat.lt_succ_self _) hg3)
          have O7b := Lib.hid (own_keptAt O7.out (Nat.lt_succ_self _) hg3)
          have HP3 := Lib.hid hps3
          have HM3 := Lib.hid ((HM.out.leave rfl).later HB3.out)
          have hwk : workOf (⟨b, off, sx, sd, true⟩ :: T) = 1 + workOf T := workOf_cons _ _
          have HWK := Lib.hid hwk
          clear hg3 hps3 hwk
          go_wp2
          go_roundg (workOf T)
          case measure => have h1 := HWK.out; have h2 := HK.out; omega
          case rel => exact ⟨N, T, Nat.le_refl _, by have h1 := HWK.out; have h2 := HK2.out; omega, HLE.out, HM3.out, HP3.out, O5b.out, O7b.out, HB.out.trans (HB3.out.mono (by simp))⟩
      · clear HM HK2
        go_wp2
        go_ret
        have h := FIN.out (Or.inr (by omega)) _ HO5.out
        exact ⟨_, rfl, h.1, h.2⟩
end Go.Proofs.YtnmepemmpeboeaaGreat
namespace Go.Proofs.YtnmepemmpeboeaaGreat
open Go.ChangeShapes Go.WideShapes Go.ChangeAt Go.RowKit Go.Deep

/-- The cells of node number k. -/
theorem own_nodes {w : World} {B g c : Nat} {e : TypeId} {N : List ENode} (h : w.ownsRow B e 8 (.slice (some ⟨g, 0, none⟩) N.length c) N.length (nodeCells N)) {k : Nat} (hk : k < N.length) :
    w.cell? ⟨g, k * 8, none⟩ = some (.int .i64 (N.getD k default).fKind) ∧ w.cell? ⟨g, k * 8 + 1, none⟩ = some (.int .i64 (N.getD k default).fN) ∧ w.cell? ⟨g, k * 8 + 2, none⟩ = some (.int .i64 (N.getD k default).fPos) ∧ w.cell? ⟨g, k * 8 + 3, none⟩ = some (.int .i64 (N.getD k default).fType) ∧ w.cell? ⟨g, k * 8 + 4, none⟩ = some (.string (N.getD k default).fSymbol) ∧ w.cell? ⟨g, k * 8 + 5, none⟩ = some (.string (N.getD k default).fName) ∧ w.cell? ⟨g, k * 8 + 6, none⟩ = some (.int .i64 (N.getD k default).fArgs) ∧ w.cell? ⟨g, k * 8 + 7, none⟩ = some (.int .i64 (N.getD k default).fDepth) := by
  have hN : ∀ (N : List ENode) (k j : Nat), k < N.length → j < 8 → (nodeCells N)[k * 8 + j]? = (N.getD k default).vals[j]? := by
    intro N
    induction N with
    | nil => intro k j hk; exact absurd hk (Nat.not_lt_zero _)
    | cons n N ih =>
      intro k j hk hj
      have e0 : nodeCells (n :: N) = n.vals ++ nodeCells N := by unfold nodeCells; rw [List.flatMap_cons]
      have e1 : n.vals.length = 8 := rfl
      rw [e0]
      cases k with
      | zero => rw [List.getElem?_append_left (by omega), Nat.zero_mul, Nat.zero_add]; rfl
      | succ k =>
        rw [List.getElem?_append_right (by omega), e1, show (k + 1) * 8 + j - 8 = k * 8 + j by omega, ih k j (by simpa using hk) hj]
        rfl
  have hat : ∀ j, j < 8 → w.cell? ⟨g, k * 8 + j, none⟩ = (N.getD k default).vals[j]? := fun j hj => by
    rw [h.cellAt _ (by omega), hN N k j hk hj]
  exact ⟨hat 0 (by decide), hat 1 (by decide), hat 2 (by decide), hat 3 (by decide), hat 4 (by decide), hat 5 (by decide), hat 6 (by decide), hat 7 (by decide)⟩

theorem nodesM_all {x : DExpr} (h : x.sz ≤ 1048576) : nodesM x 9223372036854775807 = nodesX x 1 := by
  unfold nodesM
  have h1 := cntX_le x
  have h2 := len_nodesX x 1
  exact List.take_of_length_le (by rw [show (9223372036854775807 : Int).toNat = 9223372036854775807 from rfl]; omega)

set_option maxHeartbeats 1600000 in
set_option maxRecDepth 100000 in
theorem impl_allNodesOf {hi c6 : Nat} {a6 : Option Addr} (x : DExpr) (hsz : x.sz ≤ 1048576) (w : World) (hhi : hi ≤ w.heap.size) (hs6 : Sf 0 hi w 7 x.fArgs.length (ctE x.fArgs) a6) :
    Calls Tryz.prog 68 #[.agg #[.int .i64 x.fKind, .int .i64 x.fN, .int .i64 x.fPos, .int .i64 x.fType, .string x.fSymbol, .string x.fName, .slice a6 x.fArgs.length c6]] w fun e w' => ∃ v, e = .returned v ∧ w'.ownsRow w.heap.size 128 8 v (nodesX x 1).length (nodeCells (nodesX x 1)) ∧ Below w.heap.size w w' := by
  have hbox : Below w.heap.size w (w.alloc (.cells #[.int .i64 x.fKind, .int .i64 x.fN, .int .i64 x.fPos, .int .i64 x.fType, .string x.fSymbol, .string x.fName, .slice a6 x.fArgs.length c6] 64)) := (Below.refl _ _).alloc (Nat.le_refl _) _
  have HC := Lib.hid (impl_nodesOf (c6 := c6) x hsz 9223372036854775807 ⟨by decide, by decide⟩ (w.alloc (.cells #[.int .i64 x.fKind, .int .i64 x.fN, .int .i64 x.fPos, .int .i64 x.fType, .string x.fSymbol, .string x.fName, .slice a6 x.fArgs.length c6] 64)) (Nat.le_trans hhi hbox.size) (hs6.later hbox hhi))
  have HM := Lib.hid (nodesM_all hsz)
  have HB := Lib.hid hbox
  clear hbox hs6
  go_enter Tryz.func68, Tryz.ntmps68
  go_wp2_with fail
  refine HC.out.mono ?_
  rintro e w1 ⟨v, rfl, hown, hb1⟩
  have R1 := Lib.hid (show w1.ownsRow w.heap.size 128 8 v (nodesX x 1).length (nodeCells (nodesX x 1)) from by
    rw [HM.out] at hown
    refine ⟨hown.1, hown.2.imp id ?_⟩
    rintro ⟨g, cap, cur, h1, h2, h3⟩
    refine ⟨g, cap, cur, h1, ?_, h3⟩
    simp at h2; omega)
  have R2 := Lib.hid (HB.out.trans (hb1.mono HB.out.size))
  clear hown hb1
  go_wp2
  go_ret
  exact ⟨_, rfl, R1.out, R2.out⟩
end Go.Proofs.YtnmepemmpeboeaaGreat
