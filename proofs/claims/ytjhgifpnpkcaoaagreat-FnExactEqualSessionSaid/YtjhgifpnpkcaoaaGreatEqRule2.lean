/-
  EqualFunc over contributions.
-/
import Derived.Test.YtjhgifpnpkcaoaaGreatEqRule
import Derived.Deep.MidRow
import Derived.Great.BuildSlice
import Derived.Deep.WholeRow
namespace Go.Proofs.YtjhgifpnpkcaoaaGreat
open Go.ChangeShapes Go.WideShapes Go.ChangeAt Go.RowKit Go.Deep


theorem setRow_new {w : World} {c c' : Array Value} {t : TypeId} {g : Nat} (h : g = w.heap.size) : (w.alloc (.cells c t)).setRow g c' = w.alloc (.cells c' t) := by subst h; exact World.setRow_alloc_new _ _ _ _
/-- Where a walk with arms is to halt. -/
def Stop (p : Prop) : Prop := p
theorem Stop.of {p : Prop} (h : Stop p) : p := h
theorem Stop.to {p : Prop} (h : p) : Stop p := h
theorem rblk_cell {w : World} {g j : Nat} {v : Value} {cs : Array Value} {t : TypeId} {fr : Nat × Nat} (h : w.heap[g]? = some (.cells cs t fr)) (hj : cs[j]? = some v) : w.cell? ⟨g, j, none⟩ = some v := by
  simp only [World.cell?, h]
  exact hj
theorem rangeAt_nil {w : World} {b o : Nat} : w.rangeAt b o [] := fun j v h => by simp at h
theorem rangeAt_cons {w : World} {b o : Nat} {v : Value} {vs : List Value} (h : w.cell? ⟨b, o, none⟩ = some v) (hs : w.rangeAt b (o + 1) vs) : w.rangeAt b o (v :: vs)
  | 0, u, hu => by simp only [List.getElem?_cons_zero, Option.some.injEq] at hu; subst hu; exact h
  | j + 1, u, hu => by rw [List.getElem?_cons_succ] at hu; have := hs j u hu; rwa [show o + 1 + j = o + (j + 1) by omega] at this


set_option maxHeartbeats 3200000 in
set_option maxRecDepth 100000 in
theorem EqualFunc_contributions {lo hi cap cap2 : Nat} {a a2 : Option Addr} (l m : List DContribution) (hol : okL DContribution.ok l) (hom : okL DContribution.ok m) (hl : lsz DContribution.sz l ≤ 1048576) (hm : lsz DContribution.sz m ≤ 1048576) (w : World) (hhi : hi ≤ w.heap.size) (hs : Sf lo hi w 16 l.length (fun k => DContribution.ct (l.getD k default)) a) (hs2 : Sf lo hi w 16 m.length (fun k => DContribution.ct (m.getD k default)) a2) :
    Calls Tryz.prog 72 #[.slice a l.length cap, .slice a2 m.length cap2, .func (.func 73) #[] #[]] w fun e w' => e = .returned (.bool (allEq eqC l m)) ∧ Below w.heap.size w w' := by
  have hn : l.length ≤ 1048576 := by unfold lsz at hl; omega
  have hn2 : m.length ≤ 1048576 := by unfold lsz at hm; omega
  have HW0 := Lib.hid (Below.refl w.heap.size w)
  by_cases hlen : l.length = m.length
  · have HS := Lib.hid hs
    have HS2 := Lib.hid hs2
    have HL := Lib.hid hlen
    have HSZ := Lib.hid (fun k (hk : k < l.length) => Nat.le_trans (szle_at (f := DContribution.sz) l k hk) hl)
    have HSZ2 := Lib.hid (fun k (hk : k < m.length) => Nat.le_trans (szle_at (f := DContribution.sz) m k hk) hm)
    have OKX := Lib.hid (fun k (hk : k < l.length) => hol.at hk)
    have OKY := Lib.hid (fun k (hk : k < m.length) => hom.at hk)
    have e0 : ((l.length : Int) == (m.length : Int)) = true := by rw [hlen]; exact beq_self_eq_true _
    have e00 : ((l.length : Int) != (m.length : Int)) = false := by rw [bne, e0]; rfl
    clear hs hs2 hlen hl hm hol hom
    go_enter Tryz.func72, Tryz.ntmps72
    go_wp2
    go_loopw [17] (fun i wr => ∃ k : Nat, k ≤ l.length ∧ i = .int .i64 (k : Int) ∧ (∀ jj, jj < k → eqC (l.getD jj default) (m.getD jj default) = true) ∧ Below w.heap.size w wr) (fun i _ => l.length - (intOf i).toNat)
    case atStart => exact ⟨0, Nat.zero_le _, rfl, fun _ h => absurd h (Nat.not_lt_zero _), Below.refl _ _⟩
    case round =>
      obtain ⟨k, hk, rfl, heq, hbl⟩ := hrel
      have HE := Lib.hid heq
      have HBW := Lib.hid hbl
      clear heq hbl
      by_cases hlt : k < l.length
      · have hltm : k < m.length := by rw [← HL.out]; exact hlt
        obtain ⟨b, off, rfl, _, hb_, _, hc⟩ := (HS.out.later (HBW.out.mono hhi) (Nat.le_refl _)).at k hlt
        obtain ⟨b2, off2, rfl, _, hb2_, _, hcq⟩ := (HS2.out.later (HBW.out.mono hhi) (Nat.le_refl _)).at k hltm
        obtain ⟨ax, cx, au, cu, h0, h1, h2, h3, h4, h5, h6, h7, h8, h9, h10, h11, h12, h13, h14, h15, hs8, hs15⟩ := DContribution.openS hc
        obtain ⟨ay, cy, az, cz, g0, g1, g2, g3, g4, g5, g6, g7, g8, g9, g10, g11, g12, g13, g14, g15, ht8, ht15⟩ := DContribution.openS hcq
        have bl2 : b2 < wr.heap.size := Nat.lt_of_lt_of_le hb2_ (Nat.le_trans hhi HBW.out.size)
        have hr1 : wr.rangeAt b (off + k * 16) [.string (l.getD k default).fSymbol, .string (l.getD k default).fName, .int .i64 (l.getD k default).fTarget.fKind, .int .i64 (l.getD k default).fTarget.fN, .int .i64 (l.getD k default).fTarget.fPos, .int .i64 (l.getD k default).fTarget.fType, .string (l.getD k default).fTarget.fSymbol, .string (l.getD k default).fTarget.fName, .slice ax (l.getD k default).fTarget.fArgs.length cx, .int .i64 (l.getD k default).fValue.fKind, .int .i64 (l.getD k default).fValue.fN, .int .i64 (l.getD k default).fValue.fPos, .int .i64 (l.getD k default).fValue.fType, .string (l.getD k default).fValue.fSymbol, .string (l.getD k default).fValue.fName, .slice au (l.getD k default).fValue.fArgs.length cu] := (rangeAt_cons h0 (rangeAt_cons h1 (rangeAt_cons h2 (rangeAt_cons h3 (rangeAt_cons h4 (rangeAt_cons h5 (rangeAt_cons h6 (rangeAt_cons h7 (rangeAt_cons h8 (rangeAt_cons h9 (rangeAt_cons h10 (rangeAt_cons h11 (rangeAt_cons h12 (rangeAt_cons h13 (rangeAt_cons h14 (rangeAt_cons h15 rangeAt_nil))))))))))))))))
        have hr2 : wr.rangeAt b2 (off2 + k * 16) [.string (m.getD k default).fSymbol, .string (m.getD k default).fName, .int .i64 (m.getD k default).fTarget.fKind, .int .i64 (m.getD k default).fTarget.fN, .int .i64 (m.getD k default).fTarget.fPos, .int .i64 (m.getD k default).fTarget.fType, .string (m.getD k default).fTarget.fSymbol, .string (m.getD k default).fTarget.fName, .slice ay (m.getD k default).fTarget.fArgs.length cy, .int .i64 (m.getD k default).fValue.fKind, .int .i64 (m.getD k default).fValue.fN, .int .i64 (m.getD k default).fValue.fPos, .int .i64 (m.getD k default).fValue.fType, .string (m.getD k default).fValue.fSymbol, .string (m.getD k default).fValue.fName, .slice az (m.getD k default).fValue.fArgs.length cz] := (rangeAt_cons g0 (rangeAt_cons g1 (rangeAt_cons g2 (rangeAt_cons g3 (rangeAt_cons g4 (rangeAt_cons g5 (rangeAt_cons g6 (rangeAt_cons g7 (rangeAt_cons g8 (rangeAt_cons g9 (rangeAt_cons g10 (rangeAt_cons g11 (rangeAt_cons g12 (rangeAt_cons g13 (rangeAt_cons g14 (rangeAt_cons g15 rangeAt_nil))))))))))))))))
        have HC := Lib.hid (fun (W : World) (hW : Below wr.heap.size wr W) => impl_equalContribution (c6 := cx) (c7 := cu) (d6 := cy) (d7 := cz) (l.getD k default) (m.getD k default) (OKX.out k hlt) (OKY.out k hltm) (HSZ.out k hlt) (HSZ2.out k hltm) W (Nat.le_trans hhi (Nat.le_trans HBW.out.size hW.size)) (hs8.later (hW.mono (Nat.le_trans hhi HBW.out.size)) (Nat.le_refl _)) (hs15.later (hW.mono (Nat.le_trans hhi HBW.out.size)) (Nat.le_refl _)) (ht8.later (hW.mono (Nat.le_trans hhi HBW.out.size)) (Nat.le_refl _)) (ht15.later (hW.mono (Nat.le_trans hhi HBW.out.size)) (Nat.le_refl _)))
        clear hc hcq hs8 hs15 ht8 ht15 h0 g0 h1 g1 h2 g2 h3 g3 h4 g4 h5 g5 h6 g6 h7 g7 h8 g8 h9 g9 h10 g10 h11 g11 h12 g12 h13 g13 h14 g14 h15 g15
        have HPS := Lib.hid (show eqC (l.getD k default) (m.getD k default) = true → ∀ jj, jj < k + 1 → eqC (l.getD jj default) (m.getD jj default) = true from fun h1 jj hj => by
          rcases Nat.lt_succ_iff_lt_or_eq.1 hj with h | h
          · exact HE.out jj h
          · rw [h]; exact h1)
        have HNO := Lib.hid (fun h => allEq_no (f := eqC) (m := m) hlt h)
        have HSX : Hid ((Tryz.prog.info? 128).map (·.size) = some ([.string (l.getD k default).fSymbol, .string (l.getD k default).fName, .int .i64 (l.getD k default).fTarget.fKind, .int .i64 (l.getD k default).fTarget.fN, .int .i64 (l.getD k default).fTarget.fPos, .int .i64 (l.getD k default).fTarget.fType, .string (l.getD k default).fTarget.fSymbol, .string (l.getD k default).fTarget.fName, .slice ax (l.getD k default).fTarget.fArgs.length cx, .int .i64 (l.getD k default).fValue.fKind, .int .i64 (l.getD k default).fValue.fN, .int .i64 (l.getD k default).fValue.fPos, .int .i64 (l.getD k default).fValue.fType, .string (l.getD k default).fValue.fSymbol, .string (l.getD k default).fValue.fName, .slice au (l.getD k default).fValue.fArgs.length cu] : List Value).length) := Lib.hid (by kernel_rfl)
        have HSY : Hid ((Tryz.prog.info? 128).map (·.size) = some ([.string (m.getD k default).fSymbol, .string (m.getD k default).fName, .int .i64 (m.getD k default).fTarget.fKind, .int .i64 (m.getD k default).fTarget.fN, .int .i64 (m.getD k default).fTarget.fPos, .int .i64 (m.getD k default).fTarget.fType, .string (m.getD k default).fTarget.fSymbol, .string (m.getD k default).fTarget.fName, .slice ay (m.getD k default).fTarget.fArgs.length cy, .int .i64 (m.getD k default).fValue.fKind, .int .i64 (m.getD k default).fValue.fN, .int .i64 (m.getD k default).fValue.fPos, .int .i64 (m.getD k default).fValue.fType, .string (m.getD k default).fValue.fSymbol, .string (m.getD k default).fValue.fName, .slice az (m.getD k default).fValue.fArgs.length cz] : List Value).length) := Lib.hid (by kernel_rfl)
        have HOX : Hid (([.string (l.getD k default).fSymbol, .string (l.getD k default).fName, .int .i64 (l.getD k default).fTarget.fKind, .int .i64 (l.getD k default).fTarget.fN, .int .i64 (l.getD k default).fTarget.fPos, .int .i64 (l.getD k default).fTarget.fType, .string (l.getD k default).fTarget.fSymbol, .string (l.getD k default).fTarget.fName, .slice ax (l.getD k default).fTarget.fArgs.length cx, .int .i64 (l.getD k default).fValue.fKind, .int .i64 (l.getD k default).fValue.fN, .int .i64 (l.getD k default).fValue.fPos, .int .i64 (l.getD k default).fValue.fType, .string (l.getD k default).fValue.fSymbol, .string (l.getD k default).fValue.fName, .slice au (l.getD k default).fValue.fArgs.length cu] : List Value).toArray.all (·.oneCell') = true) := Lib.hid (by simp [Value.oneCell'])
        have HOY : Hid (([.string (m.getD k default).fSymbol, .string (m.getD k default).fName, .int .i64 (m.getD k default).fTarget.fKind, .int .i64 (m.getD k default).fTarget.fN, .int .i64 (m.getD k default).fTarget.fPos, .int .i64 (m.getD k default).fTarget.fType, .string (m.getD k default).fTarget.fSymbol, .string (m.getD k default).fTarget.fName, .slice ay (m.getD k default).fTarget.fArgs.length cy, .int .i64 (m.getD k default).fValue.fKind, .int .i64 (m.getD k default).fValue.fN, .int .i64 (m.getD k default).fValue.fPos, .int .i64 (m.getD k default).fValue.fType, .string (m.getD k default).fValue.fSymbol, .string (m.getD k default).fValue.fName, .slice az (m.getD k default).fValue.fArgs.length cz] : List Value).toArray.all (·.oneCell') = true) := Lib.hid (by simp [Value.oneCell'])
        have HZX : Hid (([.string (l.getD k default).fSymbol, .string (l.getD k default).fName, .int .i64 (l.getD k default).fTarget.fKind, .int .i64 (l.getD k default).fTarget.fN, .int .i64 (l.getD k default).fTarget.fPos, .int .i64 (l.getD k default).fTarget.fType, .string (l.getD k default).fTarget.fSymbol, .string (l.getD k default).fTarget.fName, .slice ax (l.getD k default).fTarget.fArgs.length cx, .int .i64 (l.getD k default).fValue.fKind, .int .i64 (l.getD k default).fValue.fN, .int .i64 (l.getD k default).fValue.fPos, .int .i64 (l.getD k default).fValue.fType, .string (l.getD k default).fValue.fSymbol, .string (l.getD k default).fValue.fName, .slice au (l.getD k default).fValue.fArgs.length cu] : List Value).length = 16) := Lib.hid rfl
        have HZY : Hid (([.string (m.getD k default).fSymbol, .string (m.getD k default).fName, .int .i64 (m.getD k default).fTarget.fKind, .int .i64 (m.getD k default).fTarget.fN, .int .i64 (m.getD k default).fTarget.fPos, .int .i64 (m.getD k default).fTarget.fType, .string (m.getD k default).fTarget.fSymbol, .string (m.getD k default).fTarget.fName, .slice ay (m.getD k default).fTarget.fArgs.length cy, .int .i64 (m.getD k default).fValue.fKind, .int .i64 (m.getD k default).fValue.fN, .int .i64 (m.getD k default).fValue.fPos, .int .i64 (m.getD k default).fValue.fType, .string (m.getD k default).fValue.fSymbol, .string (m.getD k default).fValue.fName, .slice az (m.getD k default).fValue.fArgs.length cz] : List Value).length = 16) := Lib.hid rfl
        generalize ([.string (l.getD k default).fSymbol, .string (l.getD k default).fName, .int .i64 (l.getD k default).fTarget.fKind, .int .i64 (l.getD k default).fTarget.fN, .int .i64 (l.getD k default).fTarget.fPos, .int .i64 (l.getD k default).fTarget.fType, .string (l.getD k default).fTarget.fSymbol, .string (l.getD k default).fTarget.fName, .slice ax (l.getD k default).fTarget.fArgs.length cx, .int .i64 (l.getD k default).fValue.fKind, .int .i64 (l.getD k default).fValue.fN, .int .i64 (l.getD k default).fValue.fPos, .int .i64 (l.getD k default).fValue.fType, .string (l.getD k default).fValue.fSymbol, .string (l.getD k default).fValue.fName, .slice au (l.getD k default).fValue.fArgs.length cu] : List Value) = X at *
        generalize ([.string (m.getD k default).fSymbol, .string (m.getD k default).fName, .int .i64 (m.getD k default).fTarget.fKind, .int .i64 (m.getD k default).fTarget.fN, .int .i64 (m.getD k default).fTarget.fPos, .int .i64 (m.getD k default).fTarget.fType, .string (m.getD k default).fTarget.fSymbol, .string (m.getD k default).fTarget.fName, .slice ay (m.getD k default).fTarget.fArgs.length cy, .int .i64 (m.getD k default).fValue.fKind, .int .i64 (m.getD k default).fValue.fN, .int .i64 (m.getD k default).fValue.fPos, .int .i64 (m.getD k default).fValue.fType, .string (m.getD k default).fValue.fSymbol, .string (m.getD k default).fValue.fName, .slice az (m.getD k default).fValue.fArgs.length cz] : List Value) = Y at *
        generalize eqC (l.getD k default) (m.getD k default) = qq at *
        have hr2' : ∀ o, (wr.alloc o).rangeAt b2 (off2 + k * 16) Y := fun o j v hv => (((Below.refl wr.heap.size wr).alloc (Nat.le_refl _) o).cell (p := ⟨b2, off2 + k * 16 + j, none⟩) bl2).trans (hr2 j v hv)
        clear hr2
        have HBC := Lib.hid (((Below.refl wr.heap.size wr).alloc (Nat.le_refl _) (.cells X.toArray 128)).alloc (by simp) (.cells Y.toArray 128))
        have hg1 : ((wr.alloc (.cells X.toArray 128)).alloc (.cells Y.toArray 128)).heap[wr.heap.size]? = some (.cells X.toArray 128) := blk_alloc (by simp) (heap_alloc_last _ _)
        have hg2 : ((wr.alloc (.cells X.toArray 128)).alloc (.cells Y.toArray 128)).heap[wr.heap.size + 1]? = some (.cells Y.toArray 128) := blk_new (by simp)
        have HG1 := Lib.hid hg1
        have HG2 := Lib.hid hg2
        clear hg1 hg2
        go_wp2_with (first
          | (refine wpList_load_mid rfl 128 (.tmp 20) rfl b (off + k * 16) rfl X _ hr1 Tryz.underlying128 rfl HSX.out ?_)
          | (refine wpList_store_rowTo rfl 128 (.tmp 8) (.tmp 21) rfl rfl wr.heap.size X.toArray rfl rfl 128 _ (heap_alloc_last wr _) HSX.out HZX.out.symm HOX.out ?_; rw [World.setRow_alloc_new])
          | (refine wpList_load_mid rfl 128 (.tmp 24) rfl b2 (off2 + k * 16) rfl Y _ (hr2' _) Tryz.underlying128 rfl HSY.out ?_)
          | (refine wpList_store_rowTo rfl 128 (.tmp 9) (.tmp 25) rfl rfl (wr.heap.size + 1) Y.toArray rfl rfl 128 _ (blk_new (by simp)) HSY.out HZY.out.symm HOY.out ?_; rw [setRow_new (by simp)])
          | (refine wpList_load_row rfl 128 (.tmp 8) rfl wr.heap.size rfl 128 X.toArray _ _ HG1.out Tryz.underlying128 rfl HSX.out ?_)
          | (refine wpList_load_row rfl 128 (.tmp 9) rfl (wr.heap.size + 1) rfl 128 Y.toArray _ _ HG2.out Tryz.underlying128 rfl HSY.out ?_))
        refine (HC.out _ HBC.out).mono ?_
        rintro e w1 ⟨rfl, hb1⟩
        have HB1 := Lib.hid (HBC.out.trans (hb1.mono HBC.out.size))
        clear hb1 HC
        cases qq
        · have fin := Lib.hid (HNO.out rfl)
          clear HPS HNO
          go_wp2
          go_ret
          exact ⟨ret_b fin.out.symm, HBW.out.trans (HB1.out.mono HBW.out.size)⟩
        · have HP2 := Lib.hid (HPS.out rfl)
          clear HPS HNO
          go_wp2
          go_roundw
          case rel => exact ⟨k + 1, by omega, by go_num, HP2.out, HBW.out.trans (HB1.out.mono HBW.out.size)⟩
          case measure => simp [intOf]; omega
      · obtain rfl : k = l.length := by omega
        have fin := Lib.hid (allEq_yes HL.out HE.out)
        go_wp2
        go_ret
        exact ⟨ret_b fin.out.symm, HBW.out⟩
  · have fin := Lib.hid (allEq_len (f := eqC) hlen)
    have e0 : ((l.length : Int) == (m.length : Int)) = false := beq_eq_false_iff_ne.2 (by omega)
    have e00 : ((l.length : Int) != (m.length : Int)) = true := by rw [bne, e0]; rfl
    clear hs hs2 hlen
    go_enter Tryz.func72, Tryz.ntmps72
    go_wp2
    go_ret
    exact ⟨ret_b fin.out.symm, HW0.out⟩
end Go.Proofs.YtjhgifpnpkcaoaaGreat
