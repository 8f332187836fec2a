/-
  TreeHeight in the model and in the program.
-/
import Derived.Test.YtjjbnbhcfhbfdabUnion
import Derived.Test.YtjjbnbhcfhbfdabTTree
import Derived.Deep.RegionWith
namespace Go.Proofs.Ytjjbnbhcfhbfdab
open Go.ChangeShapes Go.WideShapes Go.ChangeAt Go.RowKit Go.Deep

def mxI (x y : Int) : Int := if y < x then x else y
theorem mx_max (x y : Int) : max x y = mxI x y := by unfold mxI; split <;> omega
/-- The height of node k behind its first children. -/
def hchain (g : Nat → Int) (n k : Nat) (cs : List Int) : Nat → Int
  | 0 => g k
  | j + 1 => if (k : Int) < cs.getD j default ∧ cs.getD j default < n then mxI (hchain g n k cs j) (g (cs.getD j default).toNat) else hchain g n k cs j
theorem hchain_yes {g : Nat → Int} {n k : Nat} {cs : List Int} {j c : Nat} (hc : cs.getD j default = (c : Int)) (h1 : k < c) (h2 : c < n) : hchain g n k cs (j + 1) = mxI (hchain g n k cs j) (g c) := by
  show (if (k : Int) < cs.getD j default ∧ cs.getD j default < n then mxI (hchain g n k cs j) (g (cs.getD j default).toNat) else hchain g n k cs j) = _
  rw [hc, if_pos (by omega), Int.toNat_natCast]
theorem hchain_no {g : Nat → Int} {n k : Nat} {cs : List Int} {j : Nat} (h : ¬ ((k : Int) < cs.getD j default ∧ cs.getD j default < n)) : hchain g n k cs (j + 1) = hchain g n k cs j := if_neg h
def hrow (g : Nat → Int) (n k : Nat) (cs : List Int) (j x : Nat) : Int := if x = k then hchain g n k cs j else g x
theorem hrow_here (g : Nat → Int) (n k : Nat) (cs : List Int) (j : Nat) : hrow g n k cs j k = hchain g n k cs j := if_pos rfl
theorem hrow_other {g : Nat → Int} {n k : Nat} {cs : List Int} {j x : Nat} (h : x ≠ k) : hrow g n k cs j x = g x := if_neg h
theorem hrow_zero (g : Nat → Int) (n k : Nat) (cs : List Int) (x : Nat) : hrow g n k cs 0 x = g x := by
  unfold hrow
  split
  · rename_i h; subst h; rfl
  · rfl
def hstep (l : List DNode) (g : Nat → Int) (k x : Nat) : Int := if x = k then hchain g l.length k (l.getD k default).fChildren (l.getD k default).fChildren.length + 1 else g x
theorem hstep_here (l : List DNode) (g : Nat → Int) (k : Nat) : hstep l g k k = hchain g l.length k (l.getD k default).fChildren (l.getD k default).fChildren.length + 1 := if_pos rfl
theorem hstep_other {l : List DNode} {g : Nat → Int} {k x : Nat} (h : x ≠ k) : hstep l g k x = g x := if_neg h
/-- The heights behind the last m nodes. -/
def hAll (l : List DNode) : Nat → Nat → Int
  | 0 => fun _ => 0
  | m + 1 => hstep l (hAll l m) (l.length - 1 - m)
theorem hAll_succ {l : List DNode} {m k : Nat} (h : l.length = k + 1 + m) : hAll l (m + 1) = hstep l (hAll l m) k := by
  show hstep l (hAll l m) (l.length - 1 - m) = _
  rw [show l.length - 1 - m = k by omega]
theorem hchain_in {g : Nat → Int} {B : Int} (h : ∀ x, 0 ≤ g x ∧ g x ≤ B) (n k : Nat) (cs : List Int) : ∀ j, 0 ≤ hchain g n k cs j ∧ hchain g n k cs j ≤ B
  | 0 => h k
  | j + 1 => by
    have h1 := hchain_in h n k cs j
    have h2 := h (cs.getD j default).toNat
    show 0 ≤ (if (k : Int) < cs.getD j default ∧ cs.getD j default < n then mxI (hchain g n k cs j) (g (cs.getD j default).toNat) else hchain g n k cs j) ∧ (if (k : Int) < cs.getD j default ∧ cs.getD j default < n then mxI (hchain g n k cs j) (g (cs.getD j default).toNat) else hchain g n k cs j) ≤ B
    split
    · unfold mxI
      split <;> assumption
    · exact h1
theorem hAll_in (l : List DNode) : ∀ m x, 0 ≤ hAll l m x ∧ hAll l m x ≤ (m : Int)
  | 0, _ => ⟨Int.le_refl _, Int.le_refl _⟩
  | m + 1, x => by
    show 0 ≤ hstep l (hAll l m) (l.length - 1 - m) x ∧ hstep l (hAll l m) (l.length - 1 - m) x ≤ _
    unfold hstep
    split
    · have := hchain_in (hAll_in l m) l.length (l.length - 1 - m) (l.getD (l.length - 1 - m) default).fChildren (l.getD (l.length - 1 - m) default).fChildren.length
      omega
    · have := hAll_in l m x
      omega
def treeHeight (l : List DNode) (i : Int) : Int := if 0 ≤ i ∧ i < l.length then hAll l (l.length - i.toNat) i.toNat else 0
theorem treeHeight_no {l : List DNode} {i : Int} (h : ¬ (0 ≤ i ∧ i < l.length)) : treeHeight l i = 0 := if_neg h
theorem treeHeight_at {l : List DNode} {n m : Nat} (h : n < l.length) (hm : m + n = l.length) : treeHeight l n = hAll l m n := by
  unfold treeHeight
  rw [if_pos (by omega), Int.toNat_natCast, show l.length - n = m by omega]
theorem kids_len {t : DTree} (h : t.sz ≤ 1048576) {k : Nat} (hk : k < t.fNodes.length) : (t.fNodes.getD k default).fChildren.length ≤ 1048576 := by
  have h1 := szle_at (f := DNode.sz) t.fNodes k hk
  have h2 : (t.fNodes.getD k default).fChildren.length ≤ DNode.sz (t.fNodes.getD k default) := by
    unfold DNode.sz
    rw [lsz_zero]
    omega
  unfold DTree.sz at h
  omega

set_option maxHeartbeats 1600000 in
set_option maxRecDepth 100000 in
theorem spec_l1Max (x y : Int) (w : World) : Calls Try.prog 56 #[.int .i64 x, .int .i64 y] w fun e w' => e = .returned (.int .i64 (mxI x y)) ∧ w = w' := by
  by_cases h : y < x
  · have fin := Lib.hid (show mxI x y = x from if_pos h)
    go_enter Try.func56, Try.ntmps56
    go_wp2
    go_ret
    exact ⟨ret_i fin.out.symm, rfl⟩
  · have fin := Lib.hid (show mxI x y = y from if_neg h)
    go_enter Try.func56, Try.ntmps56
    go_wp2
    go_ret
    exact ⟨ret_i fin.out.symm, rfl⟩

set_option maxHeartbeats 1600000 in
set_option maxRecDepth 100000 in
/-- The program's 'at' at an index that there is not: nil. -/
theorem impl_Tree_at_no {len c0 : Nat} {a0 : Option Addr} (_ : len ≤ 1048576) (i : Int) (h : i < 0 ∨ (len : Int) ≤ i) (w : World) :
    Calls Try.prog 73 #[.agg #[.slice a0 len c0], .int .i64 i] w fun e w' => e = .returned (.pointer none) ∧ Below w.heap.size w w' := by
  have HB := Lib.hid ((Below.refl w.heap.size w).alloc (Nat.le_refl _) (.cells #[.slice a0 len c0] 62))
  by_cases h0 : i < 0
  · clear h
    go_enter Try.func73, Try.ntmps73
    go_wp2
    go_ret
    exact ⟨rfl, HB.out⟩
  · have h1 : (len : Int) ≤ i := by omega
    clear h
    go_enter Try.func73, Try.ntmps73
    go_wp2
    go_ret
    exact ⟨rfl, HB.out⟩
set_option maxHeartbeats 1600000 in
set_option maxRecDepth 100000 in
theorem impl_Tree_at {b off len c0 : Nat} (n : Nat) (_ : len ≤ 1048576) (h : n < len) (w : World) :
    Calls Try.prog 73 #[.agg #[.slice (some ⟨b, off, none⟩) len c0], .int .i64 (n : Int)] w fun e w' => e = .returned (.pointer (some ⟨b, off + n * 6, none⟩)) ∧ Below w.heap.size w w' := by
  have HB := Lib.hid ((Below.refl w.heap.size w).alloc (Nat.le_refl _) (.cells #[.slice (some ⟨b, off, none⟩) len c0] 62))
  go_enter Try.func73, Try.ntmps73
  go_wp2
  go_ret
  exact ⟨rfl, HB.out⟩


set_option maxHeartbeats 1600000 in
set_option maxRecDepth 100000 in
theorem spec_TreeHeight {lo hi : Nat} {a0 : Option Addr} {c0_0 : Nat} (t : DTree) (_ : t.ok) (hsz : t.sz ≤ 1048576) (i : Int) (hi0 : okI i) (w : World) (hhi : hi ≤ w.heap.size) (hs : Sl lo hi w 6 t.fNodes.length (fun k => DNode.ct (t.fNodes.getD k default)) a0) :
    Calls Try.prog 44 #[.agg #[.slice a0 t.fNodes.length c0_0], .int .i64 i] w fun e w' => e = .returned (.int .i64 (treeHeight t.fNodes i)) ∧ Below w.heap.size w w' := by
  have hn : t.fNodes.length ≤ 1048576 := by unfold DTree.sz lsz at hsz; omega
  have HKID := Lib.hid (fun k hk => kids_len hsz (k := k) hk)
  clear hsz
  have HB := Lib.hid ((Below.refl w.heap.size w).alloc (Nat.le_refl _) (.cells #[.slice a0 t.fNodes.length c0_0] 62))
  have HBS := Lib.hid (show w.heap.size < (w.alloc (.cells #[.slice a0 t.fNodes.length c0_0] 62)).heap.size by simp)
  have HC := Lib.hid (show (w.alloc (.cells #[.slice a0 t.fNodes.length c0_0] 62)).cell? ⟨w.heap.size, 0, none⟩ = some (.slice a0 t.fNodes.length c0_0) by rw [World.cell?_alloc_new]; rfl)
  have HS := Lib.hid hs
  have HH := Lib.hid hhi
  clear hs hhi
  have hi1 : -9223372036854775808 ≤ i ∧ i ≤ 9223372036854775807 := hi0
  clear hi0
  generalize t.fNodes = l at *
  by_cases hr : 0 ≤ i ∧ i < l.length
  · obtain ⟨n, rfl⟩ : ∃ n : Nat, i = n := ⟨i.toNat, by omega⟩
    have hnl : n < l.length := by omega
    obtain ⟨b, off, rfl, _, hbhi, _⟩ := HS.out.at n hnl
    have HBW := Lib.hid (Nat.lt_of_lt_of_le hbhi HH.out)
    obtain ⟨i0, hi', hz0, hz1, hz2⟩ := info_parts info_Int
    clear hr hi1 hbhi
    have HIN := Lib.hid (fun w => (spec_l1In (n : Int) 0 ((l.length : Int) - 1) w))
    rw [show inR (n : Int) 0 ((l.length : Int) - 1) = true by unfold inR; simp; omega] at HIN
    have HBQ := HB
    have HBSQ := HBS
    have hc1 := HC.out
    go_enter Try.func44, Try.ntmps44
    go_wp2_with fail
    refine (HIN.out _).mono ?_
    rintro e w' ⟨rfl, rfl⟩
    obtain ⟨wa, hwa⟩ : ∃ wa : World, wa = w.alloc (.cells #[.slice (some ⟨b, off, none⟩) l.length c0_0] 62) := ⟨_, rfl⟩
    rw [← hwa] at hc1 HBQ HBSQ ⊢
    clear hwa HB HBS HC HIN
    go_wp2_with (at_make; refine wpList_make_full _ rfl (.tmp 18) (.tmp 18) 35 rfl wa.heap.size 3 i0 (.int .i64 0) 1 Try.underlying35 hi' hz0 hz1 .i64 .i64 (l.length : Int) (l.length : Int) l.length rfl rfl rfl rfl (by rw [hz2]; omega) (by unfold maxLen; omega) (Nat.le_refl _) ?_; intro wm hown hgrow; have hb1 : Below wa.heap.size wa wm := (Below.refl _ _).grown hgrow (Nat.le_refl _) (fun k hk => by cases hk); have hmo := made_own hown; have hxm := (hb1.cell (p := ⟨w.heap.size, 0, none⟩) HBSQ.out).trans hc1; have HBM := Lib.hid (HBQ.out.trans (hb1.mono HBQ.out.size)); have HSM := Lib.hid (Nat.lt_of_lt_of_le HBSQ.out hb1.size); generalize (⟨wa.heap.size, 0, none⟩ : Addr) = pm at hmo ⊢; have HO := Lib.hid (show Own wm (fun y => w.heap.size + 1 ≤ y ∧ y < wm.heap.size) (.sl 1 l.length (fun jj => ictI (hAll l 0 jj))) (.slice (some pm) l.length l.length) from (hmo.sub (F' := (fun y => w.heap.size + 1 ≤ y ∧ y < wm.heap.size)) (fun y hy => ⟨Nat.le_trans HBSQ.out hy.1, hy.2⟩)).congr (fun j hj q _ => by show ictI _ q = ictI _ q; rw [rep_get hj]; rfl)); clear hown hgrow hmo hc1 hb1)
    go_loopw [6] (fun q wr => ∃ m : Nat, m + n ≤ l.length ∧ q = .int .i64 ((l.length : Int) - 1 - m) ∧ Own wr (fun y => w.heap.size + 1 ≤ y ∧ y < wm.heap.size) (.sl 1 l.length (fun jj => ictI (hAll l m jj))) (.slice (some pm) l.length l.length) ∧ WritesF (fun y => w.heap.size + 1 ≤ y ∧ y < wm.heap.size) wm wr) (fun q _ => (intOf q + 1 - n).toNat)
    case atStart => exact ⟨0, by omega, by go_num, HO.out, WritesF.refl _ _⟩
    case round =>
      obtain ⟨m, hm, hq, hown, hwr⟩ := hrel
      obtain ⟨wo, rfl⟩ : ∃ wo : World, wo = wr := ⟨_, rfl⟩
      have HWO := Lib.hid hwr
      have HOO := Lib.hid hown
      have hxo : wo.cell? ⟨w.heap.size, 0, none⟩ = some (.slice (some ⟨b, off, none⟩) l.length c0_0) := (hwr.cell (p := ⟨w.heap.size, 0, none⟩) HSM.out (by intro h; have h1 := h.1; dsimp only at h1; omega)).trans hxm
      have HBO := Lib.hid (HBM.out.trans (hwr.below (fun y hy => by have h1 := hy.1; omega) HBM.out.size))
      clear hwr hown
      by_cases hlt : m + n < l.length
      · obtain ⟨kn, hkn⟩ : ∃ kn : Nat, l.length = kn + 1 + m := ⟨l.length - 1 - m, by omega⟩
        obtain rfl := hq.trans (show Value.int .i64 ((l.length : Int) - 1 - m) = .int .i64 (kn : Int) by rw [show (l.length : Int) - 1 - m = kn by omega])
        have hkl : kn < l.length := by omega
        have hnk : n ≤ kn := by omega
        obtain ⟨b', off', hbo, _, _, hcn⟩ := HS.out.at kn hkl
        simp only [Option.some.injEq, Addr.mk.injEq, and_true] at hbo
        obtain ⟨rfl, rfl⟩ := hbo
        obtain ⟨a5, c5, _, _, _, _, _, hc5, hs5⟩ := DNode.open hcn
        have HC5 := Lib.hid hc5
        have HS5 := Lib.hid hs5
        have HNEXT := Lib.hid (hAll_succ hkn)
        have hkid := HKID.out kn hkl
        have hin := hAll_in l m
        have HST := Lib.hid (hstep_here l (hAll l m) kn)
        have HSO := Lib.hid (fun x hx => hstep_other (l := l) (g := hAll l m) (k := kn) (x := x) hx)
        have HGIN := Lib.hid (fun j => hchain_in hin l.length kn (l.getD kn default).fChildren j)
        have HKN := Lib.hid hkn
        clear hcn hc5 hs5 hq hin hkn
        generalize (l.getD kn default).fChildren = cs at *
        have HO0 := Lib.hid (show Own wo (fun y => w.heap.size + 1 ≤ y ∧ y < wm.heap.size) (.sl 1 l.length (fun jj => ictI (hrow (hAll l m) l.length kn cs 0 jj))) (.slice (some pm) l.length l.length) from HOO.out.congr (fun j hj q _ => by show ictI _ q = ictI _ q; rw [hrow_zero]))
        have hc5o : wo.cell? ⟨b, off + kn * 6 + 5, none⟩ = some (.slice a5 cs.length c5) := (HBO.out.cell (p := ⟨b, off + kn * 6 + 5, none⟩) HBW.out).trans HC5.out
        go_wp2
        clear hc5o hxo
        go_loopw [7] (fun q wr => ∃ j : Nat, j ≤ cs.length ∧ q = .int .i64 (j : Int) ∧ Own wr (fun y => w.heap.size + 1 ≤ y ∧ y < wm.heap.size) (.sl 1 l.length (fun jj => ictI (hrow (hAll l m) l.length kn cs j jj))) (.slice (some pm) l.length l.length) ∧ WritesF (fun y => w.heap.size + 1 ≤ y ∧ y < wm.heap.size) wm wr) (fun q _ => cs.length - (intOf q).toNat)
        case atStart => exact ⟨0, Nat.zero_le _, rfl, HO0.out, HWO.out⟩
        case round =>
          obtain ⟨j, hj, rfl, hown, hwr⟩ := hrel
          have HWR := Lib.hid hwr
          have HOR := Lib.hid hown
          have hxr : wr.cell? ⟨w.heap.size, 0, none⟩ = some (.slice (some ⟨b, off, none⟩) l.length c0_0) := (hwr.cell (p := ⟨w.heap.size, 0, none⟩) HSM.out (by intro h; have h1 := h.1; dsimp only at h1; omega)).trans hxm
          have hbr := HBM.out.trans (hwr.below (fun y hy => by have h1 := hy.1; omega) HBM.out.size)
          have hc5r : wr.cell? ⟨b, off + kn * 6 + 5, none⟩ = some (.slice a5 cs.length c5) := (hbr.cell (p := ⟨b, off + kn * 6 + 5, none⟩) HBW.out).trans HC5.out
          have HBR := Lib.hid hbr
          clear hwr hown hbr
          obtain ⟨bb, ob, hpm, hFb, hbl, hcs, hzs⟩ := ownf_at HOR.out (by omega)
          obtain rfl : pm = ⟨bb, ob, none⟩ := by simpa using hpm
          have hFb1 : w.heap.size + 1 ≤ bb := hFb.1
          have hFb2 : bb < wm.heap.size := hFb.2
          clear hpm hFb
          by_cases hltj : j < cs.length
          · obtain ⟨b2, off2, rfl, _, hb2, hcc⟩ := HS5.out.at j hltj
            rw [Nat.mul_one] at hcc
            have hcj := (HBR.out.cell (p := ⟨b2, off2 + j, none⟩) (Nat.lt_of_lt_of_le hb2 HH.out)).trans (open_Int hcc)
            clear hcc
            by_cases hin : (kn : Int) < cs.getD j default ∧ cs.getD j default < (l.length : Int)
            · obtain ⟨c, hc⟩ : ∃ c : Nat, cs.getD j default = (c : Int) := ⟨(cs.getD j default).toNat, by omega⟩
              rw [hc] at hin hcj
              have hcl : c < l.length := by omega
              have hkc : kn < c := by omega
              have HY := Lib.hid (hchain_yes (g := hAll l m) hc hkc hcl)
              have hrowk := (hcs kn hkl).trans (congrArg (fun z => some (Value.int .i64 z)) (hrow_here (hAll l m) l.length kn cs j))
              have hrowc := (hcs c hcl).trans (congrArg (fun z => some (Value.int .i64 z)) (hrow_other (g := hAll l m) (n := l.length) (cs := cs) (j := j) (show c ≠ kn by omega)))
              have hrz := hzs (ob + kn)
              have HIN := Lib.hid (fun w => spec_l1In (c : Int) ((kn : Int) + 1) ((l.length : Int) - 1) w)
              rw [show inR (c : Int) ((kn : Int) + 1) ((l.length : Int) - 1) = true by unfold inR; simp; omega] at HIN
              clear hcs hzs hc hin
              generalize hA : hchain (hAll l m) l.length kn cs j = A at *
              generalize hC : hAll l m c = C at *
              clear hA hC
              have HM := Lib.hid (fun w => spec_l1Max A C w)
              go_wp2_with fail
              refine (HIN.out _).mono ?_
              rintro e w' ⟨rfl, rfl⟩
              go_wp2_with fail
              go_region_with (go_at_call 56; refine (HM.out _).mono ?_; rintro e w' ⟨rfl, rfl⟩)
              all_goals
                go_wp2
                go_roundw
                case rel =>
                  refine ⟨j + 1, by omega, by go_num, ?_, ?_⟩
                  · refine Own.kept (ownf_set HOR.out kn hkl (mxI A C) (g' := hrow (hAll l m) l.length kn cs (j + 1)) (by rw [hrow_here, HY.out]) (fun x _ hx => by rw [hrow_other hx, hrow_other hx])) ?_
                    repeat (first | (with_reducible exact Kept.refl) | (with_reducible apply Kept.drew) | (with_reducible apply Kept.drewN))
                  · repeat (first | (with_reducible exact HWR.out) | (with_reducible apply WritesF.drew) | (with_reducible refine WritesF.drewN ?_ _) | (refine WritesF.setCell ?_ (by exact ⟨hFb1, hFb2⟩)))
                case measure => simp [intOf]; omega
            · have HY := Lib.hid (hchain_no (g := hAll l m) hin)
              clear hcs hzs
              generalize cs.getD j default = c at *
              have HIN := Lib.hid (fun w => spec_l1In c ((kn : Int) + 1) ((l.length : Int) - 1) w)
              rw [show inR c ((kn : Int) + 1) ((l.length : Int) - 1) = false by unfold inR; simp; omega] at HIN
              go_wp2_with fail
              refine (HIN.out _).mono ?_
              rintro e w' ⟨rfl, rfl⟩
              go_wp2
              go_roundw
              case rel =>
                refine ⟨j + 1, by omega, by go_num, ?_, HWR.out⟩
                refine HOR.out.congr (fun x hx q _ => ?_)
                show ictI (hrow (hAll l m) l.length kn cs j x) q = ictI (hrow (hAll l m) l.length kn cs (j + 1) x) q
                unfold hrow
                rw [HY.out]
              case measure => simp [intOf]; omega
          · obtain rfl : j = cs.length := by omega
            have hrowk := (hcs kn hkl).trans (congrArg (fun z => some (Value.int .i64 z)) (hrow_here (hAll l m) l.length kn cs cs.length))
            have hrz := hzs (ob + kn)
            have hg := HGIN.out cs.length
            clear hcs hzs
            generalize hA : hchain (hAll l m) l.length kn cs cs.length = A at *
            have HA := Lib.hid hA
            clear hA
            go_wp2
            go_roundw
            case rel =>
              refine ⟨m + 1, by omega, by have h := HKN.out; go_num, ?_, ?_⟩
              · rw [HNEXT.out]
                refine ownf_set HOR.out kn hkl (A + 1) (g' := hstep l (hAll l m) kn) (by rw [HST.out]) (fun x _ hx => by rw [hrow_other hx, HSO.out x hx])
              · exact HWR.out.setCell ⟨hFb1, hFb2⟩
            case measure => simp [intOf]; omega
      · have hml : m + n = l.length := by omega
        have fin := Lib.hid (treeHeight_at hnl hml)
        obtain rfl := hq.trans (show Value.int .i64 ((l.length : Int) - 1 - m) = .int .i64 ((n : Int) - 1) by rw [show (l.length : Int) - 1 - m = (n : Int) - 1 by omega])
        obtain ⟨bb, ob, hpm, _, _, hcs, _⟩ := ownf_at HOO.out (by omega)
        obtain rfl : pm = ⟨bb, ob, none⟩ := by simpa using hpm
        have hres := hcs n hnl
        clear hcs hpm hq
        generalize hAll l m n = A at *
        go_wp2
        go_ret
        exact ⟨ret_i fin.out.symm, HBO.out⟩
  · have HIN := Lib.hid (fun w => (spec_l1In i 0 ((l.length : Int) - 1) w))
    rw [show inR i 0 ((l.length : Int) - 1) = false by unfold inR; simp; omega] at HIN
    have fin := Lib.hid (treeHeight_no hr)
    clear hr
    go_enter Try.func44, Try.ntmps44
    go_wp2_with fail
    refine (HIN.out _).mono ?_
    rintro e w' ⟨rfl, rfl⟩
    go_wp2
    go_ret
    exact ⟨ret_i fin.out.symm, HB.out⟩

set_option maxHeartbeats 1600000 in
set_option maxRecDepth 100000 in
theorem impl_TreeHeight {lo hi : Nat} {a0 : Option Addr} {c0_0 : Nat} (t : DTree) (_ : t.ok) (hsz : t.sz ≤ 1048576) (i : Int) (hi0 : okI i) (w : World) (hhi : hi ≤ w.heap.size) (hs : Sl lo hi w 6 t.fNodes.length (fun k => DNode.ct (t.fNodes.getD k default)) a0) :
    Calls Try.prog 46 #[.agg #[.slice a0 t.fNodes.length c0_0], .int .i64 i] w fun e w' => e = .returned (.int .i64 (treeHeight t.fNodes i)) ∧ Below w.heap.size w w' := by
  have hn : t.fNodes.length ≤ 1048576 := by unfold DTree.sz lsz at hsz; omega
  have HKID := Lib.hid (fun k hk => kids_len hsz (k := k) hk)
  clear hsz
  have HB := Lib.hid ((Below.refl w.heap.size w).alloc (Nat.le_refl _) (.cells #[.slice a0 t.fNodes.length c0_0] 62))
  have HBS := Lib.hid (show w.heap.size < (w.alloc (.cells #[.slice a0 t.fNodes.length c0_0] 62)).heap.size by simp)
  have HC := Lib.hid (show (w.alloc (.cells #[.slice a0 t.fNodes.length c0_0] 62)).cell? ⟨w.heap.size, 0, none⟩ = some (.slice a0 t.fNodes.length c0_0) by rw [World.cell?_alloc_new]; rfl)
  have HS := Lib.hid hs
  have HH := Lib.hid hhi
  clear hs hhi
  have hi1 : -9223372036854775808 ≤ i ∧ i ≤ 9223372036854775807 := hi0
  clear hi0
  generalize t.fNodes = l at *
  by_cases hr : 0 ≤ i ∧ i < l.length
  · obtain ⟨n, rfl⟩ : ∃ n : Nat, i = n := ⟨i.toNat, by omega⟩
    have hnl : n < l.length := by omega
    obtain ⟨b, off, rfl, _, hbhi, _⟩ := HS.out.at n hnl
    have HBW := Lib.hid (Nat.lt_of_lt_of_le hbhi HH.out)
    obtain ⟨i0, hi', hz0, hz1, hz2⟩ := info_parts info_Int
    clear hr hi1 hbhi
    have HIN := Lib.hid (fun w => impl_Tree_at (b := b) (off := off) (len := l.length) (c0 := c0_0) n hn hnl w)
    go_enter Try.func46, Try.ntmps46
    go_wp2_with fail
    refine (HIN.out _).mono ?_
    rintro e wa ⟨rfl, hb1⟩
    have hc1 := (hb1.cell (p := ⟨w.heap.size, 0, none⟩) HBS.out).trans HC.out
    have HBQ := Lib.hid (HB.out.trans (hb1.mono HB.out.size))
    have HBSQ := Lib.hid (Nat.lt_of_lt_of_le HBS.out hb1.size)
    clear hb1 HIN HB HBS HC
    go_wp2_with (at_make; refine wpList_make_full _ rfl (.tmp 15) (.tmp 15) 35 rfl wa.heap.size 3 i0 (.int .i64 0) 1 Try.underlying35 hi' hz0 hz1 .i64 .i64 (l.length : Int) (l.length : Int) l.length rfl rfl rfl rfl (by rw [hz2]; omega) (by unfold maxLen; omega) (Nat.le_refl _) ?_; intro wm hown hgrow; have hb1 : Below wa.heap.size wa wm := (Below.refl _ _).grown hgrow (Nat.le_refl _) (fun k hk => by cases hk); have hmo := made_own hown; have hxm := (hb1.cell (p := ⟨w.heap.size, 0, none⟩) HBSQ.out).trans hc1; have HBM := Lib.hid (HBQ.out.trans (hb1.mono HBQ.out.size)); have HSM := Lib.hid (Nat.lt_of_lt_of_le HBSQ.out hb1.size); generalize (⟨wa.heap.size, 0, none⟩ : Addr) = pm at hmo ⊢; have HO := Lib.hid (show Own wm (fun y => w.heap.size + 1 ≤ y ∧ y < wm.heap.size) (.sl 1 l.length (fun jj => ictI (hAll l 0 jj))) (.slice (some pm) l.length l.length) from (hmo.sub (F' := (fun y => w.heap.size + 1 ≤ y ∧ y < wm.heap.size)) (fun y hy => ⟨Nat.le_trans HBSQ.out hy.1, hy.2⟩)).congr (fun j hj q _ => by show ictI _ q = ictI _ q; rw [rep_get hj]; rfl)); clear hown hgrow hmo hc1 hb1)
    go_loopw [6] (fun q wr => ∃ m : Nat, m + n ≤ l.length ∧ q = .int .i64 ((l.length : Int) - 1 - m) ∧ Own wr (fun y => w.heap.size + 1 ≤ y ∧ y < wm.heap.size) (.sl 1 l.length (fun jj => ictI (hAll l m jj))) (.slice (some pm) l.length l.length) ∧ WritesF (fun y => w.heap.size + 1 ≤ y ∧ y < wm.heap.size) wm wr) (fun q _ => (intOf q + 1 - n).toNat)
    case atStart => exact ⟨0, by omega, by go_num, HO.out, WritesF.refl _ _⟩
    case round =>
      obtain ⟨m, hm, hq, hown, hwr⟩ := hrel
      obtain ⟨wo, rfl⟩ : ∃ wo : World, wo = wr := ⟨_, rfl⟩
      have HWO := Lib.hid hwr
      have HOO := Lib.hid hown
      have hxo : wo.cell? ⟨w.heap.size, 0, none⟩ = some (.slice (some ⟨b, off, none⟩) l.length c0_0) := (hwr.cell (p := ⟨w.heap.size, 0, none⟩) HSM.out (by intro h; have h1 := h.1; dsimp only at h1; omega)).trans hxm
      have HBO := Lib.hid (HBM.out.trans (hwr.below (fun y hy => by have h1 := hy.1; omega) HBM.out.size))
      clear hwr hown
      by_cases hlt : m + n < l.length
      · obtain ⟨kn, hkn⟩ : ∃ kn : Nat, l.length = kn + 1 + m := ⟨l.length - 1 - m, by omega⟩
        obtain rfl := hq.trans (show Value.int .i64 ((l.length : Int) - 1 - m) = .int .i64 (kn : Int) by rw [show (l.length : Int) - 1 - m = kn by omega])
        have hkl : kn < l.length := by omega
        have hnk : n ≤ kn := by omega
        obtain ⟨b', off', hbo, _, _, hcn⟩ := HS.out.at kn hkl
        simp only [Option.some.injEq, Addr.mk.injEq, and_true] at hbo
        obtain ⟨rfl, rfl⟩ := hbo
        obtain ⟨a5, c5, _, _, _, _, _, hc5, hs5⟩ := DNode.open hcn
        have HC5 := Lib.hid hc5
        have HS5 := Lib.hid hs5
        have HNEXT := Lib.hid (hAll_succ hkn)
        have hkid := HKID.out kn hkl
        have hin := hAll_in l m
        have HST := Lib.hid (hstep_here l (hAll l m) kn)
        have HSO := Lib.hid (fun x hx => hstep_other (l := l) (g := hAll l m) (k := kn) (x := x) hx)
        have HGIN := Lib.hid (fun j => hchain_in hin l.length kn (l.getD kn default).fChildren j)
        have HKN := Lib.hid hkn
        clear hcn hc5 hs5 hq hin hkn
        generalize (l.getD kn default).fChildren = cs at *
        have HO0 := Lib.hid (show Own wo (fun y => w.heap.size + 1 ≤ y ∧ y < wm.heap.size) (.sl 1 l.length (fun jj => ictI (hrow (hAll l m) l.length kn cs 0 jj))) (.slice (some pm) l.length l.length) from HOO.out.congr (fun j hj q _ => by show ictI _ q = ictI _ q; rw [hrow_zero]))
        have hc5o : wo.cell? ⟨b, off + kn * 6 + 5, none⟩ = some (.slice a5 cs.length c5) := (HBO.out.cell (p := ⟨b, off + kn * 6 + 5, none⟩) HBW.out).trans HC5.out
        go_wp2
        clear hc5o hxo
        go_loopw [33] (fun q wr => ∃ j : Nat, j ≤ cs.length ∧ q = .int .i64 (j : Int) ∧ Own wr (fun y => w.heap.size + 1 ≤ y ∧ y < wm.heap.size) (.sl 1 l.length (fun jj => ictI (hrow (hAll l m) l.length kn cs j jj))) (.slice (some pm) l.length l.length) ∧ WritesF (fun y => w.heap.size + 1 ≤ y ∧ y < wm.heap.size) wm wr) (fun q _ => cs.length - (intOf q).toNat)
        case atStart => exact ⟨0, Nat.zero_le _, rfl, HO0.out, HWO.out⟩
        case round =>
          obtain ⟨j, hj, rfl, hown, hwr⟩ := hrel
          have HWR := Lib.hid hwr
          have HOR := Lib.hid hown
          have hxr : wr.cell? ⟨w.heap.size, 0, none⟩ = some (.slice (some ⟨b, off, none⟩) l.length c0_0) := (hwr.cell (p := ⟨w.heap.size, 0, none⟩) HSM.out (by intro h; have h1 := h.1; dsimp only at h1; omega)).trans hxm
          have hbr := HBM.out.trans (hwr.below (fun y hy => by have h1 := hy.1; omega) HBM.out.size)
          have hc5r : wr.cell? ⟨b, off + kn * 6 + 5, none⟩ = some (.slice a5 cs.length c5) := (hbr.cell (p := ⟨b, off + kn * 6 + 5, none⟩) HBW.out).trans HC5.out
          have HBR := Lib.hid hbr
          clear hwr hown hbr
          obtain ⟨bb, ob, hpm, hFb, hbl, hcs, hzs⟩ := ownf_at HOR.out (by omega)
          obtain rfl : pm = ⟨bb, ob, none⟩ := by simpa using hpm
          have hFb1 : w.heap.size + 1 ≤ bb := hFb.1
          have hFb2 : bb < wm.heap.size := hFb.2
          clear hpm hFb
          by_cases hltj : j < cs.length
          · obtain ⟨b2, off2, rfl, _, hb2, hcc⟩ := HS5.out.at j hltj
            rw [Nat.mul_one] at hcc
            have hcj := (HBR.out.cell (p := ⟨b2, off2 + j, none⟩) (Nat.lt_of_lt_of_le hb2 HH.out)).trans (open_Int hcc)
            clear hcc
            by_cases hin : (kn : Int) < cs.getD j default ∧ cs.getD j default < (l.length : Int)
            · obtain ⟨c, hc⟩ : ∃ c : Nat, cs.getD j default = (c : Int) := ⟨(cs.getD j default).toNat, by omega⟩
              rw [hc] at hin hcj
              have hcl : c < l.length := by omega
              have hkc : kn < c := by omega
              have HY := Lib.hid (hchain_yes (g := hAll l m) hc hkc hcl)
              have hrowk := (hcs kn hkl).trans (congrArg (fun z => some (Value.int .i64 z)) (hrow_here (hAll l m) l.length kn cs j))
              have hrowc := (hcs c hcl).trans (congrArg (fun z => some (Value.int .i64 z)) (hrow_other (g := hAll l m) (n := l.length) (cs := cs) (j := j) (show c ≠ kn by omega)))
              have hrz := hzs (ob + kn)
              
              clear hcs hzs hc hin
              generalize hA : hchain (hAll l m) l.length kn cs j = A at *
              generalize hC : hAll l m c = C at *
              clear hA hC
              have HM := Lib.hid (fun w => spec_l1Max A C w)
              go_wp2_with fail
              go_region
              all_goals
                go_wp2
                go_roundw
                case rel =>
                  refine ⟨j + 1, by omega, by go_num, ?_, ?_⟩
                  · refine Own.kept (ownf_set HOR.out kn hkl (max A C) (g' := hrow (hAll l m) l.length kn cs (j + 1)) (by rw [hrow_here, HY.out]; exact mx_max A C) (fun x _ hx => by rw [hrow_other hx, hrow_other hx])) ?_
                    repeat (first | (with_reducible exact Kept.refl) | (with_reducible apply Kept.drew) | (with_reducible apply Kept.drewN))
                  · repeat (first | (with_reducible exact HWR.out) | (with_reducible apply WritesF.drew) | (with_reducible refine WritesF.drewN ?_ _) | (refine WritesF.setCell ?_ (by exact ⟨hFb1, hFb2⟩)))
                case measure => simp [intOf]; omega
            · have HY := Lib.hid (hchain_no (g := hAll l m) hin)
              clear hcs hzs
              generalize cs.getD j default = c at *
              by_cases h1 : (kn : Int) < c
              · have h2 : (l.length : Int) ≤ c := by omega
                clear hin
                go_wp2
                go_roundw
                case rel =>
                  refine ⟨j + 1, by omega, by go_num, ?_, HWR.out⟩
                  refine HOR.out.congr (fun x hx q _ => ?_)
                  show ictI (hrow (hAll l m) l.length kn cs j x) q = ictI (hrow (hAll l m) l.length kn cs (j + 1) x) q
                  unfold hrow
                  rw [HY.out]
                case measure => simp [intOf]; omega
              · have h2 : c ≤ (kn : Int) := by omega
                clear hin h1
                go_wp2
                go_roundw
                case rel =>
                  refine ⟨j + 1, by omega, by go_num, ?_, HWR.out⟩
                  refine HOR.out.congr (fun x hx q _ => ?_)
                  show ictI (hrow (hAll l m) l.length kn cs j x) q = ictI (hrow (hAll l m) l.length kn cs (j + 1) x) q
                  unfold hrow
                  rw [HY.out]
                case measure => simp [intOf]; omega
          · obtain rfl : j = cs.length := by omega
            have hrowk := (hcs kn hkl).trans (congrArg (fun z => some (Value.int .i64 z)) (hrow_here (hAll l m) l.length kn cs cs.length))
            have hrz := hzs (ob + kn)
            have hg := HGIN.out cs.length
            clear hcs hzs
            generalize hA : hchain (hAll l m) l.length kn cs cs.length = A at *
            have HA := Lib.hid hA
            clear hA
            go_wp2
            go_roundw
            case rel =>
              refine ⟨m + 1, by omega, by have h := HKN.out; go_num, ?_, ?_⟩
              · rw [HNEXT.out]
                refine ownf_set HOR.out kn hkl (A + 1) (g' := hstep l (hAll l m) kn) (by rw [HST.out]) (fun x _ hx => by rw [hrow_other hx, HSO.out x hx])
              · exact HWR.out.setCell ⟨hFb1, hFb2⟩
            case measure => simp [intOf]; omega
      · have hml : m + n = l.length := by omega
        have fin := Lib.hid (treeHeight_at hnl hml)
        obtain rfl := hq.trans (show Value.int .i64 ((l.length : Int) - 1 - m) = .int .i64 ((n : Int) - 1) by rw [show (l.length : Int) - 1 - m = (n : Int) - 1 by omega])
        obtain ⟨bb, ob, hpm, _, _, hcs, _⟩ := ownf_at HOO.out (by omega)
        obtain rfl : pm = ⟨bb, ob, none⟩ := by simpa using hpm
        have hres := hcs n hnl
        clear hcs hpm hq
        generalize hAll l m n = A at *
        go_wp2
        go_ret
        exact ⟨ret_i fin.out.symm, HBO.out⟩
  · have HIN := Lib.hid (fun w => impl_Tree_at_no (a0 := a0) (c0 := c0_0) hn i (by omega) w)
    have fin := Lib.hid (treeHeight_no hr)
    clear hr
    go_enter Try.func46, Try.ntmps46
    go_wp2_with fail
    refine (HIN.out _).mono ?_
    rintro e w1 ⟨rfl, hb1⟩
    have HB1 := Lib.hid (HB.out.trans (hb1.mono HB.out.size))
    clear hb1
    go_wp2
    go_ret
    exact ⟨ret_i fin.out.symm, HB1.out⟩
end Go.Proofs.Ytjjbnbhcfhbfdab
