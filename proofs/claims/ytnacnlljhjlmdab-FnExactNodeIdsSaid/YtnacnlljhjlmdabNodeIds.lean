/-
  NodeIds, in the model and in the program.
-/
import Derived.Test.YtnacnlljhjlmdabTAt
import Derived.Test.YtnacnlljhjlmdabGrow
import Derived.Test.YtnacnlljhjlmdabInR
namespace Go.Proofs.Ytnacnlljhjlmdab
open Go.ChangeShapes Go.WideShapes Go.ChangeAt Go.RowKit Go.Deep

def vI (z : Int) : List Value := [.int .i64 z]
theorem vI_len (z : Int) : (vI z).length = 1 := rfl
theorem vI_ct (z : Int) (c : Nat) (h : c < 1) : ictI z c = .lit ((vI z).getD c .nilFunc) := match c, h with | 0, _ => rfl
/-- The Id of the node at c, if there is one. -/
def idAt (l : List DNode) (c : Int) : List Int := if 0 ≤ c ∧ c < l.length then [(l.getD c.toNat default).fId] else []
def idsF (l : List DNode) (cs : List Int) : List Int := cs.flatMap (idAt l)
theorem idAt_yes {l : List DNode} {z : Nat} (h : z < l.length) : idAt l z = [(l.getD z default).fId] := by unfold idAt; rw [if_pos (by omega), Int.toNat_natCast]
theorem idAt_no {l : List DNode} {c : Int} (h : ¬ (0 ≤ c ∧ c < l.length)) : idAt l c = [] := if_neg h
theorem idsF_snoc (l : List DNode) (cs : List Int) (c : Int) : idsF l (cs ++ [c]) = idsF l cs ++ idAt l c := by unfold idsF; rw [List.flatMap_append, List.flatMap_cons, List.flatMap_nil, List.append_nil]
theorem idsF_len (l : List DNode) : ∀ cs : List Int, (idsF l cs).length ≤ cs.length
  | [] => Nat.le_refl _
  | c :: cs => by
    have h := idsF_len l cs
    unfold idsF at *
    rw [List.flatMap_cons, List.length_append, List.length_cons]
    have : (idAt l c).length ≤ 1 := by unfold idAt; split <;> simp
    omega
/-- The Ids of node i and of its children. -/
def nodeIds (l : List DNode) (i : Int) : List Int := if 0 ≤ i ∧ i < l.length then (l.getD i.toNat default).fId :: idsF l (l.getD i.toNat default).fChildren else []
theorem nodeIds_no {l : List DNode} {i : Int} (h : ¬ (0 ≤ i ∧ i < l.length)) : nodeIds l i = [] := if_neg h
theorem nodeIds_at {l : List DNode} {n : Nat} (h : n < l.length) : nodeIds l n = (l.getD n default).fId :: idsF l (l.getD n default).fChildren := by unfold nodeIds; rw [if_pos (by omega), Int.toNat_natCast]
theorem nodeIds_len {l : List DNode} (h : lsz DNode.sz l ≤ 1048576) (i : Int) : (nodeIds l i).length ≤ 1048577 := by
  unfold nodeIds
  split
  · rename_i hi
    have h1 := idsF_len l (l.getD i.toNat default).fChildren
    have h2 := nodekids_len h (k := i.toNat) (by omega)
    rw [List.length_cons]
    omega
  · simp
theorem nodeIds_len2 {t : DTree} (h : t.sz ≤ 1048576) (i : Int) : (nodeIds t.fNodes i).length ≤ 1048576 := by
  have h0 : lsz DNode.sz t.fNodes ≤ 1048576 := h
  unfold nodeIds
  split
  · rename_i hi
    have h1 := idsF_len t.fNodes (t.fNodes.getD i.toNat default).fChildren
    have hk : i.toNat < t.fNodes.length := by omega
    have h2 := psz_succ DNode.sz t.fNodes i.toNat hk
    have h3 := psz_le DNode.sz t.fNodes (i.toNat + 1)
    have h4 : (t.fNodes.getD i.toNat default).fChildren.length ≤ DNode.sz (t.fNodes.getD i.toNat default) := by
      unfold DNode.sz
      rw [lsz_zero]
      omega
    rw [List.length_cons]
    omega
  · simp
theorem nodeIds_sz {t : DTree} (h : t.sz ≤ 1048576) (i : Int) : lsz (fun _ => 0) (nodeIds t.fNodes i) ≤ 1048576 := by rw [lsz_zero]; exact nodeIds_len2 h i
theorem ids_step {l : List DNode} {cs : List Int} {j : Nat} (hj : j < cs.length) (a : Int) : (a :: idsF l (cs.take (j + 1))) = (a :: idsF l (cs.take j)) ++ idAt l (cs.getD j default) := by
  rw [take_snoc hj, idsF_snoc]; rfl

set_option maxHeartbeats 3200000 in
set_option maxRecDepth 100000 in
theorem spec_NodeIds {lo hi : Nat} {a0 : Option Addr} {c0_0 : Nat} (t : DTree) (_ : t.ok) (hsz : t.sz ≤ 1048576) (i : Int) (hi0 : okI i) (w : World) (hhi : hi ≤ w.heap.size) (hs : Sl lo hi w 6 t.fNodes.length (fun k => DNode.ct (t.fNodes.getD k default)) a0) :
    Calls Try.prog 20 #[.agg #[.slice a0 t.fNodes.length c0_0], .int .i64 i] w fun e w' => ∃ a c, e = .returned (.slice a (nodeIds t.fNodes i).length c) ∧ Own w' (fun y => w.heap.size ≤ y ∧ y < w'.heap.size) (.sl 1 (nodeIds t.fNodes i).length (fun k => ictI ((nodeIds t.fNodes i).getD k default))) (.slice a (nodeIds t.fNodes i).length c) ∧ Below w.heap.size w w' := by
  have hl : lsz DNode.sz t.fNodes ≤ 1048576 := hsz
  have hn : t.fNodes.length ≤ 1048576 := by unfold lsz at hl; omega
  have HL := Lib.hid hl
  have HB := Lib.hid ((Below.refl w.heap.size w).alloc (Nat.le_refl _) (.cells #[.slice a0 t.fNodes.length c0_0] 37))
  have HE := Lib.hid (show Below (w.heap.size + 1) (w.alloc (.cells #[.slice a0 t.fNodes.length c0_0] 37)) (w.alloc (.cells #[.slice a0 t.fNodes.length c0_0] 37)) from Below.refl _ _)
  have HSZ := Lib.hid (show (w.alloc (.cells #[.slice a0 t.fNodes.length c0_0] 37)).heap.size = w.heap.size + 1 by simp)
  have HX := Lib.hid (show (w.alloc (.cells #[.slice a0 t.fNodes.length c0_0] 37)).cell? ⟨w.heap.size, 0, none⟩ = some (.slice a0 t.fNodes.length c0_0) by go_simp)
  have HS := Lib.hid (hs.later HB.out hhi)
  have HHI := Lib.hid hhi
  have HGO := Lib.hid (fun (w' : World) (v : Value) (L : List Int) (h : w'.ownsRow (w.heap.size + 1) 3 1 v L.length (L.flatMap vI)) => (show ∃ a c, v = .slice a L.length c ∧ Own w' (fun y => w.heap.size ≤ y ∧ y < w'.heap.size) (.sl 1 L.length (fun k => ictI (L.getD k default))) (.slice a L.length c) from by
    obtain ⟨a, c, h1, h2⟩ := grown_own (ct := ictI) (by decide) vI_len vI_ct h
    exact ⟨a, c, h1, h2.sub fun y hy => ⟨by omega, hy.2⟩⟩))
  have hi1 : -9223372036854775808 ≤ i ∧ i ≤ 9223372036854775807 := hi0
  obtain ⟨i0, hi', hz0, hz1, hz2⟩ := info_parts info_Int
  clear hs hi0 hsz hhi hl
  generalize t.fNodes = l at *
  have HI := Lib.hid (show ∀ (w' : World) (x y : Int), Calls Try.prog 83 #[.int .i64 x, .int .i64 0, .int .i64 y] w' fun e w'' => e = .returned (.bool (inR x 0 y)) ∧ w' = w'' from fun w' x y => spec_l1In x 0 y w')
  have HWR := Lib.hid (show IntKind.i64.wrap ((l.length : Int) - 1) = (l.length : Int) - 1 by rw [IntKind.wrap_i64]; omega)
  have HO0 := Lib.hid (show ((w.alloc (.cells #[.slice a0 l.length c0_0] 37)).alloc (.cells #[] 3)).ownsRow (w.heap.size + 1) 3 1 (.slice (some ⟨w.heap.size + 1, 0, none⟩) 0 0) 0 [] from by have h := grown_made (w := w.alloc (.cells #[.slice a0 l.length c0_0] 37)) (e := 3) (n := 1) (vals := vI); rw [HSZ.out] at h; exact h)
  by_cases hr : 0 ≤ i ∧ i < l.length
  · obtain ⟨n, rfl⟩ : ∃ n : Nat, i = n := ⟨i.toNat, by omega⟩
    have hnl : n < l.length := by omega
    have HNI := Lib.hid (nodeIds_at hnl)
    obtain ⟨b, off, rfl, _, hbh, hc⟩ := HS.out.at n hnl
    obtain ⟨a5, c5, hc0, _, _, _, _, hc5, hs5⟩ := DNode.open hc
    have HKO := Lib.hid (kids_open hs5)
    have hkn := nodekids_len HL.out hnl
    have hbw : b < w.heap.size + 1 := Nat.lt_of_lt_of_le hbh (Nat.le_trans HHI.out (Nat.le_succ _))
    have HC5 := Lib.hid hc5
    have i1 := inR_yes (n := (n : Int)) (a := 0) (b := (l.length : Int) - 1) (by omega) (by omega)
    have i1w : inR (n : Int) 0 (IntKind.i64.wrap ((l.length : Int) - 1)) = true := by rw [HWR.out]; exact i1
    clear hc hs5 hr hi1
    rw [HNI.out]
    generalize (l.getD n default).fChildren = cs at *
    generalize (l.getD n default).fId = id at *
    have HX2 := Lib.hid (HX.out)
    go_enter Try.func20, Try.ntmps20
    go_wp2_with fail
    refine (HI.out _ _ _).mono ?_
    rintro e w0 ⟨rfl, hw0⟩
    have HW0 := Lib.hid (show Below (w.heap.size + 1) (w.alloc (.cells #[.slice (some ⟨b, off, none⟩) l.length c0_0] 37)) w0 from by rw [← hw0]; exact HE.out.alloc (by simp) _)
    have HO1 := Lib.hid (hw0 ▸ HO0.out)
    have hsz0 : w.heap.size + 1 ≤ w0.heap.size := by have := HW0.out.size; rw [HSZ.out] at this; exact this
    have hx0 : w0.cell? ⟨w.heap.size, 0, none⟩ = some (.slice (some ⟨b, off, none⟩) l.length c0_0) := (HW0.out.cell (p := ⟨w.heap.size, 0, none⟩) (Nat.lt_succ_self _)).trans HX.out
    have hd0 : w0.cell? ⟨b, off + n * 6, none⟩ = some (.int .i64 id) := (HW0.out.cell (p := ⟨b, off + n * 6, none⟩) hbw).trans hc0
    clear hw0 hc0 hc5 HO0
    go_wp2_with (at_builtin; refine wpList_append_own _ rfl (.tmp 17) (.tmp 24) 22 rfl (w.heap.size + 1) 3 i0 (.int .i64 0) 1 8 Try.underlying22 hi' hz0 hz1 hz2 rfl (by decide) _ _ _ rfl (HO1.out.alloc _) ⟨w0.heap.size, 0, none⟩ 1 1 [.int .i64 id] rfl rfl (cell_one_new _ _ _) (by intro u hu; simp at hu; subst hu; rfl) (by unfold maxLen; omega) (by omega) (by simp <;> omega) ?_; intro v' w1 hown' hgrow hnil)
    have R1 := Lib.hid (grown_one (l := []) (x := id) (vals := vI) hown' rfl)
    have R3 : Below (w.heap.size + 1) (w.alloc (.cells #[.slice (some ⟨b, off, none⟩) l.length c0_0] 37)) w1 := (HW0.out.alloc hsz0 _).grown hgrow (by simp <;> omega) (fun g hg => (HO1.out.lt g hg).1)
    have RS : w.heap.size + 1 ≤ w1.heap.size := by have := R3.size; simp at this; omega
    clear hown' hgrow hnil hx0 hd0 hsz0
    have hx1 : w1.cell? ⟨w.heap.size, 0, none⟩ = some (.slice (some ⟨b, off, none⟩) l.length c0_0) := (R3.cell (p := ⟨w.heap.size, 0, none⟩) (Nat.lt_succ_self _)).trans HX.out
    have hd5 : w1.cell? ⟨b, off + n * 6 + 5, none⟩ = some (.slice a5 cs.length c5) := (R3.cell (p := ⟨b, off + n * 6 + 5, none⟩) hbw).trans HC5.out
    go_wp2
    go_loopw [5, 6] (fun v i wr => ∃ j : Nat, j ≤ cs.length ∧ i = .int .i64 (j : Int) ∧ wr.ownsRow (w.heap.size + 1) 3 1 v (id :: idsF l (cs.take j)).length ((id :: idsF l (cs.take j)).flatMap vI) ∧ Below (w.heap.size + 1) (w.alloc (.cells #[.slice (some ⟨b, off, none⟩) l.length c0_0] 37)) wr) (fun _ i _ => cs.length - (intOf i).toNat)
    case atStart => exact ⟨0, Nat.zero_le _, rfl, R1.out, R3⟩
    case round =>
      clear hx1 hd5 R1 R3 RS
      obtain ⟨j, hj, rfl, hown, hbl⟩ := hrel
      have HO := Lib.hid hown
      have HBL := Lib.hid hbl
      have hsz1 : w.heap.size + 1 ≤ wr.heap.size := by have := hbl.size; rw [HSZ.out] at this; exact this
      have hx1 : wr.cell? ⟨w.heap.size, 0, none⟩ = some (.slice (some ⟨b, off, none⟩) l.length c0_0) := (hbl.cell (p := ⟨w.heap.size, 0, none⟩) (Nat.lt_succ_self _)).trans HX.out
      have hd5 : wr.cell? ⟨b, off + n * 6 + 5, none⟩ = some (.slice a5 cs.length c5) := (hbl.cell (p := ⟨b, off + n * 6 + 5, none⟩) hbw).trans HC5.out
      have hlen : (id :: idsF l (cs.take j)).length ≤ 1048577 := by have h1 := idsF_len l (cs.take j); rw [List.length_take] at h1; rw [List.length_cons]; omega
      clear hown hbl
      by_cases hlt : j < cs.length
      · have HST := Lib.hid (ids_step (l := l) hlt id)
        obtain ⟨b2, off2, rfl, hb2, hc2⟩ := HKO.out j hlt
        have hk1 : wr.cell? ⟨b2, off2 + j, none⟩ = some (.int .i64 (cs.getD j default)) := (HBL.out.cell (p := ⟨b2, off2 + j, none⟩) (Nat.lt_of_lt_of_le hb2 (Nat.le_trans HHI.out (Nat.le_succ _)))).trans hc2
        clear hc2
        generalize cs.getD j default = z at *
        generalize (id :: idsF l (cs.take j)) = L at *
        by_cases hz : 0 ≤ z ∧ z < l.length
        · obtain ⟨m, rfl⟩ : ∃ m : Nat, z = m := ⟨z.toNat, by omega⟩
          have hml : m < l.length := by omega
          obtain ⟨b', off', hbo, _, _, hd⟩ := HS.out.at m hml
          simp only [Option.some.injEq, Addr.mk.injEq, and_true] at hbo
          obtain ⟨rfl, rfl⟩ := hbo
          obtain ⟨d5, e5, hd0, _, _, _, _, _, _⟩ := DNode.open hd
          have hm0 : wr.cell? ⟨b, off + m * 6, none⟩ = some (.int .i64 (l.getD m default).fId) := (HBL.out.cell (p := ⟨b, off + m * 6, none⟩) hbw).trans hd0
          rw [idAt_yes hml] at HST
          have i2 := inR_yes (n := (m : Int)) (a := 0) (b := (l.length : Int) - 1) (by omega) (by omega)
          have i2w : inR (m : Int) 0 (IntKind.i64.wrap ((l.length : Int) - 1)) = true := by rw [HWR.out]; exact i2
          clear hd hd0 hz
          generalize (l.getD m default).fId = x at *
          go_wp2_with fail
          refine (HI.out _ _ _).mono ?_
          rintro e w0 ⟨rfl, rfl⟩
          go_wp2_with (at_builtin; refine wpList_append_own _ rfl (.tmp 52) (.tmp 59) 22 rfl (w.heap.size + 1) 3 i0 (.int .i64 0) 1 8 Try.underlying22 hi' hz0 hz1 hz2 rfl (by decide) _ _ _ rfl (HO.out.alloc _) ⟨wr.heap.size, 0, none⟩ 1 1 [.int .i64 x] rfl rfl (cell_one_new _ _ _) (by intro u hu; simp at hu; subst hu; rfl) (by unfold maxLen; omega) (by omega) (by simp <;> omega) ?_; intro v' w1 hown' hgrow hnil)
          have R1 := Lib.hid (grown_one (l := L) (x := x) (vals := vI) hown' rfl)
          rw [← HST.out] at R1
          have R3 := Lib.hid (show Below (w.heap.size + 1) (w.alloc (.cells #[.slice (some ⟨b, off, none⟩) l.length c0_0] 37)) w1 from (HBL.out.alloc hsz1 _).grown hgrow (by simp <;> omega) (fun g hg => (HO.out.lt g hg).1))
          clear hown' hgrow hnil
          go_wp2
          go_roundw
          case rel => exact ⟨j + 1, by omega, by go_num, R1.out, R3.out⟩
          case measure => simp [intOf]; omega
        · rw [idAt_no hz, List.append_nil] at HST
          have i2 := inR_no (n := z) (a := 0) (b := (l.length : Int) - 1) (by omega)
          have i2w : inR z 0 (IntKind.i64.wrap ((l.length : Int) - 1)) = false := by rw [HWR.out]; exact i2
          clear hz
          go_wp2_with fail
          refine (HI.out _ _ _).mono ?_
          rintro e w0 ⟨rfl, rfl⟩
          go_wp2
          go_roundw
          case rel => exact ⟨j + 1, by omega, by go_num, by rw [HST.out]; exact HO.out, HBL.out⟩
          case measure => simp [intOf]; omega
      · obtain rfl : j = cs.length := by omega
        go_wp2
        go_ret
        have ho := HO.out
        rw [List.take_length] at ho
        obtain ⟨a, c, h1, h2⟩ := HGO.out _ _ _ ho
        exact ⟨a, c, congrArg Ending.returned h1, h2, HB.out.trans (HBL.out.mono (Nat.le_succ _))⟩
  · have HNI := Lib.hid (nodeIds_no hr)
    have i1 := inR_no (n := i) (a := 0) (b := (l.length : Int) - 1) (by omega)
    have i1w : inR i 0 (IntKind.i64.wrap ((l.length : Int) - 1)) = false := by rw [HWR.out]; exact i1
    rw [HNI.out]
    go_enter Try.func20, Try.ntmps20
    go_wp2_with fail
    refine (HI.out _ _ _).mono ?_
    rintro e w0 ⟨rfl, rfl⟩
    go_wp2
    go_ret
    obtain ⟨a, c, h1, h2⟩ := HGO.out _ _ [] HO0.out
    exact ⟨a, c, congrArg Ending.returned h1, h2, HB.out.alloc (by simp) _⟩

set_option maxHeartbeats 3200000 in
set_option maxRecDepth 100000 in
theorem impl_NodeIds {lo hi : Nat} {a0 : Option Addr} {c0_0 : Nat} (t : DTree) (_ : t.ok) (hsz : t.sz ≤ 1048576) (i : Int) (hi0 : okI i) (w : World) (hhi : hi ≤ w.heap.size) (hs : Sl lo hi w 6 t.fNodes.length (fun k => DNode.ct (t.fNodes.getD k default)) a0) :
    Calls Try.prog 22 #[.agg #[.slice a0 t.fNodes.length c0_0], .int .i64 i] w fun e w' => ∃ a c, e = .returned (.slice a (nodeIds t.fNodes i).length c) ∧ Own w' (fun y => w.heap.size ≤ y ∧ y < w'.heap.size) (.sl 1 (nodeIds t.fNodes i).length (fun k => ictI ((nodeIds t.fNodes i).getD k default))) (.slice a (nodeIds t.fNodes i).length c) ∧ Below w.heap.size w w' := by
  have hl : lsz DNode.sz t.fNodes ≤ 1048576 := hsz
  have hn : t.fNodes.length ≤ 1048576 := by unfold lsz at hl; omega
  have HL := Lib.hid hl
  have HB := Lib.hid ((Below.refl w.heap.size w).alloc (Nat.le_refl _) (.cells #[.slice a0 t.fNodes.length c0_0] 37))
  have HE := Lib.hid (show Below (w.heap.size + 1) (w.alloc (.cells #[.slice a0 t.fNodes.length c0_0] 37)) (w.alloc (.cells #[.slice a0 t.fNodes.length c0_0] 37)) from Below.refl _ _)
  have HSZ := Lib.hid (show (w.alloc (.cells #[.slice a0 t.fNodes.length c0_0] 37)).heap.size = w.heap.size + 1 by simp)
  have HX := Lib.hid (show (w.alloc (.cells #[.slice a0 t.fNodes.length c0_0] 37)).cell? ⟨w.heap.size, 0, none⟩ = some (.slice a0 t.fNodes.length c0_0) by go_simp)
  have HS := Lib.hid (hs.later HB.out hhi)
  have HHI := Lib.hid hhi
  have HGO := Lib.hid (fun (w' : World) (v : Value) (L : List Int) (h : w'.ownsRow (w.heap.size + 1) 3 1 v L.length (L.flatMap vI)) => (show ∃ a c, v = .slice a L.length c ∧ Own w' (fun y => w.heap.size ≤ y ∧ y < w'.heap.size) (.sl 1 L.length (fun k => ictI (L.getD k default))) (.slice a L.length c) from by
    obtain ⟨a, c, h1, h2⟩ := grown_own (ct := ictI) (by decide) vI_len vI_ct h
    exact ⟨a, c, h1, h2.sub fun y hy => ⟨by omega, hy.2⟩⟩))
  have hi1 : -9223372036854775808 ≤ i ∧ i ≤ 9223372036854775807 := hi0
  obtain ⟨i0, hi', hz0, hz1, hz2⟩ := info_parts info_Int
  clear hs hi0 hsz hhi hl
  generalize t.fNodes = l at *
  have HAT := Lib.hid (fun (n : Nat) (b off : Nat) (h : n < l.length) (w : World) => impl_Tree_at (b := b) (off := off) (c0 := c0_0) (len := l.length) n hn h w)
  have HNA := Lib.hid (fun (a : Option Addr) (i : Int) h (w : World) => impl_Tree_at_no (a0 := a) (c0 := c0_0) (len := l.length) hn i h w)
  by_cases hr : 0 ≤ i ∧ i < l.length
  · obtain ⟨n, rfl⟩ : ∃ n : Nat, i = n := ⟨i.toNat, by omega⟩
    have hnl : n < l.length := by omega
    have HNI := Lib.hid (nodeIds_at hnl)
    obtain ⟨b, off, rfl, _, hbh, hc⟩ := HS.out.at n hnl
    obtain ⟨a5, c5, hc0, _, _, _, _, hc5, hs5⟩ := DNode.open hc
    have hkn := nodekids_len HL.out hnl
    have hbw : b < w.heap.size + 1 := Nat.lt_of_lt_of_le hbh (Nat.le_trans HHI.out (Nat.le_succ _))
    have HC5 := Lib.hid hc5
    have HC0 := Lib.hid hc0
    have HCY := Lib.hid (fun (p : Int) (hk : hasKid l n p) (W : World) (hW : Below (w.heap.size + 1) (w.alloc (.cells #[.slice (some ⟨b, off, none⟩) l.length c0_0] 37)) W) => impl_child (c0 := c0_0) l HL.out n hnl p hk W (Nat.le_trans HHI.out (Nat.le_trans HB.out.size hW.size)) (HS.out.later hW (Nat.le_trans HHI.out (Nat.le_succ _))))
    have HCN := Lib.hid (fun (p : Int) (hk : ¬ hasKid l n p) (hp : okI p) (W : World) (hW : Below (w.heap.size + 1) (w.alloc (.cells #[.slice (some ⟨b, off, none⟩) l.length c0_0] 37)) W) => impl_child_no (c0 := c0_0) l HL.out n hnl p hk hp W (Nat.le_trans HHI.out (Nat.le_trans HB.out.size hW.size)) (HS.out.later hW (Nat.le_trans HHI.out (Nat.le_succ _))))
    have HKD := Lib.hid (show ∀ j : Nat, kidOf l n ((j : Int) + 1) = (l.getD n default).fChildren.getD j default from fun j => by unfold kidOf; rw [show ((j : Int) + 1).toNat - 1 = j by omega])
    have HKY := Lib.hid (show ∀ j : Nat, j < (l.getD n default).fChildren.length → ∀ z : Int, (l.getD n default).fChildren.getD j default = z → (0 ≤ z ∧ z < l.length) → hasKid l n ((j : Int) + 1) from fun j hj z hz h => by unfold hasKid; rw [HKD.out, hz]; exact ⟨by omega, by omega, h.1, h.2⟩)
    have HKN := Lib.hid (show ∀ j : Nat, ∀ z : Int, (l.getD n default).fChildren.getD j default = z → ¬ (0 ≤ z ∧ z < l.length) → ¬ hasKid l n ((j : Int) + 1) from fun j z hz h hk => by unfold hasKid at hk; rw [HKD.out, hz] at hk; exact h ⟨hk.2.2.1, hk.2.2.2⟩)
    clear hc hs5 hr hi1 hc0 hc5
    rw [HNI.out]
    generalize (l.getD n default).fChildren = cs at *
    generalize (l.getD n default).fId = id at *
    go_enter Try.func22, Try.ntmps22
    go_wp2_with fail
    refine (HAT.out n b off hnl _).mono ?_
    rintro e w1 ⟨rfl, hb1⟩
    have HB1 := Lib.hid (show Below (w.heap.size + 1) (w.alloc (.cells #[.slice (some ⟨b, off, none⟩) l.length c0_0] 37)) w1 from by have h := hb1; rw [HSZ.out] at h; exact h)
    have hsz1 : w.heap.size + 1 ≤ w1.heap.size := by have := HB1.out.size; rw [HSZ.out] at this; exact this
    have hd0 : w1.cell? ⟨b, off + n * 6, none⟩ = some (.int .i64 id) := (HB1.out.cell (p := ⟨b, off + n * 6, none⟩) hbw).trans HC0.out
    have hd5 : w1.cell? ⟨b, off + n * 6 + 5, none⟩ = some (.slice a5 cs.length c5) := (HB1.out.cell (p := ⟨b, off + n * 6 + 5, none⟩) hbw).trans HC5.out
    have HO0 := Lib.hid (show (w1.alloc (.cells #[.int .i64 id] 3)).ownsRow (w.heap.size + 1) 3 1 (.slice (some ⟨w1.heap.size, 0, none⟩) 1 1) [id].length ([id].flatMap vI) from World.ownsRow_lit w1 #[.int .i64 id] 1 hsz1 (by decide) rfl)
    have hbw1 : b < w1.heap.size := Nat.lt_of_lt_of_le hbw hsz1
    clear hb1
    go_wp2
    go_loopw [6, 24] (fun v i wr => ∃ j : Nat, j ≤ cs.length ∧ i = .int .i64 (j : Int) ∧ wr.ownsRow (w.heap.size + 1) 3 1 v (id :: idsF l (cs.take j)).length ((id :: idsF l (cs.take j)).flatMap vI) ∧ Below (w.heap.size + 1) (w.alloc (.cells #[.slice (some ⟨b, off, none⟩) l.length c0_0] 37)) wr) (fun _ i _ => cs.length - (intOf i).toNat)
    case atStart => exact ⟨0, Nat.zero_le _, rfl, HO0.out, HB1.out.alloc hsz1 _⟩
    case round =>
      clear hd0 hd5 HO0 HB1 hsz1 hbw1
      obtain ⟨j, hj, rfl, hown, hbl⟩ := hrel
      have HO := Lib.hid hown
      have HBL := Lib.hid hbl
      have hsz1 : w.heap.size + 1 ≤ wr.heap.size := by have := hbl.size; rw [HSZ.out] at this; exact this
      have hx1 : wr.cell? ⟨w.heap.size, 0, none⟩ = some (.slice (some ⟨b, off, none⟩) l.length c0_0) := (hbl.cell (p := ⟨w.heap.size, 0, none⟩) (Nat.lt_succ_self _)).trans HX.out
      have hlen : (id :: idsF l (cs.take j)).length ≤ 1048577 := by have h1 := idsF_len l (cs.take j); rw [List.length_take] at h1; rw [List.length_cons]; omega
      clear hown hbl
      by_cases hlt : j < cs.length
      · have HST := Lib.hid (ids_step (l := l) hlt id)
        have hky := HKY.out j hlt
        have hkn2 := HKN.out j
        have hkd := HKD.out j
        generalize (id :: idsF l (cs.take j)) = L at *
        generalize cs.getD j default = z at *
        by_cases hz : 0 ≤ z ∧ z < l.length
        · have HC := Lib.hid (fun W hW => HCY.out _ (hky z rfl hz) W hW)
          rw [hkd] at HC
          obtain ⟨m, rfl⟩ : ∃ m : Nat, z = m := ⟨z.toNat, by omega⟩
          rw [Int.toNat_natCast] at HC
          have hml : m < l.length := by omega
          obtain ⟨b', off', hbo, _, _, hd⟩ := HS.out.at m hml
          simp only [Option.some.injEq, Addr.mk.injEq, and_true] at hbo
          obtain ⟨rfl, rfl⟩ := hbo
          obtain ⟨d5, e5, hd0, _, _, _, _, _, _⟩ := DNode.open hd
          have HD0 := Lib.hid hd0
          rw [idAt_yes hml] at HST
          clear hd hd0 hz hky hkn2 hkd
          generalize (l.getD m default).fId = x at *
          go_wp2_with fail
          refine (HC.out _ HBL.out).mono ?_
          rintro e w2 ⟨rfl, hb2⟩
          have HB2 := Lib.hid (HBL.out.trans (hb2.mono hsz1))
          have HO2 := Lib.hid (ownsRow_below HO.out hb2)
          have hsz2 : w.heap.size + 1 ≤ w2.heap.size := Nat.le_trans hsz1 hb2.size
          have hm0 : w2.cell? ⟨b, off + m * 6, none⟩ = some (.int .i64 x) := (HB2.out.cell (p := ⟨b, off + m * 6, none⟩) hbw).trans HD0.out
          clear hb2
          go_wp2_with (at_builtin; refine wpList_append_own _ rfl (.tmp 34) (.tmp 39) 22 rfl (w.heap.size + 1) 3 i0 (.int .i64 0) 1 8 Try.underlying22 hi' hz0 hz1 hz2 rfl (by decide) _ _ _ rfl (HO2.out.alloc _) ⟨w2.heap.size, 0, none⟩ 1 1 [.int .i64 x] rfl rfl (cell_one_new _ _ _) (by intro u hu; simp at hu; subst hu; rfl) (by unfold maxLen; omega) (by omega) (by simp <;> omega) ?_; intro v' w1 hown' hgrow hnil)
          have R1 := Lib.hid (grown_one (l := L) (x := x) (vals := vI) hown' rfl)
          rw [← HST.out] at R1
          have R3 := Lib.hid (show Below (w.heap.size + 1) (w.alloc (.cells #[.slice (some ⟨b, off, none⟩) l.length c0_0] 37)) w1 from (HB2.out.alloc hsz2 _).grown hgrow (by simp <;> omega) (fun g hg => (HO2.out.lt g hg).1))
          clear hown' hgrow hnil
          go_wp2
          go_roundw
          case rel => exact ⟨j + 1, by omega, by go_num, R1.out, R3.out⟩
          case measure => simp [intOf]; omega
        · have HC := Lib.hid (fun W hW => HCN.out _ (hkn2 z rfl hz) ⟨by omega, by omega⟩ W hW)
          rw [idAt_no hz, List.append_nil] at HST
          clear hz hky hkn2 hkd
          go_wp2_with fail
          refine (HC.out _ HBL.out).mono ?_
          rintro e w2 ⟨rfl, hb2⟩
          have HB2 := Lib.hid (HBL.out.trans (hb2.mono hsz1))
          have HO2 := Lib.hid (ownsRow_below HO.out hb2)
          clear hb2
          go_wp2
          go_roundw
          case rel => exact ⟨j + 1, by omega, by go_num, by rw [HST.out]; exact HO2.out, HB2.out⟩
          case measure => simp [intOf]; omega
      · obtain rfl : j = cs.length := by omega
        go_wp2
        go_ret
        have ho := HO.out
        rw [List.take_length] at ho
        obtain ⟨a, c, h1, h2⟩ := HGO.out _ _ _ ho
        exact ⟨a, c, congrArg Ending.returned h1, h2, HB.out.trans (HBL.out.mono (Nat.le_succ _))⟩
  · have HNI := Lib.hid (nodeIds_no hr)
    rw [HNI.out]
    go_enter Try.func22, Try.ntmps22
    go_wp2_with fail
    refine (HNA.out a0 i (by omega) _).mono ?_
    rintro e w1 ⟨rfl, hb1⟩
    go_wp2
    go_ret
    exact ⟨none, 0, rfl, .nil _ _ _ _ _, HB.out.trans (hb1.mono HB.out.size)⟩
end Go.Proofs.Ytnacnlljhjlmdab
