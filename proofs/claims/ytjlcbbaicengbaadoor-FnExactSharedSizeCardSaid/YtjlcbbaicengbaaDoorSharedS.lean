/-
  SharedSize of the model.
-/
import Derived.Test.YtjlcbbaicengbaaDoorSharedT
import Derived.Test.YtjlcbbaicengbaaDoorStoreS
import Derived.Test.YtjlcbbaicengbaaDoorGrow
namespace Go.Proofs.YtjlcbbaicengbaaDoor
open Go.ChangeShapes Go.WideShapes Go.ChangeAt Go.RowKit Go.Deep

def vQ (z : Int) : List Value := [.int .i64 z]
theorem vQ_len (z : Int) : (vQ z).length = 1 := rfl
theorem vQ_ct (z : Int) (c : Nat) (h : c < 1) : ictI z c = .lit ((vQ z).getD c .nilFunc) := match c, h with | 0, _ => rfl
theorem ints_at {w : World} {B : Nat} {v : Value} {L : List Int} (h : w.ownsRow B 3 1 v L.length (L.flatMap vQ)) {p : Nat} (hp : p < L.length) : ∃ g c, v = .slice (some ⟨g, 0, none⟩) L.length c ∧ g < w.heap.size ∧ w.cell? ⟨g, p, none⟩ = some (.int .i64 (L.getD p default)) := by
  rcases h.2 with ⟨_, h2⟩ | ⟨g, cap, cur, h1, _⟩
  · have : L.length = 0 := by first | exact h2 | (have := congrArg List.length h2; rw [flat_len vQ_len] at this; simpa using this)
    omega
  · subst h1
    refine ⟨g, cap, rfl, (h.lt g rfl).2, ?_⟩
    have h5 := flat_get vQ_len L p 0 hp (by decide)
    rw [Nat.mul_one, Nat.add_zero] at h5
    rw [h.cellAt p (by omega), h5]
    rfl
theorem ints_sl {w : World} {B : Nat} {v : Value} {L : List Int} (h : w.ownsRow B 3 1 v L.length (L.flatMap vQ)) : ∃ a c, v = .slice a L.length c ∧ Sl 0 w.heap.size w 1 L.length (fun k => ictI (L.getD k default)) a := by
  obtain ⟨a, c, h1, h2⟩ := grown_own (ct := ictI) (by decide) vQ_len vQ_ct h
  exact ⟨a, c, h1, Sl.of (h2.lies fun y hy => ⟨Nat.zero_le _, hy.2⟩)⟩
theorem info_IntQ : (Tryd.prog.info? 3).map (fun i => (i.zero, i.size, i.bytes)) = some (some (.int .i64 0), 1, 8) := by kernel_rfl
theorem getD_mem {L : List Int} {p : Nat} (h : p < L.length) : L.getD p default ∈ L := by
  rw [List.getD_eq_getElem?_getD, List.getElem?_eq_getElem h]
  exact List.getElem_mem _

set_option maxHeartbeats 12800000 in
set_option maxRecDepth 100000 in
theorem spec_SharedSizeL {lo hi c : Nat} {a : Option Addr} (l : List DCell) (hsz : lsz DCell.sz l ≤ 1048576) (i : Int) (w : World) (hhi : hi ≤ w.heap.size) (hs : Sl lo hi w 3 l.length (fun k => DCell.ct (l.getD k default)) a) :
    Calls Tryd.prog 10 #[.agg #[.slice a l.length c], .int .i64 i] w fun e w' => e = .returned (.int .i64 (sharedN l i)) ∧ Below w.heap.size w w' := by
  have hn : l.length ≤ 1048576 := by unfold lsz at hsz; omega
  have HB := Lib.hid (show Below w.heap.size w (w.alloc (.cells #[.slice a l.length c] 29)) from (Below.refl w.heap.size w).alloc (Nat.le_refl _) (.cells #[.slice a l.length c] 29))
  have HBS := Lib.hid (show (w.alloc (.cells #[.slice a l.length c] 29)).heap[w.heap.size]? = some (.cells #[.slice a l.length c] 29) from blk_new rfl)
  have HZ := Lib.hid (show (w.alloc (.cells #[.slice a l.length c] 29)).heap.size = w.heap.size + 1 by simp)
  have HS := Lib.hid (fun (W : World) (hW : Below w.heap.size w W) => hs.later hW hhi)
  have HHI := Lib.hid hhi
  have HLN := Lib.hid (fun k (hk : k < l.length) => kids_len hsz hk)
  have HV := Lib.hid (fun (W : World) (hW : Below w.heap.size w W) => spec_IsValidStoreL (c := c) l hsz W (Nat.le_trans hhi hW.size) (hs.later hW hhi))
  obtain ⟨i0, hi', hz0, hz1, hz2⟩ := info_parts info_IntQ
  clear hs hhi hsz
  go_enter Tryd.func10, Tryd.ntmps10
  go_wp2_with fail
  generalize (w.alloc (.cells #[.slice a l.length c] 29)) = w0 at *
  refine (HV.out _ HB.out).mono ?_
  rintro e w1 ⟨rfl, hb1⟩
  have HB1 := Lib.hid (HB.out.trans (hb1.mono HB.out.size))
  have hz1' : w.heap.size + 1 ≤ w1.heap.size := HZ.out ▸ hb1.size
  have HS1 := Lib.hid ((hb1.block w.heap.size (by rw [HZ.out]; omega)).trans HBS.out)
  have s1 : w1.cell? ⟨w.heap.size, 0, none⟩ = some (.slice a l.length c) := pblk_cell HS1.out rfl
  clear hb1 HV
  cases hok : storeOk l
  · have FIN := Lib.hid (shared_no1 hok i)
    clear hok
    go_wp2
    go_ret
    exact ⟨ret_i FIN.out.symm, HB1.out⟩
  have HVL := Lib.hid (kidsLow_of hok)
  have HOKS := Lib.hid hok
  clear hok
  go_wp2_with fail
  refine (spec_l1In i 0 ((l.length : Int) - 1) _).mono ?_
  rintro e w2 ⟨rfl, rfl⟩
  by_cases hin : 0 ≤ i ∧ i < l.length
  · obtain ⟨A, rfl⟩ : ∃ A : Nat, i = (A : Int) := ⟨i.toNat, by omega⟩
    have hA : A < l.length := by omega
    have hr : inR (A : Int) 0 ((l.length : Int) - 1) = true := inR_yes (by omega) (by omega)
    have FIN := Lib.hid (shared_yes HOKS.out hA)
    rw [hr]
    clear hr
    have HO0 := Lib.hid (show (w1.alloc (.cells #[.int .i64 (A : Int)] 3)).ownsRow w1.heap.size 3 1 (.slice (some ⟨w1.heap.size, 0, none⟩) 1 1) [(A : Int)].length ([(A : Int)].flatMap vQ) from World.ownsRow_lit w1 #[.int .i64 (A : Int)] 1 (Nat.le_refl _) (by decide) rfl)
    go_wp2
    go_loopw [5, 6] (fun s i wr => ∃ (p : Nat) (L : List Int), p ≤ L.length ∧ i = .int .i64 (p : Int) ∧ wr.ownsRow w1.heap.size 3 1 s L.length (L.flatMap vQ) ∧ SInv l A L ∧ doneTo l L p ∧ Below w1.heap.size w1 wr) (fun _ i _ => A + 1 - (intOf i).toNat)
    case atStart => exact ⟨0, [(A : Int)], Nat.zero_le _, rfl, HO0.out, SInv.start l A, fun _ h => absurd h (Nat.not_lt_zero _), (Below.refl _ _).alloc (Nat.le_refl _) _⟩
    case round =>
      clear HO0
      obtain ⟨p, L, hp, rfl, hown, hinv, hdone, hb⟩ := hrel
      have HO := Lib.hid hown
      have HI := Lib.hid hinv
      have HD := Lib.hid hdone
      have HBW := Lib.hid hb
      have HBT := Lib.hid (HB1.out.trans (hb.mono HB1.out.size))
      have hzw : w1.heap.size ≤ wr.heap.size := hb.size
      have hLe : L.length ≤ A + 1 := list_le HVL.out hA hinv.nodup hinv.reach
      have HSW := Lib.hid ((hb.block w.heap.size (by omega)).trans HS1.out)
      clear hown hinv hdone hb
      by_cases hlt : p < L.length
      · obtain ⟨g, cg, rfl, hg, hgc⟩ := ints_at HO.out hlt
        have hx := HI.out.reach _ (getD_mem hlt)
        obtain ⟨hx0, hx1⟩ := mark_range HVL.out hA hx
        obtain ⟨m, hm⟩ : ∃ m : Nat, L.getD p default = (m : Int) := ⟨(L.getD p default).toNat, by omega⟩
        have hml : m < l.length := by omega
        obtain ⟨b0, off, rfl, _, hbh, hc⟩ := (HS.out w1 HB1.out).at m hml
        obtain ⟨a2, c2, hc0, hc1, hc2, hs3⟩ := DCell.open hc
        have hb01 := Lib.hid (show b0 < w1.heap.size by have := HHI.out; omega)
        have HL3 := Lib.hid (HLN.out m hml)
        have hmN : (L.getD p default).toNat = m := by rw [hm]; exact Int.toNat_natCast m
        have HRK := Lib.hid (fun c hcc => reach_kids HVL.out hA hx (c := c) (by rw [hmN]; exact hcc))
        have HGR := Lib.hid (fun N hk => HD.out.grow (N := N) hlt (by rw [hmN]; exact hk))
        have HSK := Lib.hid hs3
        have s0 : wr.cell? ⟨w.heap.size, 0, none⟩ = some (.slice (some ⟨b0, off, none⟩) l.length c) := pblk_cell HSW.out rfl
        have hc2r : wr.cell? ⟨b0, off + m * 3 + 2, none⟩ = some (.slice a2 (l.getD m default).fChildren.length c2) := (HBW.out.cell (p := ⟨b0, off + m * 3 + 2, none⟩) hb01.out).trans hc2
        rw [hm] at hgc
        have hpI : (0 : Int) ≤ (p : Int) ∧ (p : Int) < (L.length : Int) := by omega
        have hmI : (0 : Int) ≤ (m : Int) ∧ (m : Int) < (l.length : Int) := by omega
        clear hc hs3 hx hx0 hx1 hm hmN hc0 hc1 hc2 HD HLN
        generalize (l.getD m default).fChildren = ch at *
        go_wp2_with fail
        go_quiet (fail)
        go_wp2

        go_loopw [5, 8] (fun s i wr => ∃ (k : Nat) (M : List Int), k ≤ ch.length ∧ i = .int .i64 (k : Int) ∧ wr.ownsRow w1.heap.size 3 1 s M.length (M.flatMap vQ) ∧ SInv l A M ∧ (∃ N, M = L ++ N) ∧ (∀ t, t < k → ch.getD t default ∈ M) ∧ Below w1.heap.size w1 wr) (fun _ i _ => ch.length - (intOf i).toNat)
        case atStart => exact ⟨0, L, Nat.zero_le _, rfl, (by first | exact HO.out | exact HO.out.drew | exact ownsRow_below HO.out (by repeat (first | (with_reducible exact Below.refl _ _) | (with_reducible apply Below.drew) | (with_reducible refine below_drewN ?_ _)))), HI.out, ⟨[], (List.append_nil L).symm⟩, fun _ h => absurd h (Nat.not_lt_zero _), (by repeat (first | (with_reducible exact HBW.out) | (with_reducible apply Below.drew) | (with_reducible refine below_drewN ?_ _)))⟩
        case round =>
          obtain ⟨k, M, hk, rfl, hown, hinv, ⟨N, hMN⟩, hkm, hb⟩ := hrel
          have HOM := Lib.hid hown
          have HIM := Lib.hid hinv
          have HKM := Lib.hid hkm
          have HBQ := Lib.hid hb
          have hzq : w1.heap.size ≤ wr.heap.size := hb.size
          have hMe : M.length ≤ A + 1 := list_le HVL.out hA hinv.nodup hinv.reach
          have HMN := Lib.hid hMN
          clear hown hinv hkm hb hMN
          by_cases hkl : k < ch.length
          · have hn3 : ch.length ≤ 1048576 := HL3.out
            have hkI : (0 : Int) ≤ (k : Int) ∧ (k : Int) < (ch.length : Int) := by omega
            obtain ⟨b3, off3, rfl, _, hb3, hcc⟩ := (HSK.out.later HBQ.out (by have := HHI.out; omega)).at k hkl
            rw [Nat.mul_one] at hcc
            have hcc0 := open_Int hcc
            have HRC := Lib.hid (HRK.out _ (getD_mem hkl))
            obtain ⟨aM, cM, rfl, hslM⟩ := ints_sl HOM.out
            have HH := Lib.hid (spec_l1HasInt (cap := cM) M (by omega) (ch.getD k default) wr hslM)
            have HGS := Lib.hid (show ∀ (Q : List Int), (∀ y ∈ M, y ∈ Q) → ch.getD k default ∈ Q → ∀ t, t < k + 1 → ch.getD t default ∈ Q from fun Q h1 h2 t ht => by
              by_cases htk : t = k
              · subst htk; exact h2
              · exact h1 _ (HKM.out t (by omega)))
            clear hcc hslM
            generalize ch.getD k default = cc at *
            go_wp2_with fail
            refine HH.out.mono ?_
            rintro e w5 ⟨rfl, rfl⟩
            cases hh : hasI M cc
            · have HNM := Lib.hid (hasI_no hh)
              clear hh
              go_wp2_with (at_builtin; refine wpList_append_own _ rfl (.tmp 51) (.tmp 56) 37 rfl (w1.heap.size) 3 i0 (.int .i64 0) 1 8 Tryd.underlying37 hi' hz0 hz1 hz2 rfl (by decide) _ _ _ rfl (HOM.out.alloc _) ⟨wr.heap.size, 0, none⟩ 1 1 [.int .i64 cc] rfl rfl (cell_one_new _ _ _) (by intro u hu; simp at hu; subst hu; rfl) (by unfold maxLen; omega) (by omega) (by simp <;> omega) ?_; intro v' w2 hown' hgrow hnil)
              have R1 := Lib.hid (grown_one (l := M) (x := cc) (vals := vQ) hown' rfl)
              have R2 := Lib.hid (HIM.out.add HNM.out HRC.out)
              have R3 := Lib.hid (show Below w1.heap.size w1 w2 from (HBQ.out.alloc hzq _).grown hgrow (by simp <;> omega) (fun g hg => (HOM.out.lt g hg).1))
              have R4 := Lib.hid (HGS.out (M ++ [cc]) (fun y hy => List.mem_append_left _ hy) (List.mem_append_right _ (List.mem_singleton.2 rfl)))
              clear hown' hgrow hnil
              go_wp2
              go_roundw
              case rel => exact ⟨k + 1, M ++ [cc], by omega, by go_num, R1.out, R2.out, ⟨N ++ [cc], by rw [HMN.out, List.append_assoc]⟩, R4.out, R3.out⟩
              case measure => simp [intOf]; omega
            · have R4 := Lib.hid (HGS.out M (fun y hy => hy) (hasI_yes hh))
              clear hh
              go_wp2
              go_roundw
              case rel => exact ⟨k + 1, M, by omega, by go_num, HOM.out, HIM.out, ⟨N, HMN.out⟩, R4.out, HBQ.out⟩
              case measure => simp [intOf]; omega
          · obtain rfl : k = ch.length := by omega
            have R4 := Lib.hid (show doneTo l M (p + 1) from by
              rw [HMN.out]
              refine HGR.out N fun c hcc => ?_
              rw [← HMN.out]
              obtain ⟨t, ht, rfl⟩ := List.getElem_of_mem hcc
              have := HKM.out t ht
              rw [List.getD_eq_getElem?_getD, List.getElem?_eq_getElem ht] at this
              exact this)
            have hpM : p + 1 ≤ M.length := by rw [HMN.out, List.length_append]; omega
            go_wp2
            go_roundw
            case rel => exact ⟨p + 1, M, hpM, by go_num, HOM.out, HIM.out, R4.out, HBQ.out⟩
            case measure => simp [intOf]; omega
      · obtain rfl : p = L.length := by omega
        obtain ⟨aL, cL, rfl, _⟩ := ints_sl HO.out
        have HCN := Lib.hid (list_cnt HVL.out hA HI.out.nodup HI.out.self HI.out.reach HD.out.all)
        go_wp2
        go_ret
        exact ⟨ret_i (by rw [FIN.out, HCN.out]), HBT.out⟩
  · have hr : inR i 0 ((l.length : Int) - 1) = false := inR_no (by omega)
    have FIN := Lib.hid (shared_no2 hin)
    rw [hr]
    clear hr
    go_wp2
    go_ret
    exact ⟨ret_i FIN.out.symm, HB1.out⟩
end Go.Proofs.YtjlcbbaicengbaaDoor
