/-
  The law FnExactWithout: for every two lists of strings the program's Without returns what the model's returns, in memory of its own at each call, and writes into no argument. No condition.
-/
import Derived.Test.YtlgddglhnnagpaaWithA
import Derived.Test.YtlgddglhnnagpaaStrsEq
import Derived.Test.YtlgddglhnnagpaaStrsSz
import Derived.Test.YtlgddglhnnagpaaStrsTo
import Derived.SizedLaws
namespace Go.Proofs.Ytlgddglhnnagpaa.fnExactWithout
open Go.ChangeShapes Go.WideShapes Go.ChangeAt Go.RowKit Go.WideMaps Go.WideElems
open Go.ChangeMaps (open_string)
open Go.Lib

set_option maxHeartbeats 1600000 in
set_option maxRecDepth 100000 in
theorem walk {ass : Option Addr} {capss : Nat} (ss : List ByteArray) (hlss : ss.length ≤ 9223372036854775807) {ars : Option Addr} {caprs : Nat} (rs : List ByteArray) (hlrs : rs.length ≤ 9223372036854775807) (w : World) (hsss : Strs w.heap.size w ass ss) (hsrs : Strs w.heap.size w ars rs) :
    Calls Try.prog 12 #[.slice ass ss.length capss, .slice ars rs.length caprs] w fun e w' => e = .returned (.bool true) ∧ Below w.heap.size w w' := by
  have HSss := Lib.hid hsss
  have HSrs := Lib.hid hsrs
  clear hsss hsrs
  by_cases hfitss : (ss.length : Int) + sumSize ss ≤ 1048576
  · have hzss := szStringS (cap := capss) ss (1048576) (by omega) (by omega) hlss w HSss.out
    rw [show szR (1048576) ss = 1048576 - ss.length - sumSize ss from by unfold szR; rw [if_pos hfitss]] at hzss
    have HZss := Lib.hid hzss
    clear hzss
    by_cases hfitrs : (rs.length : Int) + sumSize rs ≤ 1048576 - ss.length - sumSize ss
    · have hzrs := szStringS (cap := caprs) rs (1048576 - ss.length - sumSize ss) (by omega) (by omega) hlrs w HSrs.out
      rw [show szR (1048576 - ss.length - sumSize ss) rs = 1048576 - ss.length - sumSize ss - rs.length - sumSize rs from by unfold szR; rw [if_pos hfitrs]] at hzrs
      have HZrs := Lib.hid hzrs
      clear hzrs
      go_enter Try.func12, Try.ntmps12
      go_wp2_with fail
      refine (HZss.out).mono ?_
      rintro e w' ⟨rfl, rfl⟩
      go_wp2_with fail
      refine (HZrs.out).mono ?_
      rintro e w' ⟨rfl, rfl⟩
      go_wp2_with fail
      refine (toStringS ss (by omega) _ (Nat.le_refl _) HSss.out).mono ?_
      rintro e w1 ⟨g1, rfl, hg1, ho1, hb1⟩
      have lw1 : w.heap.size ≤ g1 := Nat.le_trans (Below.refl w.heap.size w).size hg1
      have HB1 := Lib.hid ((Below.refl w.heap.size w).trans (hb1.mono (Below.refl w.heap.size w).size))
      have Fp1 := Lib.hid ho1
      clear ho1 hb1 hg1
      go_wp2_with fail
      refine (toStringS rs (by omega) _ HB1.out.size (HSrs.out.below HB1.out)).mono ?_
      rintro e w2 ⟨g2, rfl, hg2, ho2, hb2⟩
      have lt1_2 : g1 < g2 := Nat.lt_of_lt_of_le Fp1.out.lt hg2
      have lw2 : w.heap.size ≤ g2 := Nat.le_trans HB1.out.size hg2
      have Fp2 := Lib.hid (Fp1.out.later hb2)
      have HB2 := Lib.hid (HB1.out.trans (hb2.mono HB1.out.size))
      have Fr2 := Lib.hid ho2
      clear ho2 hb2 hg2
      have hwl : (wo rs ss).length ≤ 1048576 := by have := wo_length rs ss; omega
      have hws : sumSize (wo rs ss) ≤ 1048576 := by have := wo_sum rs ss; omega
      go_wp2_with fail
      refine (spec_Without ss rs (by omega) (by omega) _ (Nat.le_refl _) (Fp2.out.strs (by omega)) (Fr2.out.strs (by omega))).mono ?_
      rintro e w3 ⟨g3, cap3, rfl, hg3, ho3, hb3⟩
      have lt1_3 : g1 < g3 := Nat.lt_of_lt_of_le Fp2.out.lt hg3
      have lt2_3 : g2 < g3 := Nat.lt_of_lt_of_le Fr2.out.lt hg3
      have lw3 : w.heap.size ≤ g3 := Nat.le_trans HB2.out.size hg3
      have Fp3 := Lib.hid (Fp2.out.later hb3)
      have Fr3 := Lib.hid (Fr2.out.later hb3)
      have HB3 := Lib.hid (HB2.out.trans (hb3.mono HB2.out.size))
      have Fw3 := Lib.hid ho3
      clear ho3 hb3 hg3
      go_wp2_with fail
      refine (toStringS ss (by omega) _ HB3.out.size (HSss.out.below HB3.out)).mono ?_
      rintro e w4 ⟨g4, rfl, hg4, ho4, hb4⟩
      have lt1_4 : g1 < g4 := Nat.lt_of_lt_of_le Fp3.out.lt hg4
      have lt2_4 : g2 < g4 := Nat.lt_of_lt_of_le Fr3.out.lt hg4
      have lt3_4 : g3 < g4 := Nat.lt_of_lt_of_le Fw3.out.lt hg4
      have lw4 : w.heap.size ≤ g4 := Nat.le_trans HB3.out.size hg4
      have Fp4 := Lib.hid (Fp3.out.later hb4)
      have Fr4 := Lib.hid (Fr3.out.later hb4)
      have Fw4 := Lib.hid (Fw3.out.later hb4)
      have HB4 := Lib.hid (HB3.out.trans (hb4.mono HB3.out.size))
      have Fx4 := Lib.hid ho4
      clear ho4 hb4 hg4
      go_wp2_with fail
      refine (toStringS rs (by omega) _ HB4.out.size (HSrs.out.below HB4.out)).mono ?_
      rintro e w5 ⟨g5, rfl, hg5, ho5, hb5⟩
      have lt1_5 : g1 < g5 := Nat.lt_of_lt_of_le Fp4.out.lt hg5
      have lt2_5 : g2 < g5 := Nat.lt_of_lt_of_le Fr4.out.lt hg5
      have lt3_5 : g3 < g5 := Nat.lt_of_lt_of_le Fw4.out.lt hg5
      have lt4_5 : g4 < g5 := Nat.lt_of_lt_of_le Fx4.out.lt hg5
      have lw5 : w.heap.size ≤ g5 := Nat.le_trans HB4.out.size hg5
      have Fp5 := Lib.hid (Fp4.out.later hb5)
      have Fr5 := Lib.hid (Fr4.out.later hb5)
      have Fw5 := Lib.hid (Fw4.out.later hb5)
      have Fx5 := Lib.hid (Fx4.out.later hb5)
      have HB5 := Lib.hid (HB4.out.trans (hb5.mono HB4.out.size))
      have Fy5 := Lib.hid ho5
      clear ho5 hb5 hg5
      go_wp2_with fail
      refine (impl_WithoutA ss rs (by omega) (by omega) (by omega) (by omega) _ (Nat.le_refl _) (Fx5.out.strs (by omega)) (Fy5.out.strs (by omega))).mono ?_
      rintro e w6 ⟨a6, cap6, rfl, ho6, hb6⟩
      have lt1_6 : g1 < w5.heap.size := Fp5.out.lt
      have lt2_6 : g2 < w5.heap.size := Fr5.out.lt
      have lt3_6 : g3 < w5.heap.size := Fw5.out.lt
      have lt4_6 : g4 < w5.heap.size := Fx5.out.lt
      have lt5_6 : g5 < w5.heap.size := Fy5.out.lt
      have lw6 : w.heap.size ≤ w5.heap.size := HB5.out.size
      obtain ⟨B6, eB6⟩ : ∃ B, B = w5.heap.size := ⟨_, rfl⟩
      rw [← eB6] at ho6 lw6 lt1_6 lt2_6 lt3_6 lt4_6 lt5_6
      clear eB6
      have Fp6 := Lib.hid (Fp5.out.later hb6)
      have Fr6 := Lib.hid (Fr5.out.later hb6)
      have Fw6 := Lib.hid (Fw5.out.later hb6)
      have Fx6 := Lib.hid (Fx5.out.later hb6)
      have Fy6 := Lib.hid (Fy5.out.later hb6)
      have HB6 := Lib.hid (HB5.out.trans (hb6.mono HB5.out.size))
      have Fz6 := Lib.hid ho6
      clear ho6 hb6
      go_wp2_with fail
      refine (eqStringS (wo rs ss) (by omega) _ (Fz6.out.strs (by omega)) (Fw6.out.strs (by omega))).mono ?_
      rintro e w7 ⟨rfl, hb7⟩
      have Fp7 := Lib.hid (Fp6.out.later hb7)
      have Fr7 := Lib.hid (Fr6.out.later hb7)
      have Fw7 := Lib.hid (Fw6.out.later hb7)
      have Fx7 := Lib.hid (Fx6.out.later hb7)
      have Fy7 := Lib.hid (Fy6.out.later hb7)
      have Fz7 := Lib.hid (Fz6.out.later hb7)
      have HB7 := Lib.hid (HB6.out.trans (hb7.mono HB6.out.size))
      clear hb7
      go_wp2_with fail
      refine (toStringS ss (by omega) _ HB7.out.size (HSss.out.below HB7.out)).mono ?_
      rintro e w8 ⟨g8, rfl, hg8, ho8, hb8⟩
      have lt1_8 : g1 < g8 := Nat.lt_of_lt_of_le Fp7.out.lt hg8
      have lt2_8 : g2 < g8 := Nat.lt_of_lt_of_le Fr7.out.lt hg8
      have lt3_8 : g3 < g8 := Nat.lt_of_lt_of_le Fw7.out.lt hg8
      have lt4_8 : g4 < g8 := Nat.lt_of_lt_of_le Fx7.out.lt hg8
      have lt5_8 : g5 < g8 := Nat.lt_of_lt_of_le Fy7.out.lt hg8
      have lw8 : w.heap.size ≤ g8 := Nat.le_trans HB7.out.size hg8
      have Fp8 := Lib.hid (Fp7.out.later hb8)
      have Fr8 := Lib.hid (Fr7.out.later hb8)
      have Fw8 := Lib.hid (Fw7.out.later hb8)
      have Fx8 := Lib.hid (Fx7.out.later hb8)
      have Fy8 := Lib.hid (Fy7.out.later hb8)
      have Fz8 := Lib.hid (Fz7.out.later hb8)
      have HB8 := Lib.hid (HB7.out.trans (hb8.mono HB7.out.size))
      have Fq8 := Lib.hid ho8
      clear ho8 hb8 hg8
      go_wp2_with fail
      refine (eqStringS (ss) (by omega) _ (Fx8.out.strs (by omega)) (Fq8.out.strs (by omega))).mono ?_
      rintro e w9 ⟨rfl, hb9⟩
      have Fp9 := Lib.hid (Fp8.out.later hb9)
      have Fr9 := Lib.hid (Fr8.out.later hb9)
      have Fw9 := Lib.hid (Fw8.out.later hb9)
      have Fx9 := Lib.hid (Fx8.out.later hb9)
      have Fy9 := Lib.hid (Fy8.out.later hb9)
      have Fz9 := Lib.hid (Fz8.out.later hb9)
      have Fq9 := Lib.hid (Fq8.out.later hb9)
      have HB9 := Lib.hid (HB8.out.trans (hb9.mono HB8.out.size))
      clear hb9
      go_wp2_with fail
      refine (toStringS rs (by omega) _ HB9.out.size (HSrs.out.below HB9.out)).mono ?_
      rintro e w10 ⟨g10, rfl, hg10, ho10, hb10⟩
      have lt1_10 : g1 < g10 := Nat.lt_of_lt_of_le Fp9.out.lt hg10
      have lt2_10 : g2 < g10 := Nat.lt_of_lt_of_le Fr9.out.lt hg10
      have lt3_10 : g3 < g10 := Nat.lt_of_lt_of_le Fw9.out.lt hg10
      have lt4_10 : g4 < g10 := Nat.lt_of_lt_of_le Fx9.out.lt hg10
      have lt5_10 : g5 < g10 := Nat.lt_of_lt_of_le Fy9.out.lt hg10
      have lt8_10 : g8 < g10 := Nat.lt_of_lt_of_le Fq9.out.lt hg10
      have lw10 : w.heap.size ≤ g10 := Nat.le_trans HB9.out.size hg10
      have Fp10 := Lib.hid (Fp9.out.later hb10)
      have Fr10 := Lib.hid (Fr9.out.later hb10)
      have Fw10 := Lib.hid (Fw9.out.later hb10)
      have Fx10 := Lib.hid (Fx9.out.later hb10)
      have Fy10 := Lib.hid (Fy9.out.later hb10)
      have Fz10 := Lib.hid (Fz9.out.later hb10)
      have Fq10 := Lib.hid (Fq9.out.later hb10)
      have HB10 := Lib.hid (HB9.out.trans (hb10.mono HB9.out.size))
      have Fu10 := Lib.hid ho10
      clear ho10 hb10 hg10
      go_wp2_with fail
      refine (eqStringS (rs) (by omega) _ (Fy10.out.strs (by omega)) (Fu10.out.strs (by omega))).mono ?_
      rintro e w11 ⟨rfl, hb11⟩
      have Fp11 := Lib.hid (Fp10.out.later hb11)
      have Fr11 := Lib.hid (Fr10.out.later hb11)
      have Fw11 := Lib.hid (Fw10.out.later hb11)
      have Fx11 := Lib.hid (Fx10.out.later hb11)
      have Fy11 := Lib.hid (Fy10.out.later hb11)
      have Fz11 := Lib.hid (Fz10.out.later hb11)
      have Fq11 := Lib.hid (Fq10.out.later hb11)
      have Fu11 := Lib.hid (Fu10.out.later hb11)
      have HB11 := Lib.hid (HB10.out.trans (hb11.mono HB10.out.size))
      clear hb11
      go_wp2_with fail
      refine (markStringS ss (by omega) 1 (by decide) (by decide) _ Fx11.out).mono ?_
      rintro e w12 ⟨rfl, ho12, hw12⟩
      have hbw12 : Below w.heap.size w11 w12 := (hw12.below Fx11.out.lt).mono lw4
      have Fp12 := Lib.hid (Fp11.out.writes hw12 (by omega))
      have Fr12 := Lib.hid (Fr11.out.writes hw12 (by omega))
      have Fw12 := Lib.hid (Fw11.out.writes hw12 (by omega))
      have Fx12 := Lib.hid (ho12)
      have Fy12 := Lib.hid (Fy11.out.writes hw12 (by omega))
      have Fz12 := Lib.hid (Fz11.out.writes hw12 (by omega))
      have Fq12 := Lib.hid (Fq11.out.writes hw12 (by omega))
      have Fu12 := Lib.hid (Fu11.out.writes hw12 (by omega))
      have HB12 := Lib.hid (HB11.out.trans hbw12)
      clear ho12 hw12 hbw12
      rw [show ((1 : Nat) : Int) + (ss.length : Int) = ((1 + ss.length : Nat) : Int) from by omega]
      go_wp2_with fail
      refine (markStringS rs (by omega) (1 + ss.length) (by omega) (by omega) _ Fy12.out).mono ?_
      rintro e w13 ⟨rfl, ho13, hw13⟩
      have hbw13 : Below w.heap.size w12 w13 := (hw13.below Fy12.out.lt).mono lw5
      have Fp13 := Lib.hid (Fp12.out.writes hw13 (by omega))
      have Fr13 := Lib.hid (Fr12.out.writes hw13 (by omega))
      have Fw13 := Lib.hid (Fw12.out.writes hw13 (by omega))
      have Fx13 := Lib.hid (Fx12.out.writes hw13 (by omega))
      have Fy13 := Lib.hid (ho13)
      have Fz13 := Lib.hid (Fz12.out.writes hw13 (by omega))
      have Fq13 := Lib.hid (Fq12.out.writes hw13 (by omega))
      have Fu13 := Lib.hid (Fu12.out.writes hw13 (by omega))
      have HB13 := Lib.hid (HB12.out.trans hbw13)
      clear ho13 hw13 hbw13
      go_wp2_with fail
      refine (eqStringS (wo rs ss) (by omega) _ (Fz13.out.strs (by omega)) (Fw13.out.strs (by omega))).mono ?_
      rintro e w14 ⟨rfl, hb14⟩
      have Fp14 := Lib.hid (Fp13.out.later hb14)
      have Fr14 := Lib.hid (Fr13.out.later hb14)
      have Fw14 := Lib.hid (Fw13.out.later hb14)
      have Fx14 := Lib.hid (Fx13.out.later hb14)
      have Fy14 := Lib.hid (Fy13.out.later hb14)
      have Fz14 := Lib.hid (Fz13.out.later hb14)
      have Fq14 := Lib.hid (Fq13.out.later hb14)
      have Fu14 := Lib.hid (Fu13.out.later hb14)
      have HB14 := Lib.hid (HB13.out.trans (hb14.mono HB13.out.size))
      clear hb14
      go_wp2_with fail
      refine (markA (wo rs ss) (by omega) 1 (by decide) (by decide) _ Fz14.out).mono ?_
      rintro e w15 ⟨rfl, ho15, hw15⟩
      have hbw15 : Below w.heap.size w14 w15 := hw15.mono (by have := HB14.out.size; omega)
      have Fp15 := Lib.hid (Fp14.out.belowB hw15 (by have := Fp14.out.lt; omega))
      have Fr15 := Lib.hid (Fr14.out.belowB hw15 (by have := Fr14.out.lt; omega))
      have Fw15 := Lib.hid (Fw14.out.belowB hw15 (by have := Fw14.out.lt; omega))
      have Fx15 := Lib.hid (Fx14.out.belowB hw15 (by have := Fx14.out.lt; omega))
      have Fy15 := Lib.hid (Fy14.out.belowB hw15 (by have := Fy14.out.lt; omega))
      have Fz15 := Lib.hid (ho15)
      have HB15 := Lib.hid (HB14.out.trans hbw15)
      clear ho15 hw15 hbw15
      go_wp2_with fail
      refine (heldA (wo rs ss).length (by omega) 1 (by decide) (by decide) _ Fz15.out).mono ?_
      rintro e w16 ⟨rfl, hb16⟩
      have Fp16 := Lib.hid (Fp15.out.later hb16)
      have Fr16 := Lib.hid (Fr15.out.later hb16)
      have Fw16 := Lib.hid (Fw15.out.later hb16)
      have Fx16 := Lib.hid (Fx15.out.later hb16)
      have Fy16 := Lib.hid (Fy15.out.later hb16)
      have Fz16 := Lib.hid (Fz15.out.later hb16)
      have HB16 := Lib.hid (HB15.out.trans (hb16.mono HB15.out.size))
      clear hb16
      go_wp2_with fail
      refine (toStringS ss (by omega) _ HB16.out.size (HSss.out.below HB16.out)).mono ?_
      rintro e w17 ⟨g17, rfl, hg17, ho17, hb17⟩
      have lt1_17 : g1 < g17 := Nat.lt_of_lt_of_le Fp16.out.lt hg17
      have lt2_17 : g2 < g17 := Nat.lt_of_lt_of_le Fr16.out.lt hg17
      have lt3_17 : g3 < g17 := Nat.lt_of_lt_of_le Fw16.out.lt hg17
      have lt4_17 : g4 < g17 := Nat.lt_of_lt_of_le Fx16.out.lt hg17
      have lt5_17 : g5 < g17 := Nat.lt_of_lt_of_le Fy16.out.lt hg17
      have lw17 : w.heap.size ≤ g17 := Nat.le_trans HB16.out.size hg17
      have Fp17 := Lib.hid (Fp16.out.later hb17)
      have Fr17 := Lib.hid (Fr16.out.later hb17)
      have Fw17 := Lib.hid (Fw16.out.later hb17)
      have Fx17 := Lib.hid (Fx16.out.later hb17)
      have Fy17 := Lib.hid (Fy16.out.later hb17)
      have Fz17 := Lib.hid (Fz16.out.later hb17)
      have HB17 := Lib.hid (HB16.out.trans (hb17.mono HB16.out.size))
      have Fs17 := Lib.hid ho17
      clear ho17 hb17 hg17
      go_wp2_with fail
      refine (toStringS rs (by omega) _ HB17.out.size (HSrs.out.below HB17.out)).mono ?_
      rintro e w18 ⟨g18, rfl, hg18, ho18, hb18⟩
      have lt1_18 : g1 < g18 := Nat.lt_of_lt_of_le Fp17.out.lt hg18
      have lt2_18 : g2 < g18 := Nat.lt_of_lt_of_le Fr17.out.lt hg18
      have lt3_18 : g3 < g18 := Nat.lt_of_lt_of_le Fw17.out.lt hg18
      have lt4_18 : g4 < g18 := Nat.lt_of_lt_of_le Fx17.out.lt hg18
      have lt5_18 : g5 < g18 := Nat.lt_of_lt_of_le Fy17.out.lt hg18
      have lt17_18 : g17 < g18 := Nat.lt_of_lt_of_le Fs17.out.lt hg18
      have lw18 : w.heap.size ≤ g18 := Nat.le_trans HB17.out.size hg18
      have Fp18 := Lib.hid (Fp17.out.later hb18)
      have Fr18 := Lib.hid (Fr17.out.later hb18)
      have Fw18 := Lib.hid (Fw17.out.later hb18)
      have Fx18 := Lib.hid (Fx17.out.later hb18)
      have Fy18 := Lib.hid (Fy17.out.later hb18)
      have Fz18 := Lib.hid (Fz17.out.later hb18)
      have Fs18 := Lib.hid (Fs17.out.later hb18)
      have HB18 := Lib.hid (HB17.out.trans (hb18.mono HB17.out.size))
      have Ft18 := Lib.hid ho18
      clear ho18 hb18 hg18
      go_wp2_with fail
      refine (impl_WithoutA ss rs (by omega) (by omega) (by omega) (by omega) _ (Nat.le_refl _) (Fs18.out.strs (by omega)) (Ft18.out.strs (by omega))).mono ?_
      rintro e w19 ⟨a19, cap19, rfl, ho19, hb19⟩
      have lt1_19 : g1 < w18.heap.size := Fp18.out.lt
      have lt2_19 : g2 < w18.heap.size := Fr18.out.lt
      have lt3_19 : g3 < w18.heap.size := Fw18.out.lt
      have lt4_19 : g4 < w18.heap.size := Fx18.out.lt
      have lt5_19 : g5 < w18.heap.size := Fy18.out.lt
      have lt17_19 : g17 < w18.heap.size := Fs18.out.lt
      have lt18_19 : g18 < w18.heap.size := Ft18.out.lt
      have lw19 : w.heap.size ≤ w18.heap.size := HB18.out.size
      obtain ⟨B19, eB19⟩ : ∃ B, B = w18.heap.size := ⟨_, rfl⟩
      rw [← eB19] at ho19 lw19 lt1_19 lt2_19 lt3_19 lt4_19 lt5_19 lt17_19 lt18_19
      clear eB19
      have Fp19 := Lib.hid (Fp18.out.later hb19)
      have Fr19 := Lib.hid (Fr18.out.later hb19)
      have Fw19 := Lib.hid (Fw18.out.later hb19)
      have Fx19 := Lib.hid (Fx18.out.later hb19)
      have Fy19 := Lib.hid (Fy18.out.later hb19)
      have Fz19 := Lib.hid (Fz18.out.later hb19)
      have Fs19 := Lib.hid (Fs18.out.later hb19)
      have Ft19 := Lib.hid (Ft18.out.later hb19)
      have HB19 := Lib.hid (HB18.out.trans (hb19.mono HB18.out.size))
      have Fh19 := Lib.hid ho19
      clear ho19 hb19
      go_wp2_with fail
      refine (eqStringS (wo rs ss) (by omega) _ (Fh19.out.strs (by omega)) (Fw19.out.strs (by omega))).mono ?_
      rintro e w20 ⟨rfl, hb20⟩
      have Fp20 := Lib.hid (Fp19.out.later hb20)
      have Fr20 := Lib.hid (Fr19.out.later hb20)
      have Fw20 := Lib.hid (Fw19.out.later hb20)
      have Fx20 := Lib.hid (Fx19.out.later hb20)
      have Fy20 := Lib.hid (Fy19.out.later hb20)
      have Fz20 := Lib.hid (Fz19.out.later hb20)
      have Fs20 := Lib.hid (Fs19.out.later hb20)
      have Ft20 := Lib.hid (Ft19.out.later hb20)
      have Fh20 := Lib.hid (Fh19.out.later hb20)
      have HB20 := Lib.hid (HB19.out.trans (hb20.mono HB19.out.size))
      clear hb20
      go_wp2_with fail
      refine (heldA (wo rs ss).length (by omega) 1 (by decide) (by decide) _ Fz20.out).mono ?_
      rintro e w21 ⟨rfl, hb21⟩
      have Fp21 := Lib.hid (Fp20.out.later hb21)
      have Fr21 := Lib.hid (Fr20.out.later hb21)
      have Fw21 := Lib.hid (Fw20.out.later hb21)
      have Fx21 := Lib.hid (Fx20.out.later hb21)
      have Fy21 := Lib.hid (Fy20.out.later hb21)
      have Fz21 := Lib.hid (Fz20.out.later hb21)
      have Fs21 := Lib.hid (Fs20.out.later hb21)
      have Ft21 := Lib.hid (Ft20.out.later hb21)
      have Fh21 := Lib.hid (Fh20.out.later hb21)
      have HB21 := Lib.hid (HB20.out.trans (hb21.mono HB20.out.size))
      clear hb21
      go_wp2
      go_ret
      exact ⟨rfl, HB21.out⟩
    · have hzrs := szStringS (cap := caprs) rs (1048576 - ss.length - sumSize ss) (by omega) (by omega) hlrs w HSrs.out
      rw [show szR (1048576 - ss.length - sumSize ss) rs = -1 from by unfold szR; rw [if_neg hfitrs]] at hzrs
      have HZrs := Lib.hid hzrs
      clear hzrs
      go_enter Try.func12, Try.ntmps12
      go_wp2_with fail
      refine HZss.out.mono ?_
      rintro e w' ⟨rfl, rfl⟩
      go_wp2_with fail
      refine HZrs.out.mono ?_
      rintro e w' ⟨rfl, rfl⟩
      go_wp2
      go_ret
      exact ⟨rfl, Below.refl _ _⟩
  · have hzss := szStringS (cap := capss) ss (1048576) (by omega) (by omega) hlss w HSss.out
    rw [show szR (1048576) ss = -1 from by unfold szR; rw [if_neg hfitss]] at hzss
    have HZss := Lib.hid hzss
    clear hzss
    go_enter Try.func12, Try.ntmps12
    go_wp2_with fail
    refine HZss.out.mono ?_
    rintro e w' ⟨rfl, rfl⟩
    go_wp2
    go_ret
    exact ⟨rfl, Below.refl _ _⟩


set_option maxRecDepth 100000 in
theorem lifted (os : Os) (started : os.Started) (H : Type) (enc : TypeId × Value → H) :
    ReturnsInHanded {} Try.checked os 12 .any (Rows.fnExactWithoutSpec.pre6 enc Try.prog Try.f12 Rows.fnExactWithoutRow.domain false) (Rows.fnExactWithoutSpec.post enc Try.prog Try.f12 false true false false) := by
  refine returnsInHanded_of_change_sized (C := Try.checked) own started (by kernel_rfl) Try.func12
    (ChangeSpec.witness6 (enc := enc) (C := Try.checked) false ⟨#[], #[.slice none 0 0, .slice none 0 0], []⟩ 8 (by kernel_rfl) (by kernel_rfl) (by kernel_rfl) (by kernel_rfl)) ?_
  intro W base args ds gs before hval0 hW _ hsz0 _
  have hval : ∀ (j : Nat) t v, Try.f12.params[j]? = some t → args[j]? = some v → Value.okWide Try.prog W .any base t v := hval0
  obtain ⟨p, q, hA0, hV, hps, hfz, hnd⟩ := id hW
  have hA : DataW.TrodAll enc Try.prog W 0 (fun _ => true) true Try.f12.params.toList args.toList ds p := hA0
  have hsz : (DataW.weightsEach Try.prog (Try.f12.params.toList ++ Rows.fnExactWithoutSpec.plain.varTypes Try.prog) (ds ++ gs)).all (· ≤ reachBytes) = true := hsz0
  rw [Try.params12] at hA hval hsz
  obtain ⟨v0, vs0, d0, ds0, p0, q0, hargs, rfl, rfl, h0, r0⟩ := trodAll_cons hA
  obtain ⟨v1, vs1, d1, ds1, p1, q1, rfl, rfl, rfl, h1, r1⟩ := trodAll_cons r0
  obtain ⟨rfl, rfl, rfl⟩ := trodAll_nil r1
  obtain rfl : args = #[v0, v1] := by cases args; simp_all
  obtain ⟨a0, len0, cap0, rfl⟩ := okWide_slice Try.underlying24 (hval 0 24 v0 rfl rfl)
  obtain ⟨l0, ss, rfl, c0⟩ := strs_of_trod Try.underlying24 Try.underlying9 (by kernel_rfl) h0
  unfold maxLen at l0
  obtain ⟨a1, len1, cap1, rfl⟩ := okWide_slice Try.underlying24 (hval 1 24 v1 rfl rfl)
  obtain ⟨l1, rs, rfl, c1⟩ := strs_of_trod Try.underlying24 Try.underlying9 (by kernel_rfl) h1
  unfold maxLen at l1
  refine (walk ss l0 rs l1 W c0 c1).mono fun e W' ⟨he, hg⟩ => ?_
  subst he
  exact ⟨_, rfl, law_post laidOut (by kernel_rfl) rfl Try.underlying4 rfl rfl hW hg⟩

theorem said : Rows.FnExactWithoutSaid :=
  OpenClaim.holds_of_wide 12 Try.f12 rfl rfl rfl rfl rfl rfl rfl ⟨rfl, rfl, rfl, rfl, rfl⟩ rfl rfl rfl rfl rfl (by kernel_rfl) Try.func12 (by kernel_rfl)
    (of_decide_eq_true (by kernel_rfl)) (by unfold Func.isWrapper; first | (rw [if_pos (by decide +kernel)]; kernel_rfl) | (rw [if_neg (by decide +kernel)]; exact ⟨rfl, rfl⟩))
    (fun os started H enc _ => lifted os started H enc)

#print axioms said
end Go.Proofs.Ytlgddglhnnagpaa.fnExactWithout
