/-
  Chapter 8: IsValidAttribute, in the model and in the program; the laws' own helpers on an attribute.
  OccurrenceIndex, in the model and in the program.
  FindAttribute, in the model and in the program.
-/
import Derived.Test.YtmbaajangkmjdaaGreatZz7
import Derived.Test.YtmbaajangkmjdaaGreatZz5
set_option maxHeartbeats 1600000
set_option maxRecDepth 100000
namespace Go.Proofs.YtmbaajangkmjdaaGreat
open Go.ChangeShapes Go.WideShapes Go.ChangeAt Go.RowKit
def zji (ty md:Int) (c:Bool):Bool:=inR ty 1 4 && inR md 1 3 && (if md=3 then ty == 2 && !c else !c || ty == 2)
def zow (nm:ByteArray) (ty md:Int) (c:Bool):Bool:=zi nm && zji ty md c
theorem zr7 {ty md:Int} {c:Bool} (h:inR ty 1 4=false):zji ty md c=false:=by unfold zji;rw [h];rfl
theorem zu3 {ty md:Int} {c:Bool} (h:inR md 1 3=false):zji ty md c=false:=by unfold zji;rw [h,Bool.and_false];rfl
theorem zvh {ty md:Int} {c:Bool} (h:inR ty 1 4=true) (hm:md=1∨md=2):zji ty md c=(!c || ty == 2):=by
 unfold zji
 rw [h,if_neg (by omega),zc5 (by omega) (by omega)];rfl
theorem zub {ty:Int} {c:Bool} (h:inR ty 1 4=true):zji ty 3 c=(ty == 2 && !c):=by
 unfold zji
 rw [h,if_pos rfl];rfl
theorem zt2 {nm:ByteArray} {ty md:Int} {c:Bool} (h:zi nm=false):zow nm ty md c=false:=by unfold zow;rw [h];rfl
theorem zsk {nm:ByteArray} {ty md:Int} {c:Bool} (h:zi nm=true):zow nm ty md c=zji ty md c:=by unfold zow;rw [h];rfl
theorem zry (n:Int) (w:World) :
  Calls Tryz.prog 146 #[.int .i64 n] w fun e w'=>e = .returned (.bool (inR n 1 4))∧w=w':=by
 rcases (by omega:n < 1∨(1≤n∧4 < n)∨(1≤n∧n≤4)) with h|⟨h,h'⟩|⟨h,h'⟩
 ·go_enter Tryz.func146,Tryz.ntmps146
  go_wp2;go_ret
  exact ⟨zh (by rw [zcy (Or.inl h)]),rfl⟩
 ·go_enter Tryz.func146,Tryz.ntmps146
  go_wp2;go_ret
  exact ⟨zh (by rw [zcy (Or.inr h'),decide_eq_false (by omega)]),rfl⟩
 ·go_enter Tryz.func146,Tryz.ntmps146
  go_wp2;go_ret
  exact ⟨zh (by rw [zc5 h h']),rfl⟩
theorem zjc (nm:ByteArray) (ty md:Int) (c:Bool) (w:World) :
  Calls Tryz.prog 115 #[.agg #[.string nm,.int .i64 ty,.int .i64 md,.bool c]] w fun e w'=>e = .returned (.bool (zji ty md c))∧Below w.heap.size w w':=by
 have HB0:=yq ((Below.refl w.heap.size w).alloc (Nat.le_refl _) (.cells #[.string nm,.int .i64 ty,.int .i64 md,.bool c] 44))
 have BS0:=yq (show w.heap.size < (w.alloc (.cells #[.string nm,.int .i64 ty,.int .i64 md,.bool c] 44)).heap.size by simp)
 have BX0_0:=yq (show (w.alloc (.cells #[.string nm,.int .i64 ty,.int .i64 md,.bool c] 44)).cell? ⟨w.heap.size,0,none⟩=some (.string nm) by rw [World.cell?_alloc_new];rfl)
 have BX0_1:=yq (show (w.alloc (.cells #[.string nm,.int .i64 ty,.int .i64 md,.bool c] 44)).cell? ⟨w.heap.size,1,none⟩=some (.int .i64 ty) by rw [World.cell?_alloc_new];rfl)
 have BX0_2:=yq (show (w.alloc (.cells #[.string nm,.int .i64 ty,.int .i64 md,.bool c] 44)).cell? ⟨w.heap.size,2,none⟩=some (.int .i64 md) by rw [World.cell?_alloc_new];rfl)
 have BX0_3:=yq (show (w.alloc (.cells #[.string nm,.int .i64 ty,.int .i64 md,.bool c] 44)).cell? ⟨w.heap.size,3,none⟩=some (.bool c) by rw [World.cell?_alloc_new];rfl)
 have hT:=fun w=>zry ty w
 rcases (by omega:(md < 1∨3 < md)∨(md=1∨md=2)∨md=3) with hm|hm|hm
 ·have fin:=yq (zu3 (ty:=ty) (c:=c) (zcy hm))
  have e1:(md == 1)=false:=beq_eq_false_iff_ne.2 (by omega)
  have e2:(md == 2)=false:=beq_eq_false_iff_ne.2 (by omega)
  have e3:(md == 3)=false:=beq_eq_false_iff_ne.2 (by omega)
  clear hT hm
  go_enter Tryz.func115,Tryz.ntmps115
  go_wp2;go_ret;exact ⟨zh fin.out.symm,HB0.out⟩
 ·cases ht:inR ty 1 4
  ·rw [ht] at hT
   have fin:=yq (zr7 (md:=md) (c:=c) ht);have HT:=yq hT;clear hT ht
   rcases hm with rfl|rfl
   all_goals
    go_enter Tryz.func115,Tryz.ntmps115
    (go_wp2_with fail);refine (HT.out _).mono ?_;rintro e w' ⟨rfl,rfl⟩;go_wp2;go_ret;exact ⟨zh fin.out.symm,HB0.out⟩
  ·rw [ht] at hT
   have fin:=yq (zvh (c:=c) ht hm);have HT:=yq hT;clear hT ht
   by_cases h2:ty=2
   ·subst h2
    rcases hm with rfl|rfl
    all_goals
     cases c
     all_goals
      go_enter Tryz.func115,Tryz.ntmps115
      (go_wp2_with fail);refine (HT.out _).mono ?_;rintro e w' ⟨rfl,rfl⟩;go_wp2;go_ret;exact ⟨zh fin.out.symm,HB0.out⟩
   ·have t2:(ty == 2)=false:=beq_eq_false_iff_ne.2 h2
    clear h2
    rcases hm with rfl|rfl
    all_goals
     cases c
     all_goals
      rw [t2] at fin
      go_enter Tryz.func115,Tryz.ntmps115
      (go_wp2_with fail);refine (HT.out _).mono ?_;rintro e w' ⟨rfl,rfl⟩;go_wp2;go_ret;exact ⟨zh fin.out.symm,HB0.out⟩
 ·subst hm
  by_cases h2:ty=2
  ·subst h2
   have fin:=yq (zub (ty:=2) (c:=c) rfl)
   rw [show inR 2 1 4=true from rfl] at hT
   have HT:=yq hT;clear hT
   cases c
   ·go_enter Tryz.func115,Tryz.ntmps115
    (go_wp2_with fail);refine (HT.out _).mono ?_;rintro e w' ⟨rfl,rfl⟩;go_wp2;go_ret;exact ⟨zh fin.out.symm,HB0.out⟩
   ·go_enter Tryz.func115,Tryz.ntmps115
    go_wp2;go_ret;exact ⟨zh fin.out.symm,HB0.out⟩
  ·have fin:Hid (zji ty 3 c=false):=by
    show _=_
    cases ht:inR ty 1 4
    ·exact zr7 ht
    ·rw [zub ht,beq_eq_false_iff_ne.2 h2];rfl
   have t2:(ty == 2)=false:=beq_eq_false_iff_ne.2 h2;have t3:(ty != 2)=true:=bne_iff_ne.2 h2;clear hT h2
   go_enter Tryz.func115,Tryz.ntmps115
   go_wp2;go_ret;exact ⟨zh fin.out.symm,HB0.out⟩
theorem zep (nm:ByteArray) (ty md:Int) (c:Bool) (hz:nm.size≤1048576) (w:World) :
  Calls Tryz.prog 77 #[.agg #[.string nm,.int .i64 ty,.int .i64 md,.bool c]] w fun e w'=>e = .returned (.bool (zow nm ty md c))∧Below w.heap.size w w':=by
 have HB0:=yq ((Below.refl w.heap.size w).alloc (Nat.le_refl _) (.cells #[.string nm,.int .i64 ty,.int .i64 md,.bool c] 44))
 have BS0:=yq (show w.heap.size < (w.alloc (.cells #[.string nm,.int .i64 ty,.int .i64 md,.bool c] 44)).heap.size by simp)
 have BX0_0:=yq (show (w.alloc (.cells #[.string nm,.int .i64 ty,.int .i64 md,.bool c] 44)).cell? ⟨w.heap.size,0,none⟩=some (.string nm) by rw [World.cell?_alloc_new];rfl)
 have BX0_1:=yq (show (w.alloc (.cells #[.string nm,.int .i64 ty,.int .i64 md,.bool c] 44)).cell? ⟨w.heap.size,1,none⟩=some (.int .i64 ty) by rw [World.cell?_alloc_new];rfl)
 have BX0_2:=yq (show (w.alloc (.cells #[.string nm,.int .i64 ty,.int .i64 md,.bool c] 44)).cell? ⟨w.heap.size,2,none⟩=some (.int .i64 md) by rw [World.cell?_alloc_new];rfl)
 have BX0_3:=yq (show (w.alloc (.cells #[.string nm,.int .i64 ty,.int .i64 md,.bool c] 44)).cell? ⟨w.heap.size,3,none⟩=some (.bool c) by rw [World.cell?_alloc_new];rfl)
 have hN:=fun w=>zai nm hz w
 cases hv:zi nm
 ·rw [hv] at hN
  have fin:=yq (zt2 (ty:=ty) (md:=md) (c:=c) hv);have HN:=yq hN;clear hN hv
  go_enter Tryz.func77,Tryz.ntmps77
  (go_wp2_with fail);refine (HN.out _).mono ?_;rintro e w1 ⟨rfl,hb1⟩;have bs1:w.heap.size < w1.heap.size:=Nat.lt_of_lt_of_le BS0.out hb1.size;have bx1_0:w1.cell? ⟨w.heap.size,0,none⟩=some _:=(hb1.cell (p:=⟨w.heap.size,0,none⟩) BS0.out).trans BX0_0.out;have bx1_1:w1.cell? ⟨w.heap.size,1,none⟩=some _:=(hb1.cell (p:=⟨w.heap.size,1,none⟩) BS0.out).trans BX0_1.out;have bx1_2:w1.cell? ⟨w.heap.size,2,none⟩=some _:=(hb1.cell (p:=⟨w.heap.size,2,none⟩) BS0.out).trans BX0_2.out;have bx1_3:w1.cell? ⟨w.heap.size,3,none⟩=some _:=(hb1.cell (p:=⟨w.heap.size,3,none⟩) BS0.out).trans BX0_3.out;have HB1:=yq (HB0.out.trans (hb1.mono HB0.out.size));clear hb1;go_wp2;go_ret;exact ⟨zh fin.out.symm,HB1.out⟩
 ·rw [hv] at hN
  have fin:=yq (zsk (ty:=ty) (md:=md) (c:=c) hv);have HN:=yq hN;clear hN hv
  go_enter Tryz.func77,Tryz.ntmps77
  (go_wp2_with fail);refine (HN.out _).mono ?_;rintro e w1 ⟨rfl,hb1⟩;have bs1:w.heap.size < w1.heap.size:=Nat.lt_of_lt_of_le BS0.out hb1.size;have bx1_0:w1.cell? ⟨w.heap.size,0,none⟩=some _:=(hb1.cell (p:=⟨w.heap.size,0,none⟩) BS0.out).trans BX0_0.out;have bx1_1:w1.cell? ⟨w.heap.size,1,none⟩=some _:=(hb1.cell (p:=⟨w.heap.size,1,none⟩) BS0.out).trans BX0_1.out;have bx1_2:w1.cell? ⟨w.heap.size,2,none⟩=some _:=(hb1.cell (p:=⟨w.heap.size,2,none⟩) BS0.out).trans BX0_2.out;have bx1_3:w1.cell? ⟨w.heap.size,3,none⟩=some _:=(hb1.cell (p:=⟨w.heap.size,3,none⟩) BS0.out).trans BX0_3.out;have HB1:=yq (HB0.out.trans (hb1.mono HB0.out.size));clear hb1;(go_wp2_with fail);refine (zjc nm ty md c _).mono ?_;rintro e w2 ⟨rfl,hb2⟩;have bs2:w.heap.size < w2.heap.size:=Nat.lt_of_lt_of_le bs1 hb2.size;have bx2_0:w2.cell? ⟨w.heap.size,0,none⟩=some _:=(hb2.cell (p:=⟨w.heap.size,0,none⟩) bs1).trans bx1_0;have bx2_1:w2.cell? ⟨w.heap.size,1,none⟩=some _:=(hb2.cell (p:=⟨w.heap.size,1,none⟩) bs1).trans bx1_1;have bx2_2:w2.cell? ⟨w.heap.size,2,none⟩=some _:=(hb2.cell (p:=⟨w.heap.size,2,none⟩) bs1).trans bx1_2;have bx2_3:w2.cell? ⟨w.heap.size,3,none⟩=some _:=(hb2.cell (p:=⟨w.heap.size,3,none⟩) bs1).trans bx1_3;clear bs1 bx1_0 bx1_1 bx1_2 bx1_3;have HB2:=yq (HB1.out.trans (hb2.mono HB1.out.size));clear hb2;go_wp2;go_ret;exact ⟨zh fin.out.symm,HB2.out⟩
theorem ze6 (nm:ByteArray) (ty md:Int) (c:Bool) (hz:nm.size≤1048576) (w:World) :
  Calls Tryz.prog 62 #[.agg #[.string nm,.int .i64 ty,.int .i64 md,.bool c]] w fun e w'=>e = .returned (.bool (zow nm ty md c))∧Below w.heap.size w w':=by
 have HB0:=yq ((Below.refl w.heap.size w).alloc (Nat.le_refl _) (.cells #[.string nm,.int .i64 ty,.int .i64 md,.bool c] 44))
 have BS0:=yq (show w.heap.size < (w.alloc (.cells #[.string nm,.int .i64 ty,.int .i64 md,.bool c] 44)).heap.size by simp)
 have BX0_0:=yq (show (w.alloc (.cells #[.string nm,.int .i64 ty,.int .i64 md,.bool c] 44)).cell? ⟨w.heap.size,0,none⟩=some (.string nm) by rw [World.cell?_alloc_new];rfl)
 have BX0_1:=yq (show (w.alloc (.cells #[.string nm,.int .i64 ty,.int .i64 md,.bool c] 44)).cell? ⟨w.heap.size,1,none⟩=some (.int .i64 ty) by rw [World.cell?_alloc_new];rfl)
 have BX0_2:=yq (show (w.alloc (.cells #[.string nm,.int .i64 ty,.int .i64 md,.bool c] 44)).cell? ⟨w.heap.size,2,none⟩=some (.int .i64 md) by rw [World.cell?_alloc_new];rfl)
 have BX0_3:=yq (show (w.alloc (.cells #[.string nm,.int .i64 ty,.int .i64 md,.bool c] 44)).cell? ⟨w.heap.size,3,none⟩=some (.bool c) by rw [World.cell?_alloc_new];rfl)
 have hN:=fun w=>zag nm hz w
 have hT:=fun w=>zaf ty 1 4 w
 have hM:=fun w=>zaf md 1 3 w
 cases hv:zi nm
 ·rw [hv] at hN
  have fin:=yq (zt2 (ty:=ty) (md:=md) (c:=c) hv);have HN:=yq hN;clear hN hv hT hM
  go_enter Tryz.func62,Tryz.ntmps62
  (go_wp2_with fail);refine (HN.out _).mono ?_;rintro e w1 ⟨rfl,hb1⟩;have bs1:w.heap.size < w1.heap.size:=Nat.lt_of_lt_of_le BS0.out hb1.size;have bx1_0:w1.cell? ⟨w.heap.size,0,none⟩=some _:=(hb1.cell (p:=⟨w.heap.size,0,none⟩) BS0.out).trans BX0_0.out;have bx1_1:w1.cell? ⟨w.heap.size,1,none⟩=some _:=(hb1.cell (p:=⟨w.heap.size,1,none⟩) BS0.out).trans BX0_1.out;have bx1_2:w1.cell? ⟨w.heap.size,2,none⟩=some _:=(hb1.cell (p:=⟨w.heap.size,2,none⟩) BS0.out).trans BX0_2.out;have bx1_3:w1.cell? ⟨w.heap.size,3,none⟩=some _:=(hb1.cell (p:=⟨w.heap.size,3,none⟩) BS0.out).trans BX0_3.out;have HB1:=yq (HB0.out.trans (hb1.mono HB0.out.size));clear hb1;go_wp2;go_ret;exact ⟨zh fin.out.symm,HB1.out⟩
 ·rw [hv] at hN
  rw [zsk hv];have HN:=yq hN;clear hN hv
  cases ht:inR ty 1 4
  ·rw [ht] at hT
   have fin:=yq (zr7 (md:=md) (c:=c) ht);have HT:=yq hT;clear hT ht hM
   go_enter Tryz.func62,Tryz.ntmps62
   (go_wp2_with fail);refine (HN.out _).mono ?_;rintro e w1 ⟨rfl,hb1⟩;have bs1:w.heap.size < w1.heap.size:=Nat.lt_of_lt_of_le BS0.out hb1.size;have bx1_0:w1.cell? ⟨w.heap.size,0,none⟩=some _:=(hb1.cell (p:=⟨w.heap.size,0,none⟩) BS0.out).trans BX0_0.out;have bx1_1:w1.cell? ⟨w.heap.size,1,none⟩=some _:=(hb1.cell (p:=⟨w.heap.size,1,none⟩) BS0.out).trans BX0_1.out;have bx1_2:w1.cell? ⟨w.heap.size,2,none⟩=some _:=(hb1.cell (p:=⟨w.heap.size,2,none⟩) BS0.out).trans BX0_2.out;have bx1_3:w1.cell? ⟨w.heap.size,3,none⟩=some _:=(hb1.cell (p:=⟨w.heap.size,3,none⟩) BS0.out).trans BX0_3.out;have HB1:=yq (HB0.out.trans (hb1.mono HB0.out.size));clear hb1;(go_wp2_with fail);refine (HT.out _).mono ?_;rintro e w' ⟨rfl,rfl⟩;go_wp2;go_ret;exact ⟨zh fin.out.symm,HB1.out⟩
  ·cases hm:inR md 1 3
   ·rw [ht] at hT
    rw [hm] at hM;have fin:=yq (zu3 (ty:=ty) (c:=c) hm);have HT:=yq hT;have HM:=yq hM;clear hT ht hM hm
    go_enter Tryz.func62,Tryz.ntmps62
    (go_wp2_with fail);refine (HN.out _).mono ?_;rintro e w1 ⟨rfl,hb1⟩;have bs1:w.heap.size < w1.heap.size:=Nat.lt_of_lt_of_le BS0.out hb1.size;have bx1_0:w1.cell? ⟨w.heap.size,0,none⟩=some _:=(hb1.cell (p:=⟨w.heap.size,0,none⟩) BS0.out).trans BX0_0.out;have bx1_1:w1.cell? ⟨w.heap.size,1,none⟩=some _:=(hb1.cell (p:=⟨w.heap.size,1,none⟩) BS0.out).trans BX0_1.out;have bx1_2:w1.cell? ⟨w.heap.size,2,none⟩=some _:=(hb1.cell (p:=⟨w.heap.size,2,none⟩) BS0.out).trans BX0_2.out;have bx1_3:w1.cell? ⟨w.heap.size,3,none⟩=some _:=(hb1.cell (p:=⟨w.heap.size,3,none⟩) BS0.out).trans BX0_3.out;have HB1:=yq (HB0.out.trans (hb1.mono HB0.out.size));clear hb1;(go_wp2_with fail);refine (HT.out _).mono ?_;rintro e w' ⟨rfl,rfl⟩;(go_wp2_with fail);refine (HM.out _).mono ?_;rintro e w' ⟨rfl,rfl⟩;go_wp2;go_ret;exact ⟨zh fin.out.symm,HB1.out⟩
   ·have hr:=zhw.1 hm
    rw [hm] at hM
    rcases (by omega:(md=1∨md=2)∨md=3) with h12|rfl
    ·have fin:=yq (zvh (c:=c) ht h12)
     rw [ht] at hT;have HT:=yq hT;have HM:=yq hM;clear hT ht hM hm hr
     by_cases h2:ty=2
     ·subst h2
      rcases h12 with rfl|rfl
      all_goals
       cases c
       all_goals
        go_enter Tryz.func62,Tryz.ntmps62
        (go_wp2_with fail);refine (HN.out _).mono ?_;rintro e w1 ⟨rfl,hb1⟩;have bs1:w.heap.size < w1.heap.size:=Nat.lt_of_lt_of_le BS0.out hb1.size;have bx1_0:w1.cell? ⟨w.heap.size,0,none⟩=some _:=(hb1.cell (p:=⟨w.heap.size,0,none⟩) BS0.out).trans BX0_0.out;have bx1_1:w1.cell? ⟨w.heap.size,1,none⟩=some _:=(hb1.cell (p:=⟨w.heap.size,1,none⟩) BS0.out).trans BX0_1.out;have bx1_2:w1.cell? ⟨w.heap.size,2,none⟩=some _:=(hb1.cell (p:=⟨w.heap.size,2,none⟩) BS0.out).trans BX0_2.out;have bx1_3:w1.cell? ⟨w.heap.size,3,none⟩=some _:=(hb1.cell (p:=⟨w.heap.size,3,none⟩) BS0.out).trans BX0_3.out;have HB1:=yq (HB0.out.trans (hb1.mono HB0.out.size));clear hb1;(go_wp2_with fail);refine (HT.out _).mono ?_;rintro e w' ⟨rfl,rfl⟩;(go_wp2_with fail);refine (HM.out _).mono ?_;rintro e w' ⟨rfl,rfl⟩;go_wp2;go_ret;exact ⟨zh fin.out.symm,HB1.out⟩
     ·have t2:(ty == 2)=false:=beq_eq_false_iff_ne.2 h2
      clear h2;rw [t2] at fin
      rcases h12 with rfl|rfl
      all_goals
       cases c
       all_goals
        go_enter Tryz.func62,Tryz.ntmps62
        (go_wp2_with fail);refine (HN.out _).mono ?_;rintro e w1 ⟨rfl,hb1⟩;have bs1:w.heap.size < w1.heap.size:=Nat.lt_of_lt_of_le BS0.out hb1.size;have bx1_0:w1.cell? ⟨w.heap.size,0,none⟩=some _:=(hb1.cell (p:=⟨w.heap.size,0,none⟩) BS0.out).trans BX0_0.out;have bx1_1:w1.cell? ⟨w.heap.size,1,none⟩=some _:=(hb1.cell (p:=⟨w.heap.size,1,none⟩) BS0.out).trans BX0_1.out;have bx1_2:w1.cell? ⟨w.heap.size,2,none⟩=some _:=(hb1.cell (p:=⟨w.heap.size,2,none⟩) BS0.out).trans BX0_2.out;have bx1_3:w1.cell? ⟨w.heap.size,3,none⟩=some _:=(hb1.cell (p:=⟨w.heap.size,3,none⟩) BS0.out).trans BX0_3.out;have HB1:=yq (HB0.out.trans (hb1.mono HB0.out.size));clear hb1;(go_wp2_with fail);refine (HT.out _).mono ?_;rintro e w' ⟨rfl,rfl⟩;(go_wp2_with fail);refine (HM.out _).mono ?_;rintro e w' ⟨rfl,rfl⟩;go_wp2;go_ret;exact ⟨zh fin.out.symm,HB1.out⟩
    ·have fin:=yq (zub (c:=c) ht)
     rw [ht] at hT;have HT:=yq hT;have HM:=yq hM;clear hT ht hM hm hr
     by_cases h2:ty=2
     ·subst h2
      cases c
      all_goals
       go_enter Tryz.func62,Tryz.ntmps62
       (go_wp2_with fail);refine (HN.out _).mono ?_;rintro e w1 ⟨rfl,hb1⟩;have bs1:w.heap.size < w1.heap.size:=Nat.lt_of_lt_of_le BS0.out hb1.size;have bx1_0:w1.cell? ⟨w.heap.size,0,none⟩=some _:=(hb1.cell (p:=⟨w.heap.size,0,none⟩) BS0.out).trans BX0_0.out;have bx1_1:w1.cell? ⟨w.heap.size,1,none⟩=some _:=(hb1.cell (p:=⟨w.heap.size,1,none⟩) BS0.out).trans BX0_1.out;have bx1_2:w1.cell? ⟨w.heap.size,2,none⟩=some _:=(hb1.cell (p:=⟨w.heap.size,2,none⟩) BS0.out).trans BX0_2.out;have bx1_3:w1.cell? ⟨w.heap.size,3,none⟩=some _:=(hb1.cell (p:=⟨w.heap.size,3,none⟩) BS0.out).trans BX0_3.out;have HB1:=yq (HB0.out.trans (hb1.mono HB0.out.size));clear hb1;(go_wp2_with fail);refine (HT.out _).mono ?_;rintro e w' ⟨rfl,rfl⟩;(go_wp2_with fail);refine (HM.out _).mono ?_;rintro e w' ⟨rfl,rfl⟩;go_wp2;go_ret;exact ⟨zh fin.out.symm,HB1.out⟩
     ·have t2:(ty == 2)=false:=beq_eq_false_iff_ne.2 h2
      have t3:(ty != 2)=true:=bne_iff_ne.2 h2;rw [t2] at fin;clear h2
      go_enter Tryz.func62,Tryz.ntmps62
      (go_wp2_with fail);refine (HN.out _).mono ?_;rintro e w1 ⟨rfl,hb1⟩;have bs1:w.heap.size < w1.heap.size:=Nat.lt_of_lt_of_le BS0.out hb1.size;have bx1_0:w1.cell? ⟨w.heap.size,0,none⟩=some _:=(hb1.cell (p:=⟨w.heap.size,0,none⟩) BS0.out).trans BX0_0.out;have bx1_1:w1.cell? ⟨w.heap.size,1,none⟩=some _:=(hb1.cell (p:=⟨w.heap.size,1,none⟩) BS0.out).trans BX0_1.out;have bx1_2:w1.cell? ⟨w.heap.size,2,none⟩=some _:=(hb1.cell (p:=⟨w.heap.size,2,none⟩) BS0.out).trans BX0_2.out;have bx1_3:w1.cell? ⟨w.heap.size,3,none⟩=some _:=(hb1.cell (p:=⟨w.heap.size,3,none⟩) BS0.out).trans BX0_3.out;have HB1:=yq (HB0.out.trans (hb1.mono HB0.out.size));clear hb1;(go_wp2_with fail);refine (HT.out _).mono ?_;rintro e w' ⟨rfl,rfl⟩;(go_wp2_with fail);refine (HM.out _).mono ?_;rintro e w' ⟨rfl,rfl⟩;go_wp2;go_ret;exact ⟨zh fin.out.symm,HB1.out⟩
end Go.Proofs.YtmbaajangkmjdaaGreat
namespace Go.Proofs.YtmbaajangkmjdaaGreat
open Go.ChangeShapes Go.WideShapes Go.ChangeAt Go.RowKit Go.Deep
theorem zdd {x y:ByteArray} (h:x.toList=y.toList):x=y:=by
 rw [Lib.toList_data,Lib.toList_data] at h
 cases x;cases y
 simp only at h
 rw [ByteArray.mk.injEq];exact Array.toList_inj.1 h
def zbx (x y:DOccurrence):Bool:=y.fb == x.fb && y.fa.toList == x.fa.toList
theorem ze2 {x y:DOccurrence} (h1:y.fb=x.fb) (h2:y.fa=x.fa):zbx x y=true:=by unfold zbx;rw [h1,h2];simp
theorem ze3 {x y:DOccurrence} (h1:y.fb≠x.fb):zbx x y=false:=by unfold zbx;simp [h1]
theorem zem {x y:DOccurrence} (h1:y.fa≠x.fa):zbx x y=false:=by
 unfold zbx
 rw [show (y.fa.toList == x.fa.toList)=false from beq_eq_false_iff_ne.2 (fun e=>h1 (zdd e)),Bool.and_false]
theorem zqv {x y:ByteArray} (h:x.toList=y.toList):x=y:=by
 rw [Lib.toList_data,Lib.toList_data] at h
 cases x;cases y
 simp only at h
 rw [ByteArray.mk.injEq];exact Array.toList_inj.1 h
def zh1 (nm:ByteArray) (y:DAttribute):Bool:=y.fa.toList == nm.toList
theorem zp0 {nm:ByteArray} {y:DAttribute} (h:y.fa=nm):zh1 nm y=true:=by unfold zh1;rw [h];simp
theorem zjt {nm:ByteArray} {y:DAttribute} (h:y.fa≠nm):zh1 nm y=false:=beq_eq_false_iff_ne.2 (fun e=>h (zqv e))
def zjz:DAttribute:=⟨⟨#[]⟩,0,0,false⟩
def zax (s:DSymbol) (nm:ByteArray):DAttribute × Bool:=if 0≤idxI (zh1 nm) s.fu then (s.fu.getD (idxI (zh1 nm) s.fu).toNat default,true) else (zjz,false)
theorem zlp {s:DSymbol} {nm:ByteArray} {k:Nat} (h:idxI (zh1 nm) s.fu=k):zax s nm=(s.fu.getD k default,true):=by unfold zax;rw [h,if_pos (by omega),Int.toNat_natCast]
theorem zgj {s:DSymbol} {nm:ByteArray} (h:idxI (zh1 nm) s.fu = -1):zax s nm=(zjz,false):=by unfold zax;rw [h,if_neg (by omega)]
theorem zj1 {v:Value} {x y:DAttribute × Bool} (h:x=y) (hv:v = .tuple #[.agg #[.string y.1.fa,.int .i64 y.1.fk,.int .i64 y.1.fv,.bool y.1.fx],.bool y.2]):Ending.returned v = .returned (.tuple #[.agg #[.string x.1.fa,.int .i64 x.1.fk,.int .i64 x.1.fv,.bool x.1.fx],.bool x.2]):=by rw [hv,h]
theorem zf6 {lo hi:Nat} {a1:Option Addr} {c0_0:Nat} (s:DSymbol) (hn:s.fu.length≤1048576) (nm:ByteArray) (w:World) (hhi:hi≤w.heap.size) (hs:Sl lo hi w 4 s.fu.length (fun k=>DAttribute.ct (s.fu.getD k default)) a1) :
  Calls Tryz.prog 141 #[.agg #[.string s.fa,.slice a1 s.fu.length c0_0],.string nm] w fun e w'=>e = .returned (.tuple #[.agg #[.string (zax s nm).1.fa,.int .i64 (zax s nm).1.fk,.int .i64 (zax s nm).1.fv,.bool (zax s nm).1.fx],.bool (zax s nm).2])∧Below w.heap.size w w':=by
 have HB:=yq (((Below.refl w.heap.size w).alloc (Nat.le_refl _) (.cells #[.string s.fa,.slice a1 s.fu.length c0_0] 42)).alloc (by simp) (.cells #[.string ⟨#[]⟩,.int .i64 0,.int .i64 0,.bool false] 44))
 have HS:=yq (hs.later HB.out hhi);clear hs
 go_enter Tryz.func141,Tryz.ntmps141
 go_wp2
 go_loop [6] (fun i=>∃ k:Nat,k≤s.fu.length∧i = .int .i64 (k:Int)∧zah (zh1 nm) s.fu k) (fun i=>s.fu.length - (intOf i).toNat)
 case atStart=>exact ⟨0,Nat.zero_le _,rfl,zx _ _⟩
 case round =>
  obtain ⟨k,hk,rfl,hno⟩:=hrel;have HN:=yq hno;clear hno
  by_cases hlt:k < s.fu.length
  ·obtain ⟨b,off,rfl,_,_,hc⟩:=HS.out.at k hlt
   obtain ⟨hc0,hc1,hc2,hc3⟩:=DAttribute.open hc;clear hc
   by_cases he:(s.fu.getD k default).fa=nm
   ·have fin:=yq (zlp (zdh (p:=zh1 nm) hlt (zp0 he) HN.out))
    have hc0':=hc0;rw [he] at hc0;have HE:=yq he;clear he hc0'
    have FR:=yq (fun (v:Value) (hv:v = .tuple #[.agg #[.string (s.fu.getD k default).fa,.int .i64 (s.fu.getD k default).fk,.int .i64 (s.fu.getD k default).fv,.bool (s.fu.getD k default).fx],.bool true])=>zj1 fin.out hv)
    generalize hx:s.fu.getD k default=x at hc1 hc2 hc3 HE FR;clear fin hx;go_wp2
    exact bodyPost_ret (v:=.tuple #[.agg #[.string nm,.int .i64 x.fk,.int .i64 x.fv,.bool x.fx],.bool true]) (by simp [results,Tryz.results141,go_sem]) rfl ⟨FR.out _ (by rw [← HE.out]),by
     repeat (first|(with_reducible exact HB.out)|(with_reducible exact Below.refl _ _)|(refine Below.setCell ?_ ye _)|(refine Below.alloc ?_ ye _))⟩
   ·have HN2:=yq (zt HN.out (k:=k) (zjt he))
    have e2:((s.fu.getD k default).fa.toList == nm.toList)=false:=zjt he;clear he hc1 hc2 hc3;generalize (s.fu.getD k default).fa=q at *;go_wp2
    go_round
    case rel=>exact ⟨k+1,by omega,by go_num,HN2.out⟩
    case measure=>simp [intOf];omega
  ·obtain rfl:k=s.fu.length:=by omega
   have fin:=yq (zgj (zbh (p:=zh1 nm) HN.out));go_wp2
   exact bodyPost_ret (v:=.tuple #[.agg #[.string ⟨#[]⟩,.int .i64 0,.int .i64 0,.bool false],.bool false]) (by simp [results,Tryz.results141,go_sem]) rfl ⟨zj1 fin.out rfl,by
    repeat (first|(with_reducible exact HB.out)|(with_reducible exact Below.refl _ _)|(refine Below.setCell ?_ ye _)|(refine Below.alloc ?_ ye _))⟩
theorem zgb {lo hi:Nat} {a1:Option Addr} {c0_0:Nat} (s:DSymbol) (hn:s.fu.length≤1048576) (nm:ByteArray) (w:World) (hhi:hi≤w.heap.size) (hs:Sl lo hi w 4 s.fu.length (fun k=>DAttribute.ct (s.fu.getD k default)) a1) :
  Calls Tryz.prog 130 #[.agg #[.string s.fa,.slice a1 s.fu.length c0_0],.string nm] w fun e w'=>e = .returned (.tuple #[.agg #[.string (zax s nm).1.fa,.int .i64 (zax s nm).1.fk,.int .i64 (zax s nm).1.fv,.bool (zax s nm).1.fx],.bool (zax s nm).2])∧Below w.heap.size w w':=by
 have HB:=yq (((Below.refl w.heap.size w).alloc (Nat.le_refl _) (.cells #[.string s.fa,.slice a1 s.fu.length c0_0] 42)).alloc (by simp) (.cells #[.string ⟨#[]⟩,.int .i64 0,.int .i64 0,.bool false] 44))
 have HBZ:=yq (show w.heap.size+1 < ((w.alloc (.cells #[.string s.fa,.slice a1 s.fu.length c0_0] 42)).alloc (.cells #[.string ⟨#[]⟩,.int .i64 0,.int .i64 0,.bool false] 44)).heap.size by simp)
 have HG:=yq (show ((w.alloc (.cells #[.string s.fa,.slice a1 s.fu.length c0_0] 42)).alloc (.cells #[.string ⟨#[]⟩,.int .i64 0,.int .i64 0,.bool false] 44)).heap[w.heap.size+1]? = some (.cells #[.string ⟨#[]⟩,.int .i64 0,.int .i64 0,.bool false] 44) from ze (by simp))
 have HS:=yq (hs.later HB.out hhi);have HH:=yq (Nat.le_trans hhi HB.out.size);clear hs
 go_enter Tryz.func130,Tryz.ntmps130
 go_wp2
 go_loopw [11] (fun i wr=>∃ k:Nat,k≤s.fu.length∧i = .int .i64 (k:Int)∧zah (zh1 nm) s.fu k∧Below ((w.alloc (.cells #[.string s.fa,.slice a1 s.fu.length c0_0] 42)).alloc (.cells #[.string ⟨#[]⟩,.int .i64 0,.int .i64 0,.bool false] 44)).heap.size ((w.alloc (.cells #[.string s.fa,.slice a1 s.fu.length c0_0] 42)).alloc (.cells #[.string ⟨#[]⟩,.int .i64 0,.int .i64 0,.bool false] 44)) wr) (fun i _=>s.fu.length - (intOf i).toNat)
 case atStart=>exact ⟨0,Nat.zero_le _,rfl,zx _ _,Below.refl _ _⟩
 case round =>
  obtain ⟨k,hk,rfl,hno,hbl⟩:=hrel;have HN:=yq hno;clear hno;have HBL:=yq hbl;have hz:w.heap.size+1 < wr.heap.size:=Nat.lt_of_lt_of_le HBZ.out hbl.size;have HGR:=yq ((hbl.block _ HBZ.out).trans HG.out)
  have g0:wr.cell? ⟨w.heap.size+1,0,none⟩=some (.string ⟨#[]⟩):=(hbl.cell (p:=⟨w.heap.size+1,0,none⟩) HBZ.out).trans (by go_simp)
  have g1:wr.cell? ⟨w.heap.size+1,1,none⟩=some (.int .i64 0):=(hbl.cell (p:=⟨w.heap.size+1,1,none⟩) HBZ.out).trans (by go_simp)
  have g2:wr.cell? ⟨w.heap.size+1,2,none⟩=some (.int .i64 0):=(hbl.cell (p:=⟨w.heap.size+1,2,none⟩) HBZ.out).trans (by go_simp)
  have g3:wr.cell? ⟨w.heap.size+1,3,none⟩=some (.bool false):=(hbl.cell (p:=⟨w.heap.size+1,3,none⟩) HBZ.out).trans (by go_simp)
  have f0:wr.frozen? ⟨w.heap.size+1,0,none⟩=false:=(hbl.frozen (p:=⟨w.heap.size+1,0,none⟩) HBZ.out).trans (by go_simp)
  have f1:wr.frozen? ⟨w.heap.size+1,1,none⟩=false:=(hbl.frozen (p:=⟨w.heap.size+1,1,none⟩) HBZ.out).trans (by go_simp)
  have f2:wr.frozen? ⟨w.heap.size+1,2,none⟩=false:=(hbl.frozen (p:=⟨w.heap.size+1,2,none⟩) HBZ.out).trans (by go_simp)
  have f3:wr.frozen? ⟨w.heap.size+1,3,none⟩=false:=(hbl.frozen (p:=⟨w.heap.size+1,3,none⟩) HBZ.out).trans (by go_simp)
  have HFIN:=yq (HB.out.trans (hbl.mono HB.out.size))
  by_cases hlt:k < s.fu.length
  ·obtain ⟨b,off,rfl,_,_,hc⟩:=(HS.out.later hbl HH.out).at k hlt
   obtain ⟨hc0,hc1,hc2,hc3⟩:=DAttribute.open hc;clear hc hbl
   by_cases he:(s.fu.getD k default).fa=nm
   ·have fin:=yq (zlp (zdh (p:=zh1 nm) hlt (zp0 he) HN.out))
    rw [he] at hc0;have HE:=yq he;clear he
    have FR:=yq (fun (v:Value) (hv:v = .tuple #[.agg #[.string (s.fu.getD k default).fa,.int .i64 (s.fu.getD k default).fk,.int .i64 (s.fu.getD k default).fv,.bool (s.fu.getD k default).fx],.bool true])=>zj1 fin.out hv)
    generalize hx:s.fu.getD k default=x at hc1 hc2 hc3 HE FR;clear fin hx;go_wp2
    refine bodyPost_ret (v:=.tuple #[.agg #[.string nm,.int .i64 x.fk,.int .i64 x.fv,.bool x.fx],.bool true]) (zy Tryz.results130 _ _ (w.heap.size+1) 44 #[.string nm,.int .i64 x.fk,.int .i64 x.fv,.bool x.fx] (0,0) _ rfl (by (repeat (with_reducible refine zn (by simp [World.setCell];omega) ?_));refine Eq.trans (zm (cs:=#[.string nm,.int .i64 x.fk,.int .i64 x.fv,.bool false]) (t:=44) (fr:=(0,0)) ?_) rfl;refine Eq.trans (zm (cs:=#[.string nm,.int .i64 x.fk,.int .i64 0,.bool false]) (t:=44) (fr:=(0,0)) ?_) rfl;refine Eq.trans (zm (cs:=#[.string nm,.int .i64 0,.int .i64 0,.bool false]) (t:=44) (fr:=(0,0)) ?_) rfl;refine Eq.trans (zm (cs:=#[.string ⟨#[]⟩,.int .i64 0,.int .i64 0,.bool false]) (t:=44) (fr:=(0,0)) ?_) rfl;exact HGR.out) Tryz.underlying44 rfl rfl) rfl ⟨FR.out _ (by rw [← HE.out]),?_⟩
    repeat (first|(with_reducible exact HFIN.out)|(refine Below.setCell ?_ ye _)|(refine Below.alloc ?_ ye _))
   ·have HN2:=yq (zt HN.out (k:=k) (zjt he))
    have e2:((s.fu.getD k default).fa.toList == nm.toList)=false:=zjt he;clear he;generalize s.fu.getD k default=x at *;go_wp2;go_roundw
    case rel=>exact ⟨k+1,by omega,by go_num,HN2.out,by
     repeat (first|(with_reducible exact HBL.out)|(refine Below.setCell ?_ (by have:=HBL.out.size;simp at this ⊢;omega) _)|(refine Below.alloc ?_ (by have:=HBL.out.size;simp at this ⊢;omega) _))⟩
    case measure=>simp [intOf];omega
  ·obtain rfl:k=s.fu.length:=by omega
   have fin:=yq (zgj (zbh (p:=zh1 nm) HN.out));clear hbl;go_wp2
   refine bodyPost_ret (v:=.tuple #[.agg #[.string ⟨#[]⟩,.int .i64 0,.int .i64 0,.bool false],.bool false]) (zy Tryz.results130 _ _ (w.heap.size+1) 44 #[.string ⟨#[]⟩,.int .i64 0,.int .i64 0,.bool false] (0,0) _ rfl (by (repeat (with_reducible refine zn (by simp [World.setCell];omega) ?_));refine Eq.trans (zm (cs:=#[.string ⟨#[]⟩,.int .i64 0,.int .i64 0,.bool false]) (t:=44) (fr:=(0,0)) ?_) rfl;refine Eq.trans (zm (cs:=#[.string ⟨#[]⟩,.int .i64 0,.int .i64 0,.bool false]) (t:=44) (fr:=(0,0)) ?_) rfl;refine Eq.trans (zm (cs:=#[.string ⟨#[]⟩,.int .i64 0,.int .i64 0,.bool false]) (t:=44) (fr:=(0,0)) ?_) rfl;refine Eq.trans (zm (cs:=#[.string ⟨#[]⟩,.int .i64 0,.int .i64 0,.bool false]) (t:=44) (fr:=(0,0)) ?_) rfl;exact HGR.out) Tryz.underlying44 rfl rfl) rfl ⟨zj1 fin.out rfl,?_⟩
   repeat (first|(with_reducible exact HFIN.out)|(refine Below.setCell ?_ ye _)|(refine Below.alloc ?_ ye _))
end Go.Proofs.YtmbaajangkmjdaaGreat
