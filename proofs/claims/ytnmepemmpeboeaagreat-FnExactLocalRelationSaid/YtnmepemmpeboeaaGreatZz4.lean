/-
  The type Expr of the laws: its data, and the contracts of the laws' own helpers on it.
  The type Contribution of the laws: its data, and the contracts of the laws' own helpers on it.
  The type Occurrence of the laws: its data, and the contracts of the laws' own helpers on it.
  The type Equation of the laws: its data, and the contracts of the laws' own helpers on it.
  The nodes of an expression in preorder: what the program's list of nodes is, and the stack of steps from which it makes it.
-/
import Derived.Test.YtnmepemmpeboeaaGreatZz2
import Derived.WalkSpells
import Derived.WalkSmall
import Derived.WalkLawsBesides
import Derived.SliceStrings
import Derived.Deep.QuietTactic
import Derived.Deep.RegionWith
import Derived.BigQuiet
import Derived.Outline
import Derived.Laws.Rows
import Derived.Test.YtnmepemmpeboeaaGreatZz1
namespace Go.Proofs.YtnmepemmpeboeaaGreat
open Go.ChangeShapes Go.WideShapes Go.ChangeAt Go.RowKit Go.Deep

structure DExpr where
  fKind : Int
  fN : Int
  fPos : Int
  fType : Int
  fSymbol : ByteArray
  fName : ByteArray
  fArgs : List DExpr

instance : Inhabited DExpr := ⟨⟨0, 0, 0, 0, ⟨#[]⟩, ⟨#[]⟩, []⟩⟩

theorem DExpr.ind {P : DExpr → Prop} (h : ∀ x : DExpr, (∀ a ∈ x.fArgs, P a) → P x) : ∀ x, P x := fun x =>
  DExpr.rec (motive_1 := P) (motive_2 := fun l => ∀ a ∈ l, P a) (fun k n p t s m args ih => h ⟨k, n, p, t, s, m, args⟩ ih) (fun a ha => by cases ha)
    (fun e es he hes a ha => by
      rcases List.mem_cons.1 ha with rfl | ha
      · exact he
      · exact hes a ha) x

mutual
def ctX : DExpr → Nat → Ct
  | ⟨k, n, p, t, s, m, args⟩ => fun j => match j with
    | 0 => .lit (.int .i64 k)
    | 1 => .lit (.int .i64 n)
    | 2 => .lit (.int .i64 p)
    | 3 => .lit (.int .i64 t)
    | 4 => .lit (.string s)
    | 5 => .lit (.string m)
    | 6 => .sl 7 args.length (ctE args)
    | _ => .lit .nilFunc
def ctE : List DExpr → Nat → Nat → Ct
  | [] => fun _ _ => .lit .nilFunc
  | e :: es => fun k => match k with
    | 0 => ctX e
    | q + 1 => ctE es q
end

def DExpr.ct (x : DExpr) : Nat → Ct
  | 0 => .lit (.int .i64 x.fKind)
  | 1 => .lit (.int .i64 x.fN)
  | 2 => .lit (.int .i64 x.fPos)
  | 3 => .lit (.int .i64 x.fType)
  | 4 => .lit (.string x.fSymbol)
  | 5 => .lit (.string x.fName)
  | 6 => .sl 7 x.fArgs.length (ctE x.fArgs)
  | _ => .lit .nilFunc

theorem ctX_eq (x : DExpr) : ctX x = x.ct := by
  cases x
  funext j
  match j with
  | 0 => rfl
  | 1 => rfl
  | 2 => rfl
  | 3 => rfl
  | 4 => rfl
  | 5 => rfl
  | 6 => rfl
  | _ + 7 => rfl
theorem ctE_at : ∀ {l : List DExpr} {k : Nat}, k < l.length → ctE l k = (l.getD k default).ct
  | [], _, h => absurd h (Nat.not_lt_zero _)
  | e :: _, 0, _ => ctX_eq e
  | _ :: es, _ + 1, h => ctE_at (l := es) (Nat.lt_of_succ_lt_succ h)

mutual
def szX : DExpr → Nat
  | ⟨_, _, _, _, s, m, args⟩ => s.size + m.size + (args.length + szE args)
def szE : List DExpr → Nat
  | [] => 0
  | e :: es => szX e + szE es
end

def DExpr.sz (x : DExpr) : Nat := szX x
theorem szE_eq : ∀ l : List DExpr, szE l = (l.map DExpr.sz).sum
  | [] => rfl
  | e :: es => by rw [List.map_cons, List.sum_cons, ← szE_eq es]; rfl
theorem DExpr.sz_eq (x : DExpr) : x.sz = x.fSymbol.size + x.fName.size + lsz DExpr.sz x.fArgs := by
  have h : x.sz = x.fSymbol.size + x.fName.size + (x.fArgs.length + szE x.fArgs) := by cases x; rfl
  rw [h, szE_eq]
  rfl

mutual
def okX : DExpr → Prop
  | ⟨k, n, p, t, s, m, args⟩ => okI k ∧ okI n ∧ okI p ∧ okI t ∧ okS s ∧ okS m ∧ args.length ≤ 9223372036854775807 ∧ okE args
def okE : List DExpr → Prop
  | [] => True
  | e :: es => okX e ∧ okE es
end

def DExpr.ok (x : DExpr) : Prop := okX x
theorem okE_iff : ∀ l : List DExpr, okE l ↔ ∀ a ∈ l, a.ok
  | [] => ⟨fun _ a ha => (by cases ha), fun _ => trivial⟩
  | e :: es => by
    have ih := okE_iff es
    constructor
    · intro h a ha
      rcases List.mem_cons.1 ha with rfl | ha
      · exact h.1
      · exact ih.1 h.2 a ha
    · intro h
      exact ⟨h e (List.mem_cons_self ..), ih.2 fun a ha => h a (List.mem_cons_of_mem _ ha)⟩
theorem DExpr.ok_iff (x : DExpr) : x.ok ↔ okI x.fKind ∧ okI x.fN ∧ okI x.fPos ∧ okI x.fType ∧ okS x.fSymbol ∧ okS x.fName ∧ okL DExpr.ok x.fArgs := by
  have h : x.ok ↔ okI x.fKind ∧ okI x.fN ∧ okI x.fPos ∧ okI x.fType ∧ okS x.fSymbol ∧ okS x.fName ∧ x.fArgs.length ≤ 9223372036854775807 ∧ okE x.fArgs := by cases x; exact Iff.rfl
  rw [h, okE_iff]
  exact Iff.rfl
theorem getD_mem {α : Type} [Inhabited α] {l : List α} {k : Nat} (h : k < l.length) : l.getD k default ∈ l := by
  rw [List.getD_eq_getElem?_getD, List.getElem?_eq_getElem h]; exact List.getElem_mem _

theorem DExpr.open {lo hi b o : Nat} {w : World} {x : DExpr} (h : ∀ j, j < 7 → ∃ u, w.cell? ⟨b, o + j, none⟩ = some u ∧ Lies lo hi w (x.ct j) u) :
    ∃ a6 c6, w.cell? ⟨b, o, none⟩ = some (.int .i64 x.fKind) ∧ w.cell? ⟨b, o + 1, none⟩ = some (.int .i64 x.fN) ∧ w.cell? ⟨b, o + 2, none⟩ = some (.int .i64 x.fPos) ∧ w.cell? ⟨b, o + 3, none⟩ = some (.int .i64 x.fType) ∧ w.cell? ⟨b, o + 4, none⟩ = some (.string x.fSymbol) ∧ w.cell? ⟨b, o + 5, none⟩ = some (.string x.fName) ∧ w.cell? ⟨b, o + 6, none⟩ = some (.slice a6 x.fArgs.length c6) ∧ Sl lo hi w 7 x.fArgs.length (ctE x.fArgs) a6 := by
  obtain ⟨u0, hc0, hl0⟩ := h 0 (by decide)
  obtain rfl := lies_lit hl0
  obtain ⟨u1, hc1, hl1⟩ := h 1 (by decide)
  obtain rfl := lies_lit hl1
  obtain ⟨u2, hc2, hl2⟩ := h 2 (by decide)
  obtain rfl := lies_lit hl2
  obtain ⟨u3, hc3, hl3⟩ := h 3 (by decide)
  obtain rfl := lies_lit hl3
  obtain ⟨u4, hc4, hl4⟩ := h 4 (by decide)
  obtain rfl := lies_lit hl4
  obtain ⟨u5, hc5, hl5⟩ := h 5 (by decide)
  obtain rfl := lies_lit hl5
  obtain ⟨u6, hc6, hl6⟩ := h 6 (by decide)
  obtain ⟨a6, c6, rfl, hs6⟩ := lies_sl hl6
  exact ⟨a6, c6, hc0, hc1, hc2, hc3, hc4, hc5, hc6, hs6⟩

theorem opens_expr {H : Type} {enc : TypeId × Value → H} {w : World} (fuel : Nat) : Opens enc Tryz.prog w 96 7 DExpr.ct DExpr.ok fuel := by
  induction fuel using Nat.strongRecOn with | ind fuel ihf => ?_
  intro cs x h
  have hl := opens_len Tryz.underlying96 h
  obtain ⟨y0, k0, q0⟩ := opens_field Tryz.underlying96 h 0 _ rfl (ft := 3) (o := 0) (n := 1) rfl rfl (fun m _ => opens_int Tryz.underlying3 m) (by kernel_rfl)
  obtain ⟨y1, k1, q1⟩ := opens_field Tryz.underlying96 h 1 _ rfl (ft := 3) (o := 1) (n := 1) rfl rfl (fun m _ => opens_int Tryz.underlying3 m) (by kernel_rfl)
  obtain ⟨y2, k2, q2⟩ := opens_field Tryz.underlying96 h 2 _ rfl (ft := 3) (o := 2) (n := 1) rfl rfl (fun m _ => opens_int Tryz.underlying3 m) (by kernel_rfl)
  obtain ⟨y3, k3, q3⟩ := opens_field Tryz.underlying96 h 3 _ rfl (ft := 3) (o := 3) (n := 1) rfl rfl (fun m _ => opens_int Tryz.underlying3 m) (by kernel_rfl)
  obtain ⟨y4, k4, q4⟩ := opens_field Tryz.underlying96 h 4 _ rfl (ft := 9) (o := 4) (n := 1) rfl rfl (fun m _ => opens_string Tryz.underlying9 m) (by kernel_rfl)
  obtain ⟨y5, k5, q5⟩ := opens_field Tryz.underlying96 h 5 _ rfl (ft := 9) (o := 5) (n := 1) rfl rfl (fun m _ => opens_string Tryz.underlying9 m) (by kernel_rfl)
  obtain ⟨y6, k6, q6⟩ := opens_field Tryz.underlying96 h 6 _ rfl (ft := 94) (o := 6) (n := 1) rfl rfl (fun m hm => opens_slice Tryz.underlying94 (e := 96) (n := 7) (by kernel_rfl) (by decide) m (fun m2 hm2 => ihf m2 (by omega))) (by kernel_rfl)
  refine ⟨⟨y0, y1, y2, y3, y4, y5, y6⟩, (DExpr.ok_iff _).2 ⟨k0, k1, k2, k3, k4, k5, k6⟩, hl.trans (by kernel_rfl), fun j hj => ?_⟩
  match j, hj with
  | 0, _ => exact q0 0 (by decide)
  | 1, _ => exact q1 0 (by decide)
  | 2, _ => exact q2 0 (by decide)
  | 3, _ => exact q3 0 (by decide)
  | 4, _ => exact q4 0 (by decide)
  | 5, _ => exact q5 0 (by decide)
  | 6, _ => exact (q6 0 (by decide)).imp fun v h => ⟨h.1, h.2.congr fun k hk j _ => by rw [ctE_at hk]⟩

def SzOf1 (x : DExpr) : Prop := ∀ {lo hi : Nat} {a6 : Option Addr} {c6 : Nat} (L : Int) (_hL0 : 0 ≤ L) (_hL1 : L ≤ 1048576) (_hx : x.ok) (w : World) (_hhi : hi ≤ w.heap.size) (_hs6 : Sl lo hi w 7 x.fArgs.length (ctE x.fArgs) a6), Calls Tryz.prog 85 #[.agg #[.int .i64 x.fKind, .int .i64 x.fN, .int .i64 x.fPos, .int .i64 x.fType, .string x.fSymbol, .string x.fName, .slice a6 x.fArgs.length c6], .int .i64 L] w fun e w' => e = .returned (.int .i64 (szR L x.sz)) ∧ Below w.heap.size w w'

def SzOfS (l : List DExpr) : Prop := ∀ {lo hi : Nat} {a : Option Addr} {cap : Nat} (L : Int) (_hL0 : 0 ≤ L) (_hL1 : L ≤ 1048576) (_hok : okL DExpr.ok l) (w : World) (_hhi : hi ≤ w.heap.size) (_hs : Sl lo hi w 7 l.length (ctE l) a), Calls Tryz.prog 108 #[.slice a l.length cap, .int .i64 L] w fun e w' => e = .returned (.int .i64 (szR L (lsz DExpr.sz l))) ∧ Below w.heap.size w w'

set_option maxHeartbeats 1600000 in
set_option maxRecDepth 100000 in
theorem laws_szExpr_of {lo hi : Nat} {a6 : Option Addr} {c6 : Nat} (x : DExpr) (HA : SzOfS x.fArgs) (L : Int) (hL0 : 0 ≤ L) (hL1 : L ≤ 1048576) (hx : x.ok) (w : World) (hhi : hi ≤ w.heap.size) (hs6 : Sl lo hi w 7 x.fArgs.length (ctE x.fArgs) a6) :
    Calls Tryz.prog 85 #[.agg #[.int .i64 x.fKind, .int .i64 x.fN, .int .i64 x.fPos, .int .i64 x.fType, .string x.fSymbol, .string x.fName, .slice a6 x.fArgs.length c6], .int .i64 L] w fun e w' => e = .returned (.int .i64 (szR L x.sz)) ∧ Below w.heap.size w w' := by
  have HS6 := Lib.hid hs6
  clear hs6
  have HX := Lib.hid ((DExpr.ok_iff x).1 hx)
  clear hx
  have okSymbol : x.fSymbol.size ≤ 9223372036854775807 := HX.out.2.2.2.2.1
  have okName : x.fName.size ≤ 9223372036854775807 := HX.out.2.2.2.2.2.1
  have HB0 := Lib.hid ((Below.refl w.heap.size w).alloc (Nat.le_refl _) (.cells #[.int .i64 x.fKind, .int .i64 x.fN, .int .i64 x.fPos, .int .i64 x.fType, .string x.fSymbol, .string x.fName, .slice a6 x.fArgs.length c6] 96))
  by_cases h0 : L < ((x.fSymbol.size : Nat) : Int)
  · skip
    have fin := Lib.hid (szR_gt (n := x.sz) (L := L) (by rw [DExpr.sz_eq]; omega))
    go_enter Tryz.func85, Tryz.ntmps85
    go_wp2
    go_ret
    exact ⟨ret_i (by rw [fin.out]), HB0.out⟩
  · skip
    by_cases h1 : (L - (x.fSymbol.size : Nat)) < ((x.fName.size : Nat) : Int)
    · skip
      have fin := Lib.hid (szR_gt (n := x.sz) (L := L) (by rw [DExpr.sz_eq]; omega))
      go_enter Tryz.func85, Tryz.ntmps85
      go_wp2
      go_ret
      exact ⟨ret_i (by rw [fin.out]), HB0.out⟩
    · skip
      by_cases h2 : ((L - (x.fSymbol.size : Nat)) - (x.fName.size : Nat)) < (((lsz DExpr.sz) x.fArgs : Nat) : Int)
      · skip
        have hz0 := fun (w' : World) (hhi : hi ≤ w'.heap.size) (hs6 : Sl lo hi w' 7 x.fArgs.length (ctE x.fArgs) a6) => HA (cap := c6) ((L - (x.fSymbol.size : Nat)) - (x.fName.size : Nat)) (by omega) (by omega) HX.out.2.2.2.2.2.2 w' hhi hs6
        rw [szR_gt (by omega)] at hz0
        have HZ0 := Lib.hid hz0
        clear hz0
        have fin := Lib.hid (szR_gt (n := x.sz) (L := L) (by rw [DExpr.sz_eq]; omega))
        go_enter Tryz.func85, Tryz.ntmps85
        go_wp2_with fail
        refine (HZ0.out _ (Nat.le_trans hhi HB0.out.size) (HS6.out.later HB0.out hhi)).mono ?_
        rintro e w1 ⟨rfl, hb1⟩
        have hsz1 : w.heap.size < w1.heap.size := Nat.lt_of_lt_of_le (by first | omega | (simp; done) | (simp; omega)) hb1.size
        have HB1 := Lib.hid (HB0.out.trans (hb1.mono HB0.out.size))
        clear hb1
        go_wp2
        go_ret
        exact ⟨ret_i (by rw [fin.out]), HB1.out⟩
      · skip
        have hz0 := fun (w' : World) (hhi : hi ≤ w'.heap.size) (hs6 : Sl lo hi w' 7 x.fArgs.length (ctE x.fArgs) a6) => HA (cap := c6) ((L - (x.fSymbol.size : Nat)) - (x.fName.size : Nat)) (by omega) (by omega) HX.out.2.2.2.2.2.2 w' hhi hs6
        rw [szR_le (by omega)] at hz0
        have HZ0 := Lib.hid hz0
        clear hz0
        have fin := Lib.hid (szR_le (n := x.sz) (L := L) (by rw [DExpr.sz_eq]; omega))
        go_enter Tryz.func85, Tryz.ntmps85
        go_wp2_with fail
        refine (HZ0.out _ (Nat.le_trans hhi HB0.out.size) (HS6.out.later HB0.out hhi)).mono ?_
        rintro e w1 ⟨rfl, hb1⟩
        have hsz1 : w.heap.size < w1.heap.size := Nat.lt_of_lt_of_le (by first | omega | (simp; done) | (simp; omega)) hb1.size
        have HB1 := Lib.hid (HB0.out.trans (hb1.mono HB0.out.size))
        clear hb1
        go_wp2
        go_ret
        exact ⟨ret_i (by rw [fin.out]; rw [DExpr.sz_eq]; omega), HB1.out⟩

theorem laws_szExpr_all (x : DExpr) (HA : SzOfS x.fArgs) : SzOf1 x := by
  intro lo hi a6 c6 L hL0 hL1 hx w hhi hs6
  exact laws_szExpr_of x HA (lo := lo) (hi := hi) (a6 := a6) (c6 := c6) L hL0 hL1 hx w hhi hs6

set_option maxHeartbeats 1600000 in
set_option maxRecDepth 100000 in
theorem laws_szExprS_of {lo hi : Nat} {a : Option Addr} {cap : Nat} (l : List DExpr) (HE : ∀ x ∈ l, SzOf1 x) (L : Int) (hL0 : 0 ≤ L) (hL1 : L ≤ 1048576) (hok : okL DExpr.ok l) (w : World) (hhi : hi ≤ w.heap.size) (hs : Sl lo hi w 7 l.length (ctE l) a) :
    Calls Tryz.prog 108 #[.slice a l.length cap, .int .i64 L] w fun e w' => e = .returned (.int .i64 (szR L (lsz DExpr.sz l))) ∧ Below w.heap.size w w' := by
  have HEH := Lib.hid HE
  clear HE
  have HS := Lib.hid hs
  have HK := Lib.hid hok
  have hn : l.length ≤ 9223372036854775807 := hok.1
  clear hs hok
  by_cases hlong : L < ((l.length : Nat) : Int)
  · have fin := Lib.hid (szR_gt (n := lsz DExpr.sz l) (L := L) (by unfold lsz; omega))
    go_enter Tryz.func108, Tryz.ntmps108
    go_wp2
    go_ret
    exact ⟨ret_i fin.out.symm, Below.refl _ _⟩
  · go_enter Tryz.func108, Tryz.ntmps108
    go_wp2
    go_loopw [1, 5] (fun q i wr => ∃ k : Nat, k ≤ l.length ∧ i = .int .i64 (k : Int) ∧ q = .int .i64 (L - l.length - psz DExpr.sz l k) ∧ (l.length : Int) + psz DExpr.sz l k ≤ L ∧ Below w.heap.size w wr) (fun _ i _ => l.length - (intOf i).toNat)
    case atStart => exact ⟨0, Nat.zero_le _, rfl, by rw [psz_zero]; go_num, by rw [psz_zero]; omega, Below.refl _ _⟩
    case round =>
      obtain ⟨k, hk, rfl, rfl, hle, hb⟩ := hrel
      have HB := Lib.hid hb
      by_cases hlt : k < l.length
      · have hsu := Lib.hid (psz_succ DExpr.sz l k hlt)
        have hle2 := Lib.hid (psz_le DExpr.sz l (k + 1))
        have hE : SzOf1 (l.getD k default) := @Hid.out _ HEH _ (getD_mem hlt)
        have hokk := HK.out.at hlt
        have hhr : hi ≤ wr.heap.size := Nat.le_trans hhi hb.size
        obtain ⟨b, off, rfl, hlo, hhi', hc⟩ := (HS.out.later (hb.mono hhi) (Nat.le_refl _)).at k hlt
        clear hb
        obtain ⟨a6, c6, hc0_, hc1_, hc2_, hc3_, hc4_, hc5_, hc6_, hs6⟩ := DExpr.open (by rw [ctE_at hlt] at hc; exact hc)
        clear hc
        generalize l.getD k default = x at *
        generalize psz DExpr.sz l k = S at *
        have hZ := hE (c6 := c6) (L - l.length - S) (by omega) (by omega) hokk wr hhr hs6
        by_cases hf : ((x.sz : Nat) : Int) ≤ L - l.length - S
        · rw [szR_le hf] at hZ
          have HZ := Lib.hid hZ
          clear hZ hokk hs6
          go_wp2_with fail
          refine HZ.out.mono ?_
          rintro e w1 ⟨rfl, hb1⟩
          have HB1 := Lib.hid hb1
          clear hb1
          go_wp2
          go_roundw
          case rel => exact ⟨k + 1, by omega, by go_num, by rw [hsu.out]; go_num, by rw [hsu.out]; omega, HB.out.trans (HB1.out.mono HB.out.size)⟩
          case measure => simp [intOf]; omega
        · have fin := Lib.hid (szR_gt (n := lsz DExpr.sz l) (L := L) (by have h1 := hsu.out; have h2 := hle2.out; omega))
          rw [szR_gt (by omega)] at hZ
          have HZ := Lib.hid hZ
          clear hZ hokk hs6
          go_wp2_with fail
          refine HZ.out.mono ?_
          rintro e w1 ⟨rfl, hb1⟩
          have HB1 := Lib.hid hb1
          clear hb1
          go_wp2
          go_ret
          exact ⟨ret_i fin.out.symm, HB.out.trans (HB1.out.mono HB.out.size)⟩
      · obtain rfl : k = l.length := by omega
        have fin := Lib.hid (szR_le (n := lsz DExpr.sz l) (L := L) (by unfold lsz; rw [psz_all] at hle; omega))
        have fin2 := Lib.hid (psz_all DExpr.sz l)
        go_wp2
        go_ret
        exact ⟨ret_i (by rw [fin.out, fin2.out]; unfold lsz; omega), HB.out⟩

theorem laws_szExprS_all (l : List DExpr) (HE : ∀ x ∈ l, SzOf1 x) : SzOfS l := by
  intro lo hi a cap L hL0 hL1 hok w hhi hs
  exact laws_szExprS_of l HE (lo := lo) (hi := hi) (a := a) (cap := cap) L hL0 hL1 hok w hhi hs

theorem laws_szExpr_each : ∀ x : DExpr, SzOf1 x := DExpr.ind fun x ih => laws_szExpr_all x (laws_szExprS_all x.fArgs ih)

theorem laws_szExpr {lo hi : Nat} {a6 : Option Addr} {c6 : Nat} (x : DExpr) (L : Int) (hL0 : 0 ≤ L) (hL1 : L ≤ 1048576) (hx : x.ok) (w : World) (hhi : hi ≤ w.heap.size) (hs6 : Sl lo hi w 7 x.fArgs.length (ctE x.fArgs) a6) :
    Calls Tryz.prog 85 #[.agg #[.int .i64 x.fKind, .int .i64 x.fN, .int .i64 x.fPos, .int .i64 x.fType, .string x.fSymbol, .string x.fName, .slice a6 x.fArgs.length c6], .int .i64 L] w fun e w' => e = .returned (.int .i64 (szR L x.sz)) ∧ Below w.heap.size w w' := laws_szExpr_each x (lo := lo) (hi := hi) (a6 := a6) (c6 := c6) L hL0 hL1 hx w hhi hs6

def ToOf1 (x : DExpr) : Prop := ∀ {lo hi : Nat} {a6 : Option Addr} {c6 : Nat} (_hsz : x.sz ≤ 1048576) (w : World) (_hhi : hi ≤ w.heap.size) (_hs6 : Sl lo hi w 7 x.fArgs.length (ctE x.fArgs) a6), Calls Tryz.prog 90 #[.agg #[.int .i64 x.fKind, .int .i64 x.fN, .int .i64 x.fPos, .int .i64 x.fType, .string x.fSymbol, .string x.fName, .slice a6 x.fArgs.length c6]] w fun e w' => ∃ a6r c6r, e = .returned (.agg #[.int .i64 x.fKind, .int .i64 x.fN, .int .i64 x.fPos, .int .i64 x.fType, .string x.fSymbol, .string x.fName, .slice a6r x.fArgs.length c6r]) ∧ OwnR w' (fun y => w.heap.size ≤ y ∧ y < w'.heap.size) 7 x.ct (fun j => [.int .i64 x.fKind, .int .i64 x.fN, .int .i64 x.fPos, .int .i64 x.fType, .string x.fSymbol, .string x.fName, .slice a6r x.fArgs.length c6r].getD j .nilFunc) ∧ Below w.heap.size w w'

def ToOfS (l : List DExpr) : Prop := ∀ {lo hi : Nat} {a : Option Addr} {cap : Nat} (_hsz : lsz DExpr.sz l ≤ 1048576) (w : World) (_hhi : hi ≤ w.heap.size) (_hs : Sl lo hi w 7 l.length (ctE l) a), Calls Tryz.prog 112 #[.slice a l.length cap] w fun e w' => ∃ a' cap', e = .returned (.slice a' l.length cap') ∧ Own w' (fun x => w.heap.size ≤ x ∧ x < w'.heap.size) (.sl 7 l.length (ctE l)) (.slice a' l.length cap') ∧ Below w.heap.size w w'

set_option maxHeartbeats 1600000 in
set_option maxRecDepth 100000 in
theorem laws_toExpr_of {lo hi : Nat} {a6 : Option Addr} {c6 : Nat} (x : DExpr) (HA : ToOfS x.fArgs) (hsz : x.sz ≤ 1048576) (w : World) (hhi : hi ≤ w.heap.size) (hs6 : Sl lo hi w 7 x.fArgs.length (ctE x.fArgs) a6) :
    Calls Tryz.prog 90 #[.agg #[.int .i64 x.fKind, .int .i64 x.fN, .int .i64 x.fPos, .int .i64 x.fType, .string x.fSymbol, .string x.fName, .slice a6 x.fArgs.length c6]] w fun e w' => ∃ a6r c6r, e = .returned (.agg #[.int .i64 x.fKind, .int .i64 x.fN, .int .i64 x.fPos, .int .i64 x.fType, .string x.fSymbol, .string x.fName, .slice a6r x.fArgs.length c6r]) ∧ OwnR w' (fun y => w.heap.size ≤ y ∧ y < w'.heap.size) 7 x.ct (fun j => [.int .i64 x.fKind, .int .i64 x.fN, .int .i64 x.fPos, .int .i64 x.fType, .string x.fSymbol, .string x.fName, .slice a6r x.fArgs.length c6r].getD j .nilFunc) ∧ Below w.heap.size w w' := by
  have HS6 := Lib.hid hs6
  clear hs6
  have HW := Lib.hid hsz
  clear hsz
  have HB0 := Lib.hid (((((Below.refl w.heap.size w).alloc (Nat.le_refl _) (.cells #[.int .i64 x.fKind, .int .i64 x.fN, .int .i64 x.fPos, .int .i64 x.fType, .string x.fSymbol, .string x.fName, .slice a6 x.fArgs.length c6] 96)).alloc (by simp <;> omega) (.cells #[.int .i64 0, .int .i64 0, .int .i64 0, .int .i64 0, .string ⟨#[]⟩, .string ⟨#[]⟩, .slice none 0 0] 64))).alloc (by simp <;> omega) (.cells #[.int .i64 0, .int .i64 0, .int .i64 0, .int .i64 0, .string ⟨#[]⟩, .string ⟨#[]⟩, .slice none 0 0] 64))
  have HSZ0 := Lib.hid (show w.heap.size + 2 < (((w.alloc (.cells #[.int .i64 x.fKind, .int .i64 x.fN, .int .i64 x.fPos, .int .i64 x.fType, .string x.fSymbol, .string x.fName, .slice a6 x.fArgs.length c6] 96)).alloc (.cells #[.int .i64 0, .int .i64 0, .int .i64 0, .int .i64 0, .string ⟨#[]⟩, .string ⟨#[]⟩, .slice none 0 0] 64)).alloc (.cells #[.int .i64 0, .int .i64 0, .int .i64 0, .int .i64 0, .string ⟨#[]⟩, .string ⟨#[]⟩, .slice none 0 0] 64)).heap.size by simp)
  have ht0 := fun (w' : World) (hhi : hi ≤ w'.heap.size) (hs : Sl lo hi w' 7 x.fArgs.length (ctE x.fArgs) a6) => HA (cap := c6) (by have h := HW.out; rw [DExpr.sz_eq] at h; omega) w' hhi hs
  have HT0 := Lib.hid ht0
  clear ht0
  go_enter Tryz.func90, Tryz.ntmps90
  go_wp2_with fail
  refine (HT0.out _ (Nat.le_trans hhi (Below.size ((by repeat (first | (with_reducible exact HB0.out) | (with_reducible exact Below.refl _ _) | (refine Below.setCell ?_ (by simp <;> omega) _) | (refine Below.alloc ?_ (by simp <;> omega) _)) : Below w.heap.size w _)))) (HS6.out.later ((by repeat (first | (with_reducible exact HB0.out) | (with_reducible exact Below.refl _ _) | (refine Below.setCell ?_ (by simp <;> omega) _) | (refine Below.alloc ?_ (by simp <;> omega) _)) : Below w.heap.size w _)) hhi)).mono ?_
  rintro e w1 ⟨a6r, c6r, rfl, ho1, hb1⟩
  have hsz1 : w.heap.size + 2 < w1.heap.size := Nat.lt_of_lt_of_le (by have h := HSZ0.out; first | (with_reducible exact h) | (simp; done) | (simp; omega) | (simp [World.setCell]; omega)) hb1.size
  have hlo1 : w.heap.size + 3 ≤ w1.heap.size := Nat.le_trans (by first | (with_reducible exact Nat.le_refl _) | (simp; done) | (simp; omega) | (simp [World.setCell]; omega)) hb1.size
  have hbw1 : Below w.heap.size w w1 := Below.trans ((by repeat (first | (with_reducible exact HB0.out) | (with_reducible exact Below.refl _ _) | (refine Below.setCell ?_ (by simp <;> omega) _) | (refine Below.alloc ?_ (by simp <;> omega) _)) : Below w.heap.size w _)) (hb1.mono (Below.size ((by repeat (first | (with_reducible exact HB0.out) | (with_reducible exact Below.refl _ _) | (refine Below.setCell ?_ (by simp <;> omega) _) | (refine Below.alloc ?_ (by simp <;> omega) _)) : Below w.heap.size w _))))
  have HO1_1 := Lib.hid (ho1.sub (F' := fun y => w.heap.size + 3 ≤ y ∧ y < w1.heap.size) (fun y hy => ⟨Nat.le_trans (by first | (with_reducible exact Nat.le_refl _) | (simp; done) | (simp; omega) | (simp [World.setCell]; done) | (simp [World.setCell]; omega)) hy.1, hy.2⟩))
  clear ho1
  have x1_1_0 : w1.cell? ⟨w.heap.size + 1, 0, none⟩ = some (.int .i64 0) := (hb1.cell (p := ⟨w.heap.size + 1, 0, none⟩) (by first | omega | (simp; done) | (simp; omega) | (simp [World.setCell]; omega))).trans (by go_simp)
  have z1_1_0 : w1.frozen? ⟨w.heap.size + 1, 0, none⟩ = false := (hb1.frozen (p := ⟨w.heap.size + 1, 0, none⟩) (by first | omega | (simp; done) | (simp; omega) | (simp [World.setCell]; omega))).trans (by go_simp)
  have x1_1_1 : w1.cell? ⟨w.heap.size + 1, 1, none⟩ = some (.int .i64 0) := (hb1.cell (p := ⟨w.heap.size + 1, 1, none⟩) (by first | omega | (simp; done) | (simp; omega) | (simp [World.setCell]; omega))).trans (by go_simp)
  have z1_1_1 : w1.frozen? ⟨w.heap.size + 1, 1, none⟩ = false := (hb1.frozen (p := ⟨w.heap.size + 1, 1, none⟩) (by first | omega | (simp; done) | (simp; omega) | (simp [World.setCell]; omega))).trans (by go_simp)
  have x1_1_2 : w1.cell? ⟨w.heap.size + 1, 2, none⟩ = some (.int .i64 0) := (hb1.cell (p := ⟨w.heap.size + 1, 2, none⟩) (by first | omega | (simp; done) | (simp; omega) | (simp [World.setCell]; omega))).trans (by go_simp)
  have z1_1_2 : w1.frozen? ⟨w.heap.size + 1, 2, none⟩ = false := (hb1.frozen (p := ⟨w.heap.size + 1, 2, none⟩) (by first | omega | (simp; done) | (simp; omega) | (simp [World.setCell]; omega))).trans (by go_simp)
  have x1_1_3 : w1.cell? ⟨w.heap.size + 1, 3, none⟩ = some (.int .i64 0) := (hb1.cell (p := ⟨w.heap.size + 1, 3, none⟩) (by first | omega | (simp; done) | (simp; omega) | (simp [World.setCell]; omega))).trans (by go_simp)
  have z1_1_3 : w1.frozen? ⟨w.heap.size + 1, 3, none⟩ = false := (hb1.frozen (p := ⟨w.heap.size + 1, 3, none⟩) (by first | omega | (simp; done) | (simp; omega) | (simp [World.setCell]; omega))).trans (by go_simp)
  have x1_1_4 : w1.cell? ⟨w.heap.size + 1, 4, none⟩ = some (.string ⟨#[]⟩) := (hb1.cell (p := ⟨w.heap.size + 1, 4, none⟩) (by first | omega | (simp; done) | (simp; omega) | (simp [World.setCell]; omega))).trans (by go_simp)
  have z1_1_4 : w1.frozen? ⟨w.heap.size + 1, 4, none⟩ = false := (hb1.frozen (p := ⟨w.heap.size + 1, 4, none⟩) (by first | omega | (simp; done) | (simp; omega) | (simp [World.setCell]; omega))).trans (by go_simp)
  have x1_1_5 : w1.cell? ⟨w.heap.size + 1, 5, none⟩ = some (.string ⟨#[]⟩) := (hb1.cell (p := ⟨w.heap.size + 1, 5, none⟩) (by first | omega | (simp; done) | (simp; omega) | (simp [World.setCell]; omega))).trans (by go_simp)
  have z1_1_5 : w1.frozen? ⟨w.heap.size + 1, 5, none⟩ = false := (hb1.frozen (p := ⟨w.heap.size + 1, 5, none⟩) (by first | omega | (simp; done) | (simp; omega) | (simp [World.setCell]; omega))).trans (by go_simp)
  have x1_1_6 : w1.cell? ⟨w.heap.size + 1, 6, none⟩ = some (.slice none 0 0) := (hb1.cell (p := ⟨w.heap.size + 1, 6, none⟩) (by first | omega | (simp; done) | (simp; omega) | (simp [World.setCell]; omega))).trans (by go_simp)
  have z1_1_6 : w1.frozen? ⟨w.heap.size + 1, 6, none⟩ = false := (hb1.frozen (p := ⟨w.heap.size + 1, 6, none⟩) (by first | omega | (simp; done) | (simp; omega) | (simp [World.setCell]; omega))).trans (by go_simp)
  have x1_2_0 : w1.cell? ⟨w.heap.size + 2, 0, none⟩ = some (.int .i64 x.fKind) := (hb1.cell (p := ⟨w.heap.size + 2, 0, none⟩) (by first | omega | (simp; done) | (simp; omega) | (simp [World.setCell]; omega))).trans (by go_simp)
  have z1_2_0 : w1.frozen? ⟨w.heap.size + 2, 0, none⟩ = false := (hb1.frozen (p := ⟨w.heap.size + 2, 0, none⟩) (by first | omega | (simp; done) | (simp; omega) | (simp [World.setCell]; omega))).trans (by go_simp)
  have x1_2_1 : w1.cell? ⟨w.heap.size + 2, 1, none⟩ = some (.int .i64 x.fN) := (hb1.cell (p := ⟨w.heap.size + 2, 1, none⟩) (by first | omega | (simp; done) | (simp; omega) | (simp [World.setCell]; omega))).trans (by go_simp)
  have z1_2_1 : w1.frozen? ⟨w.heap.size + 2, 1, none⟩ = false := (hb1.frozen (p := ⟨w.heap.size + 2, 1, none⟩) (by first | omega | (simp; done) | (simp; omega) | (simp [World.setCell]; omega))).trans (by go_simp)
  have x1_2_2 : w1.cell? ⟨w.heap.size + 2, 2, none⟩ = some (.int .i64 x.fPos) := (hb1.cell (p := ⟨w.heap.size + 2, 2, none⟩) (by first | omega | (simp; done) | (simp; omega) | (simp [World.setCell]; omega))).trans (by go_simp)
  have z1_2_2 : w1.frozen? ⟨w.heap.size + 2, 2, none⟩ = false := (hb1.frozen (p := ⟨w.heap.size + 2, 2, none⟩) (by first | omega | (simp; done) | (simp; omega) | (simp [World.setCell]; omega))).trans (by go_simp)
  have x1_2_3 : w1.cell? ⟨w.heap.size + 2, 3, none⟩ = some (.int .i64 x.fType) := (hb1.cell (p := ⟨w.heap.size + 2, 3, none⟩) (by first | omega | (simp; done) | (simp; omega) | (simp [World.setCell]; omega))).trans (by go_simp)
  have z1_2_3 : w1.frozen? ⟨w.heap.size + 2, 3, none⟩ = false := (hb1.frozen (p := ⟨w.heap.size + 2, 3, none⟩) (by first | omega | (simp; done) | (simp; omega) | (simp [World.setCell]; omega))).trans (by go_simp)
  have x1_2_4 : w1.cell? ⟨w.heap.size + 2, 4, none⟩ = some (.string x.fSymbol) := (hb1.cell (p := ⟨w.heap.size + 2, 4, none⟩) (by first | omega | (simp; done) | (simp; omega) | (simp [World.setCell]; omega))).trans (by go_simp)
  have z1_2_4 : w1.frozen? ⟨w.heap.size + 2, 4, none⟩ = false := (hb1.frozen (p := ⟨w.heap.size + 2, 4, none⟩) (by first | omega | (simp; done) | (simp; omega) | (simp [World.setCell]; omega))).trans (by go_simp)
  have x1_2_5 : w1.cell? ⟨w.heap.size + 2, 5, none⟩ = some (.string x.fName) := (hb1.cell (p := ⟨w.heap.size + 2, 5, none⟩) (by first | omega | (simp; done) | (simp; omega) | (simp [World.setCell]; omega))).trans (by go_simp)
  have z1_2_5 : w1.frozen? ⟨w.heap.size + 2, 5, none⟩ = false := (hb1.frozen (p := ⟨w.heap.size + 2, 5, none⟩) (by first | omega | (simp; done) | (simp; omega) | (simp [World.setCell]; omega))).trans (by go_simp)
  have x1_2_6 : w1.cell? ⟨w.heap.size + 2, 6, none⟩ = some (.slice none 0 0) := (hb1.cell (p := ⟨w.heap.size + 2, 6, none⟩) (by first | omega | (simp; done) | (simp; omega) | (simp [World.setCell]; omega))).trans (by go_simp)
  have z1_2_6 : w1.frozen? ⟨w.heap.size + 2, 6, none⟩ = false := (hb1.frozen (p := ⟨w.heap.size + 2, 6, none⟩) (by first | omega | (simp; done) | (simp; omega) | (simp [World.setCell]; omega))).trans (by go_simp)
  have HG1 := Lib.hid (show w1.heap[w.heap.size + 1]? = some (.cells #[.int .i64 0, .int .i64 0, .int .i64 0, .int .i64 0, .string ⟨#[]⟩, .string ⟨#[]⟩, .slice none 0 0] 64) from (hb1.block _ (by first | omega | (simp; done) | (simp; omega) | (simp [World.setCell]; omega))).trans (by (repeat (refine blk_other (by simp) ?_)); exact blk_alloc (by simp) (blk_new (by simp))))
  have HB1 := Lib.hid hbw1
  have HSZ1 := Lib.hid hsz1
  have HLO1 := Lib.hid hlo1
  clear hb1 hbw1 hsz1 hlo1
  go_wp2
  refine bodyPost_ret (v := .agg #[.int .i64 x.fKind, .int .i64 x.fN, .int .i64 x.fPos, .int .i64 x.fType, .string x.fSymbol, .string x.fName, .slice a6r x.fArgs.length c6r]) (results_cell_row Tryz.results90 _ _ (w.heap.size + 1) 64 #[.int .i64 x.fKind, .int .i64 x.fN, .int .i64 x.fPos, .int .i64 x.fType, .string x.fSymbol, .string x.fName, .slice a6r x.fArgs.length c6r] (0, 0) _ rfl (by refine Eq.trans (blk_set (cs := #[.int .i64 x.fKind, .int .i64 x.fN, .int .i64 x.fPos, .int .i64 x.fType, .string x.fSymbol, .string x.fName, .slice none 0 0]) (t := 64) (fr := (0, 0)) ?_) rfl; refine Eq.trans (blk_set (cs := #[.int .i64 x.fKind, .int .i64 x.fN, .int .i64 x.fPos, .int .i64 x.fType, .string x.fSymbol, .string ⟨#[]⟩, .slice none 0 0]) (t := 64) (fr := (0, 0)) ?_) rfl; refine Eq.trans (blk_set (cs := #[.int .i64 x.fKind, .int .i64 x.fN, .int .i64 x.fPos, .int .i64 x.fType, .string ⟨#[]⟩, .string ⟨#[]⟩, .slice none 0 0]) (t := 64) (fr := (0, 0)) ?_) rfl; refine Eq.trans (blk_set (cs := #[.int .i64 x.fKind, .int .i64 x.fN, .int .i64 x.fPos, .int .i64 0, .string ⟨#[]⟩, .string ⟨#[]⟩, .slice none 0 0]) (t := 64) (fr := (0, 0)) ?_) rfl; refine Eq.trans (blk_set (cs := #[.int .i64 x.fKind, .int .i64 x.fN, .int .i64 0, .int .i64 0, .string ⟨#[]⟩, .string ⟨#[]⟩, .slice none 0 0]) (t := 64) (fr := (0, 0)) ?_) rfl; refine Eq.trans (blk_set (cs := #[.int .i64 x.fKind, .int .i64 0, .int .i64 0, .int .i64 0, .string ⟨#[]⟩, .string ⟨#[]⟩, .slice none 0 0]) (t := 64) (fr := (0, 0)) ?_) rfl; refine Eq.trans (blk_set (cs := #[.int .i64 0, .int .i64 0, .int .i64 0, .int .i64 0, .string ⟨#[]⟩, .string ⟨#[]⟩, .slice none 0 0]) (t := 64) (fr := (0, 0)) ?_) rfl; repeat (first | (with_reducible exact HG1.out) | (refine blk_other (by simp) ?_))) Tryz.underlying64 rfl rfl) rfl ⟨a6r, c6r, rfl, ?_, (by repeat (first | (with_reducible exact HB1.out) | (with_reducible exact Below.refl _ _) | (refine Below.setCell ?_ (by simp <;> omega) _) | (refine Below.alloc ?_ (by simp <;> omega) _)) : Below w.heap.size w _)⟩
  have ho1 := HO1_1.out
  clear HO1_1
  have q1 := HLO1.out
  skip
  have hkk : ∀ w9 : World, Kept (fun y => w.heap.size + 3 ≤ y) w1 w9 → OwnR w9 (fun y => w.heap.size ≤ y ∧ y < w1.heap.size) 7 x.ct (fun j => [.int .i64 x.fKind, .int .i64 x.fN, .int .i64 x.fPos, .int .i64 x.fType, .string x.fSymbol, .string x.fName, .slice a6r x.fArgs.length c6r].getD j .nilFunc) := fun w9 hk => by
    refine OwnR.append (F1 := fun _ => False) (F2 := fun y => w.heap.size + 3 ≤ y ∧ y < w1.heap.size) (m := 6) (n := 1) ?_ ?_ (by intro y h1 h2; first | exact h1.elim | exact h2.elim | (have h3 := h1.2; have h4 := h2.1; omega)) (by intro y h1; first | exact h1.elim | (have h3 := h1.1; have h4 := h1.2; exact ⟨by omega, by omega⟩)) (by intro y h1; first | exact h1.elim | (have h3 := h1.1; have h4 := h1.2; exact ⟨by omega, by omega⟩))
    · skip
      refine OwnR.lits (F := fun _ => False) fun j hj => ?_
      match j, hj with
      | 0, _ => rfl
      | 1, _ => rfl
      | 2, _ => rfl
      | 3, _ => rfl
      | 4, _ => rfl
      | 5, _ => rfl
    · skip
      exact OwnR.one (ho1.kept (hk.sub fun y hy => by have h := hy.1; omega))
  refine (hkk _ (by repeat (first | (with_reducible exact Kept.refl) | (refine Kept.put ?_ (by intro h1; dsimp only at h1; omega))))).sub (fun y hy => ⟨hy.1, Nat.lt_of_lt_of_le hy.2 (by simp)⟩)

theorem laws_toExpr_all (x : DExpr) (HA : ToOfS x.fArgs) : ToOf1 x := by
  intro lo hi a6 c6 hsz w hhi hs6
  exact laws_toExpr_of x HA (lo := lo) (hi := hi) (a6 := a6) (c6 := c6) hsz w hhi hs6

theorem info_Expr : (Tryz.prog.info? 64).map (fun i => (i.zero, i.size, i.bytes)) = some (some (.agg #[.int .i64 0, .int .i64 0, .int .i64 0, .int .i64 0, .string ⟨#[]⟩, .string ⟨#[]⟩, .slice none 0 0]), 7, 88) := by kernel_rfl

set_option maxHeartbeats 1600000 in
set_option maxRecDepth 100000 in
theorem laws_toExprS_of {lo hi : Nat} {a : Option Addr} {cap : Nat} (l : List DExpr) (HE : ∀ x ∈ l, ToOf1 x) (hsz : lsz DExpr.sz l ≤ 1048576) (w : World) (hhi : hi ≤ w.heap.size) (hs : Sl lo hi w 7 l.length (ctE l) a) :
    Calls Tryz.prog 112 #[.slice a l.length cap] w fun e w' => ∃ a' cap', e = .returned (.slice a' l.length cap') ∧ Own w' (fun x => w.heap.size ≤ x ∧ x < w'.heap.size) (.sl 7 l.length (ctE l)) (.slice a' l.length cap') ∧ Below w.heap.size w w' := by
  have HEH := Lib.hid HE
  clear HE
  have HS := Lib.hid hs
  clear hs
  have HW := Lib.hid hsz
  have hn : l.length ≤ 1048576 := by unfold lsz at hsz; omega
  clear hsz
  obtain ⟨i0, hi', hz0, hz1, hz2⟩ := info_parts info_Expr
  go_enter Tryz.func112, Tryz.ntmps112
  go_wp2_with (at_make; refine wpList_make_full _ rfl (.tmp 6) (.tmp 6) 62 rfl w.heap.size 64 i0 (.agg #[.int .i64 0, .int .i64 0, .int .i64 0, .int .i64 0, .string ⟨#[]⟩, .string ⟨#[]⟩, .slice none 0 0]) 7 Tryz.underlying62 hi' hz0 hz1 .i64 .i64 (l.length : Int) (l.length : Int) l.length rfl rfl rfl rfl (by rw [hz2]; omega) (by unfold maxLen; omega) (Nat.le_refl _) ?_; intro w1 hown hgrow)
  have hb1 : Below w.heap.size w w1 := (Below.refl _ w).grown hgrow (Nat.le_refl _) (fun k hk => by cases hk)
  clear hgrow
  have hblk := (ownsRow_block hown).1
  go_loopw [4] (fun i wr => ∃ (k : Nat) (xs : List Value), k ≤ l.length ∧ i = .int .i64 (k : Int) ∧ wr.ownsRow w.heap.size 64 7 (.slice (some ⟨w.heap.size, 0, none⟩) l.length l.length) l.length xs ∧ Filled w.heap.size wr 7 k (ctE l) xs ∧ Below w.heap.size w wr) (fun i _ => l.length - (intOf i).toNat)
  case atStart => exact ⟨0, _, Nat.zero_le _, rfl, hown, Filled.zero hblk, hb1⟩
  case round =>
    clear hown hb1 hblk
    obtain ⟨k, xs, hk, rfl, hown, hfill, hb⟩ := hrel
    have hblk := ownsRow_block hown
    have HO := Lib.hid hown
    have HF := Lib.hid hfill
    have HB := Lib.hid hb
    clear hown hfill
    by_cases hlt : k < l.length
    · have hE : ToOf1 (l.getD k default) := @Hid.out _ HEH _ (getD_mem hlt)
      have hhr : hi ≤ wr.heap.size := Nat.le_trans hhi hb.size
      obtain ⟨b, off, rfl, hlo, hhi', hc⟩ := (HS.out.later (hb.mono hhi) (Nat.le_refl _)).at k hlt
      obtain ⟨a6, c6, hc0_, hc1_, hc2_, hc3_, hc4_, hc5_, hc6_, hs6⟩ := DExpr.open (by rw [ctE_at hlt] at hc; exact hc)
      have hkn : k * 7 + 7 ≤ l.length * 7 := by omega
      have d0 := hblk.2.2.1 (k * 7) (by omega)
      have z0 := hblk.2.2.2 (k * 7)
      have d1 := hblk.2.2.1 (k * 7 + 1) (by omega)
      have z1 := hblk.2.2.2 (k * 7 + 1)
      have d2 := hblk.2.2.1 (k * 7 + 2) (by omega)
      have z2 := hblk.2.2.2 (k * 7 + 2)
      have d3 := hblk.2.2.1 (k * 7 + 3) (by omega)
      have z3 := hblk.2.2.2 (k * 7 + 3)
      have d4 := hblk.2.2.1 (k * 7 + 4) (by omega)
      have z4 := hblk.2.2.2 (k * 7 + 4)
      have d5 := hblk.2.2.1 (k * 7 + 5) (by omega)
      have z5 := hblk.2.2.2 (k * 7 + 5)
      have d6 := hblk.2.2.1 (k * 7 + 6) (by omega)
      have z6 := hblk.2.2.2 (k * 7 + 6)
      have hsz := hblk.1
      clear hblk hb hc
      have hxs := szle_at (f := DExpr.sz) l k hlt
      generalize hx : l.getD k default = x at *
      have HX := Lib.hid hx
      clear hx
      generalize xs.getD (k * 7) Value.nilFunc = v0 at d0
      generalize xs.getD (k * 7 + 1) Value.nilFunc = v1 at d1
      generalize xs.getD (k * 7 + 2) Value.nilFunc = v2 at d2
      generalize xs.getD (k * 7 + 3) Value.nilFunc = v3 at d3
      generalize xs.getD (k * 7 + 4) Value.nilFunc = v4 at d4
      generalize xs.getD (k * 7 + 5) Value.nilFunc = v5 at d5
      generalize xs.getD (k * 7 + 6) Value.nilFunc = v6 at d6
      have HT := Lib.hid (hE (c6 := c6) (by have h1 := HW.out; omega) wr hhr hs6)
      clear hxs hs6
      go_wp2_with fail
      refine HT.out.mono ?_
      rintro e w1 ⟨a6r, c6r, rfl, ho1, hb1⟩
      have HOR := Lib.hid ho1
      clear ho1
      have e0 := (hb1.cell (p := ⟨w.heap.size, k * 7, none⟩) hsz).trans d0
      have y0 := (hb1.frozen (p := ⟨w.heap.size, k * 7, none⟩) hsz).trans z0
      have e1 := (hb1.cell (p := ⟨w.heap.size, k * 7 + 1, none⟩) hsz).trans d1
      have y1 := (hb1.frozen (p := ⟨w.heap.size, k * 7 + 1, none⟩) hsz).trans z1
      have e2 := (hb1.cell (p := ⟨w.heap.size, k * 7 + 2, none⟩) hsz).trans d2
      have y2 := (hb1.frozen (p := ⟨w.heap.size, k * 7 + 2, none⟩) hsz).trans z2
      have e3 := (hb1.cell (p := ⟨w.heap.size, k * 7 + 3, none⟩) hsz).trans d3
      have y3 := (hb1.frozen (p := ⟨w.heap.size, k * 7 + 3, none⟩) hsz).trans z3
      have e4 := (hb1.cell (p := ⟨w.heap.size, k * 7 + 4, none⟩) hsz).trans d4
      have y4 := (hb1.frozen (p := ⟨w.heap.size, k * 7 + 4, none⟩) hsz).trans z4
      have e5 := (hb1.cell (p := ⟨w.heap.size, k * 7 + 5, none⟩) hsz).trans d5
      have y5 := (hb1.frozen (p := ⟨w.heap.size, k * 7 + 5, none⟩) hsz).trans z5
      have e6 := (hb1.cell (p := ⟨w.heap.size, k * 7 + 6, none⟩) hsz).trans d6
      have y6 := (hb1.frozen (p := ⟨w.heap.size, k * 7 + 6, none⟩) hsz).trans z6
      have HB1 := Lib.hid hb1
      clear hb1 d0 z0 d1 z1 d2 z2 d3 z3 d4 z4 d5 z5 d6 z6
      go_wp2
      go_roundw
      case rel =>
        have hst := HF.out.stored HB1.out hsz (ownsRow_below HO.out HB1.out) hlt [.int .i64 x.fKind, .int .i64 x.fN, .int .i64 x.fPos, .int .i64 x.fType, .string x.fSymbol, .string x.fName, .slice a6r x.fArgs.length c6r] rfl ((by rw [ctE_at hlt, HX.out]; exact HOR.out))
        exact ⟨k + 1, _, by omega, by go_num, hst.1, hst.2, setCells_below (Nat.le_refl _) [_, _, _, _, _, _, _] _ (HB.out.trans (HB1.out.mono HB.out.size))⟩
      case measure => simp [intOf]; omega
    · obtain rfl : k = l.length := by omega
      go_wp2
      go_ret
      exact ⟨_, _, rfl, HF.out.own hblk.1 hblk.2.2.1 hblk.2.2.2, hb⟩

theorem laws_toExprS_all (l : List DExpr) (HE : ∀ x ∈ l, ToOf1 x) : ToOfS l := by
  intro lo hi a cap hsz w hhi hs
  exact laws_toExprS_of l HE (lo := lo) (hi := hi) (a := a) (cap := cap) hsz w hhi hs

theorem laws_toExpr_each : ∀ x : DExpr, ToOf1 x := DExpr.ind fun x ih => laws_toExpr_all x (laws_toExprS_all x.fArgs ih)

theorem laws_toExpr {lo hi : Nat} {a6 : Option Addr} {c6 : Nat} (x : DExpr) (hsz : x.sz ≤ 1048576) (w : World) (hhi : hi ≤ w.heap.size) (hs6 : Sl lo hi w 7 x.fArgs.length (ctE x.fArgs) a6) :
    Calls Tryz.prog 90 #[.agg #[.int .i64 x.fKind, .int .i64 x.fN, .int .i64 x.fPos, .int .i64 x.fType, .string x.fSymbol, .string x.fName, .slice a6 x.fArgs.length c6]] w fun e w' => ∃ a6r c6r, e = .returned (.agg #[.int .i64 x.fKind, .int .i64 x.fN, .int .i64 x.fPos, .int .i64 x.fType, .string x.fSymbol, .string x.fName, .slice a6r x.fArgs.length c6r]) ∧ OwnR w' (fun y => w.heap.size ≤ y ∧ y < w'.heap.size) 7 x.ct (fun j => [.int .i64 x.fKind, .int .i64 x.fN, .int .i64 x.fPos, .int .i64 x.fType, .string x.fSymbol, .string x.fName, .slice a6r x.fArgs.length c6r].getD j .nilFunc) ∧ Below w.heap.size w w' := laws_toExpr_each x (lo := lo) (hi := hi) (a6 := a6) (c6 := c6) hsz w hhi hs6

def EqOf1 (x : DExpr) : Prop := ∀ {lo hi lo2 hi2 : Nat} {a6 : Option Addr} {c6 : Nat} {a6q : Option Addr} {c6q : Nat} (_hsz : x.sz ≤ 1048576) (w : World) (_hhi : hi ≤ w.heap.size) (_hhi2 : hi2 ≤ w.heap.size) (_hs6 : Sl lo hi w 7 x.fArgs.length (ctE x.fArgs) a6) (_hs6q : Sl lo2 hi2 w 7 x.fArgs.length (ctE x.fArgs) a6q), Calls Tryz.prog 106 #[.agg #[.int .i64 x.fKind, .int .i64 x.fN, .int .i64 x.fPos, .int .i64 x.fType, .string x.fSymbol, .string x.fName, .slice a6 x.fArgs.length c6], .agg #[.int .i64 x.fKind, .int .i64 x.fN, .int .i64 x.fPos, .int .i64 x.fType, .string x.fSymbol, .string x.fName, .slice a6q x.fArgs.length c6q]] w fun e w' => e = .returned (.bool true) ∧ Below w.heap.size w w'

def EqOfS (l : List DExpr) : Prop := ∀ {lo hi lo2 hi2 : Nat} {a a2 : Option Addr} {cap cap2 : Nat} (_hsz : lsz DExpr.sz l ≤ 1048576) (w : World) (_hhi : hi ≤ w.heap.size) (_hhi2 : hi2 ≤ w.heap.size) (_hs : Sl lo hi w 7 l.length (ctE l) a) (_hs2 : Sl lo2 hi2 w 7 l.length (ctE l) a2), Calls Tryz.prog 130 #[.slice a l.length cap, .slice a2 l.length cap2] w fun e w' => e = .returned (.bool true) ∧ Below w.heap.size w w'

set_option maxHeartbeats 1600000 in
set_option maxRecDepth 100000 in
theorem laws_eqExpr_of {lo hi lo2 hi2 : Nat} {a6 : Option Addr} {c6 : Nat} {a6q : Option Addr} {c6q : Nat} (x : DExpr) (HA : EqOfS x.fArgs) (hsz : x.sz ≤ 1048576) (w : World) (hhi : hi ≤ w.heap.size) (hhi2 : hi2 ≤ w.heap.size) (hs6 : Sl lo hi w 7 x.fArgs.length (ctE x.fArgs) a6) (hs6q : Sl lo2 hi2 w 7 x.fArgs.length (ctE x.fArgs) a6q) :
    Calls Tryz.prog 106 #[.agg #[.int .i64 x.fKind, .int .i64 x.fN, .int .i64 x.fPos, .int .i64 x.fType, .string x.fSymbol, .string x.fName, .slice a6 x.fArgs.length c6], .agg #[.int .i64 x.fKind, .int .i64 x.fN, .int .i64 x.fPos, .int .i64 x.fType, .string x.fSymbol, .string x.fName, .slice a6q x.fArgs.length c6q]] w fun e w' => e = .returned (.bool true) ∧ Below w.heap.size w w' := by
  have HS6 := Lib.hid hs6
  have HS6q := Lib.hid hs6q
  clear hs6 hs6q
  have HW := Lib.hid hsz
  clear hsz
  have HB0 := Lib.hid (((Below.refl w.heap.size w).alloc (Nat.le_refl _) (.cells #[.int .i64 x.fKind, .int .i64 x.fN, .int .i64 x.fPos, .int .i64 x.fType, .string x.fSymbol, .string x.fName, .slice a6 x.fArgs.length c6] 64)).alloc (by simp <;> omega) (.cells #[.int .i64 x.fKind, .int .i64 x.fN, .int .i64 x.fPos, .int .i64 x.fType, .string x.fSymbol, .string x.fName, .slice a6q x.fArgs.length c6q] 64))
  have ht0 := fun (w' : World) (hhi : hi ≤ w'.heap.size) (hhi2 : hi2 ≤ w'.heap.size) (hs : Sl lo hi w' 7 x.fArgs.length (ctE x.fArgs) a6) (hs2 : Sl lo2 hi2 w' 7 x.fArgs.length (ctE x.fArgs) a6q) => HA (cap := c6) (cap2 := c6q) (by have h := HW.out; rw [DExpr.sz_eq] at h; omega) w' hhi hhi2 hs hs2
  have HT0 := Lib.hid ht0
  clear ht0
  go_enter Tryz.func106, Tryz.ntmps106
  go_wp2_with fail
  refine (HT0.out _ (Nat.le_trans hhi (HB0.out.size)) (Nat.le_trans hhi2 (HB0.out.size)) (HS6.out.later HB0.out hhi) (HS6q.out.later HB0.out hhi2)).mono ?_
  rintro e w1 ⟨rfl, hb1⟩
  have HB1 := Lib.hid (HB0.out.trans (hb1.mono HB0.out.size))
  clear hb1
  go_wp2
  go_ret
  exact ⟨rfl, HB1.out⟩

theorem laws_eqExpr_all (x : DExpr) (HA : EqOfS x.fArgs) : EqOf1 x := by
  intro lo hi lo2 hi2 a6 c6 a6q c6q hsz w hhi hhi2 hs6 hs6q
  exact laws_eqExpr_of x HA (lo := lo) (hi := hi) (lo2 := lo2) (hi2 := hi2) (a6 := a6) (c6 := c6) (a6q := a6q) (c6q := c6q) hsz w hhi hhi2 hs6 hs6q

set_option maxHeartbeats 1600000 in
set_option maxRecDepth 100000 in
theorem laws_eqExprS_of {lo hi lo2 hi2 : Nat} {a a2 : Option Addr} {cap cap2 : Nat} (l : List DExpr) (HE : ∀ x ∈ l, EqOf1 x) (hsz : lsz DExpr.sz l ≤ 1048576) (w : World) (hhi : hi ≤ w.heap.size) (hhi2 : hi2 ≤ w.heap.size) (hs : Sl lo hi w 7 l.length (ctE l) a) (hs2 : Sl lo2 hi2 w 7 l.length (ctE l) a2) :
    Calls Tryz.prog 130 #[.slice a l.length cap, .slice a2 l.length cap2] w fun e w' => e = .returned (.bool true) ∧ Below w.heap.size w w' := by
  have HEH := Lib.hid HE
  clear HE
  have HS := Lib.hid hs
  have HS2 := Lib.hid hs2
  have HW := Lib.hid hsz
  have hn : l.length ≤ 1048576 := by unfold lsz at hsz; omega
  clear hs hs2 hsz
  go_enter Tryz.func130, Tryz.ntmps130
  go_wp2
  go_loopw [5] (fun i wr => ∃ k : Nat, k ≤ l.length ∧ i = .int .i64 (k : Int) ∧ Below w.heap.size w wr) (fun i _ => l.length - (intOf i).toNat)
  case atStart => exact ⟨0, Nat.zero_le _, rfl, Below.refl _ _⟩
  case round =>
    obtain ⟨k, hk, rfl, hb⟩ := hrel
    have HB := Lib.hid hb
    by_cases hlt : k < l.length
    · have hE : EqOf1 (l.getD k default) := @Hid.out _ HEH _ (getD_mem hlt)
      have hhr : hi ≤ wr.heap.size := Nat.le_trans hhi hb.size
      have hhr2 : hi2 ≤ wr.heap.size := Nat.le_trans hhi2 hb.size
      obtain ⟨b, off, rfl, _, hhi', hc⟩ := (HS.out.later (hb.mono hhi) (Nat.le_refl _)).at k hlt
      obtain ⟨b2, off2, rfl, _, hhi2', hc2⟩ := (HS2.out.later (hb.mono hhi2) (Nat.le_refl _)).at k hlt
      obtain ⟨a6, c6, hc0_, hc1_, hc2_, hc3_, hc4_, hc5_, hc6_, hs6⟩ := DExpr.open (by rw [ctE_at hlt] at hc; exact hc)
      obtain ⟨a6q, c6q, hc0q_, hc1q_, hc2q_, hc3q_, hc4q_, hc5q_, hc6q_, hs6q⟩ := DExpr.open (by rw [ctE_at hlt] at hc2; exact hc2)
      have hxs := szle_at (f := DExpr.sz) l k hlt
      clear hb hc hc2
      generalize l.getD k default = x at *
      have HT := Lib.hid (fun (w' : World) (hw : Below wr.heap.size wr w') => hE (c6 := c6) (c6q := c6q) (by have h1 := HW.out; omega) w' (Nat.le_trans hhr hw.size) (Nat.le_trans hhr2 hw.size) (hs6.later hw hhr) (hs6q.later hw hhr2))
      clear hxs hs6 hs6q
      go_wp2_with fail
      go_region_with ((go_at_call 106; refine (HT.out _ (by first | exact Below.refl _ _ | exact (Below.refl _ _).drew | exact below_drewN (Below.refl _ _) _)).mono ?_; rintro e w1 ⟨rfl, hb1⟩))
      all_goals
        go_wp2
        go_roundw
        case rel =>
          refine ⟨k + 1, by omega, by go_num, ?_⟩
          have hb2 : Below wr.heap.size wr w1 := ⟨hb1.os, hb1.tape, hb1.output, hb1.size, hb1.block⟩
          repeat (first | exact HB.out.trans (hb2.mono HB.out.size) | apply Below.drew | refine below_drewN ?_ _)
        case measure => simp [intOf]; omega
    · go_wp2
      go_ret
      exact ⟨rfl, HB.out⟩

theorem laws_eqExprS_all (l : List DExpr) (HE : ∀ x ∈ l, EqOf1 x) : EqOfS l := by
  intro lo hi lo2 hi2 a a2 cap cap2 hsz w hhi hhi2 hs hs2
  exact laws_eqExprS_of l HE (lo := lo) (hi := hi) (lo2 := lo2) (hi2 := hi2) (a := a) (a2 := a2) (cap := cap) (cap2 := cap2) hsz w hhi hhi2 hs hs2

theorem laws_eqExpr_each : ∀ x : DExpr, EqOf1 x := DExpr.ind fun x ih => laws_eqExpr_all x (laws_eqExprS_all x.fArgs ih)

theorem laws_eqExpr {lo hi lo2 hi2 : Nat} {a6 : Option Addr} {c6 : Nat} {a6q : Option Addr} {c6q : Nat} (x : DExpr) (hsz : x.sz ≤ 1048576) (w : World) (hhi : hi ≤ w.heap.size) (hhi2 : hi2 ≤ w.heap.size) (hs6 : Sl lo hi w 7 x.fArgs.length (ctE x.fArgs) a6) (hs6q : Sl lo2 hi2 w 7 x.fArgs.length (ctE x.fArgs) a6q) :
    Calls Tryz.prog 106 #[.agg #[.int .i64 x.fKind, .int .i64 x.fN, .int .i64 x.fPos, .int .i64 x.fType, .string x.fSymbol, .string x.fName, .slice a6 x.fArgs.length c6], .agg #[.int .i64 x.fKind, .int .i64 x.fN, .int .i64 x.fPos, .int .i64 x.fType, .string x.fSymbol, .string x.fName, .slice a6q x.fArgs.length c6q]] w fun e w' => e = .returned (.bool true) ∧ Below w.heap.size w w' := laws_eqExpr_each x (lo := lo) (hi := hi) (lo2 := lo2) (hi2 := hi2) (a6 := a6) (c6 := c6) (a6q := a6q) (c6q := c6q) hsz w hhi hhi2 hs6 hs6q

end Go.Proofs.YtnmepemmpeboeaaGreat
namespace Go.Proofs.YtnmepemmpeboeaaGreat
open Go.ChangeShapes Go.WideShapes Go.ChangeAt Go.RowKit Go.Deep

structure DContribution where
  fSymbol : ByteArray
  fName : ByteArray
  fTarget : DExpr
  fValue : DExpr
  deriving Inhabited

def DContribution.ct (x : DContribution) : Nat → Ct
  | 0 => .lit (.string x.fSymbol)
  | 1 => .lit (.string x.fName)
  | 2 => .lit (.int .i64 x.fTarget.fKind)
  | 3 => .lit (.int .i64 x.fTarget.fN)
  | 4 => .lit (.int .i64 x.fTarget.fPos)
  | 5 => .lit (.int .i64 x.fTarget.fType)
  | 6 => .lit (.string x.fTarget.fSymbol)
  | 7 => .lit (.string x.fTarget.fName)
  | 8 => .sl 7 x.fTarget.fArgs.length (ctE x.fTarget.fArgs)
  | 9 => .lit (.int .i64 x.fValue.fKind)
  | 10 => .lit (.int .i64 x.fValue.fN)
  | 11 => .lit (.int .i64 x.fValue.fPos)
  | 12 => .lit (.int .i64 x.fValue.fType)
  | 13 => .lit (.string x.fValue.fSymbol)
  | 14 => .lit (.string x.fValue.fName)
  | 15 => .sl 7 x.fValue.fArgs.length (ctE x.fValue.fArgs)
  | _ => .lit .nilFunc

def DContribution.ok (x : DContribution) : Prop := okS x.fSymbol ∧ okS x.fName ∧ DExpr.ok x.fTarget ∧ DExpr.ok x.fValue

def DContribution.sz (x : DContribution) : Nat := x.fSymbol.size + x.fName.size + DExpr.sz x.fTarget + DExpr.sz x.fValue

theorem DContribution.open {lo hi b o : Nat} {w : World} {x : DContribution} (h : ∀ j, j < 16 → ∃ u, w.cell? ⟨b, o + j, none⟩ = some u ∧ Lies lo hi w (x.ct j) u) :
    ∃ a8 c8, ∃ a15 c15, w.cell? ⟨b, o, none⟩ = some (.string x.fSymbol) ∧ w.cell? ⟨b, o + 1, none⟩ = some (.string x.fName) ∧ w.cell? ⟨b, o + 2, none⟩ = some (.int .i64 x.fTarget.fKind) ∧ w.cell? ⟨b, o + 3, none⟩ = some (.int .i64 x.fTarget.fN) ∧ w.cell? ⟨b, o + 4, none⟩ = some (.int .i64 x.fTarget.fPos) ∧ w.cell? ⟨b, o + 5, none⟩ = some (.int .i64 x.fTarget.fType) ∧ w.cell? ⟨b, o + 6, none⟩ = some (.string x.fTarget.fSymbol) ∧ w.cell? ⟨b, o + 7, none⟩ = some (.string x.fTarget.fName) ∧ w.cell? ⟨b, o + 8, none⟩ = some (.slice a8 x.fTarget.fArgs.length c8) ∧ w.cell? ⟨b, o + 9, none⟩ = some (.int .i64 x.fValue.fKind) ∧ w.cell? ⟨b, o + 10, none⟩ = some (.int .i64 x.fValue.fN) ∧ w.cell? ⟨b, o + 11, none⟩ = some (.int .i64 x.fValue.fPos) ∧ w.cell? ⟨b, o + 12, none⟩ = some (.int .i64 x.fValue.fType) ∧ w.cell? ⟨b, o + 13, none⟩ = some (.string x.fValue.fSymbol) ∧ w.cell? ⟨b, o + 14, none⟩ = some (.string x.fValue.fName) ∧ w.cell? ⟨b, o + 15, none⟩ = some (.slice a15 x.fValue.fArgs.length c15) ∧ Sl lo hi w 7 x.fTarget.fArgs.length (ctE x.fTarget.fArgs) a8 ∧ Sl lo hi w 7 x.fValue.fArgs.length (ctE x.fValue.fArgs) a15 := by
  obtain ⟨u0, hc0, hl0⟩ := h 0 (by decide)
  obtain rfl := lies_lit hl0
  obtain ⟨u1, hc1, hl1⟩ := h 1 (by decide)
  obtain rfl := lies_lit hl1
  obtain ⟨u2, hc2, hl2⟩ := h 2 (by decide)
  obtain rfl := lies_lit hl2
  obtain ⟨u3, hc3, hl3⟩ := h 3 (by decide)
  obtain rfl := lies_lit hl3
  obtain ⟨u4, hc4, hl4⟩ := h 4 (by decide)
  obtain rfl := lies_lit hl4
  obtain ⟨u5, hc5, hl5⟩ := h 5 (by decide)
  obtain rfl := lies_lit hl5
  obtain ⟨u6, hc6, hl6⟩ := h 6 (by decide)
  obtain rfl := lies_lit hl6
  obtain ⟨u7, hc7, hl7⟩ := h 7 (by decide)
  obtain rfl := lies_lit hl7
  obtain ⟨u8, hc8, hl8⟩ := h 8 (by decide)
  obtain ⟨a8, c8, rfl, hs8⟩ := lies_sl hl8
  obtain ⟨u9, hc9, hl9⟩ := h 9 (by decide)
  obtain rfl := lies_lit hl9
  obtain ⟨u10, hc10, hl10⟩ := h 10 (by decide)
  obtain rfl := lies_lit hl10
  obtain ⟨u11, hc11, hl11⟩ := h 11 (by decide)
  obtain rfl := lies_lit hl11
  obtain ⟨u12, hc12, hl12⟩ := h 12 (by decide)
  obtain rfl := lies_lit hl12
  obtain ⟨u13, hc13, hl13⟩ := h 13 (by decide)
  obtain rfl := lies_lit hl13
  obtain ⟨u14, hc14, hl14⟩ := h 14 (by decide)
  obtain rfl := lies_lit hl14
  obtain ⟨u15, hc15, hl15⟩ := h 15 (by decide)
  obtain ⟨a15, c15, rfl, hs15⟩ := lies_sl hl15
  exact ⟨a8, c8, a15, c15, hc0, hc1, hc2, hc3, hc4, hc5, hc6, hc7, hc8, hc9, hc10, hc11, hc12, hc13, hc14, hc15, hs8, hs15⟩

theorem opens_contribution {H : Type} {enc : TypeId × Value → H} {w : World} (fuel : Nat) : Opens enc Tryz.prog w 101 16 DContribution.ct DContribution.ok fuel := by
  intro cs x h
  have hl := opens_len Tryz.underlying101 h
  obtain ⟨y0, k0, q0⟩ := opens_field Tryz.underlying101 h 0 _ rfl (ft := 9) (o := 0) (n := 1) rfl rfl (fun m _ => opens_string Tryz.underlying9 m) (by kernel_rfl)
  obtain ⟨y1, k1, q1⟩ := opens_field Tryz.underlying101 h 1 _ rfl (ft := 9) (o := 1) (n := 1) rfl rfl (fun m _ => opens_string Tryz.underlying9 m) (by kernel_rfl)
  obtain ⟨y2, k2, q2⟩ := opens_field Tryz.underlying101 h 2 _ rfl (ft := 96) (o := 2) (n := 7) rfl rfl (fun m _ => opens_expr m) (by kernel_rfl)
  obtain ⟨y3, k3, q3⟩ := opens_field Tryz.underlying101 h 3 _ rfl (ft := 96) (o := 9) (n := 7) rfl rfl (fun m _ => opens_expr m) (by kernel_rfl)
  refine ⟨⟨y0, y1, y2, y3⟩, ⟨k0, k1, k2, k3⟩, hl.trans (by kernel_rfl), fun j hj => ?_⟩
  match j, hj with
  | 0, _ => exact q0 0 (by decide)
  | 1, _ => exact q1 0 (by decide)
  | 2, _ => exact q2 0 (by decide)
  | 3, _ => exact q2 1 (by decide)
  | 4, _ => exact q2 2 (by decide)
  | 5, _ => exact q2 3 (by decide)
  | 6, _ => exact q2 4 (by decide)
  | 7, _ => exact q2 5 (by decide)
  | 8, _ => exact q2 6 (by decide)
  | 9, _ => exact q3 0 (by decide)
  | 10, _ => exact q3 1 (by decide)
  | 11, _ => exact q3 2 (by decide)
  | 12, _ => exact q3 3 (by decide)
  | 13, _ => exact q3 4 (by decide)
  | 14, _ => exact q3 5 (by decide)
  | 15, _ => exact q3 6 (by decide)
  | _ + 16, h9 => exact absurd h9 (by omega)

set_option maxHeartbeats 1600000 in
set_option maxRecDepth 100000 in
theorem laws_szContribution {lo hi : Nat} {a8 : Option Addr} {c8 : Nat} {a15 : Option Addr} {c15 : Nat} (x : DContribution) (L : Int) (hL0 : 0 ≤ L) (hL1 : L ≤ 1048576) (hx : x.ok) (w : World) (hhi : hi ≤ w.heap.size) (hs8 : Sl lo hi w 7 x.fTarget.fArgs.length (ctE x.fTarget.fArgs) a8) (hs15 : Sl lo hi w 7 x.fValue.fArgs.length (ctE x.fValue.fArgs) a15) :
    Calls Tryz.prog 54 #[.agg #[.string x.fSymbol, .string x.fName, .int .i64 x.fTarget.fKind, .int .i64 x.fTarget.fN, .int .i64 x.fTarget.fPos, .int .i64 x.fTarget.fType, .string x.fTarget.fSymbol, .string x.fTarget.fName, .slice a8 x.fTarget.fArgs.length c8, .int .i64 x.fValue.fKind, .int .i64 x.fValue.fN, .int .i64 x.fValue.fPos, .int .i64 x.fValue.fType, .string x.fValue.fSymbol, .string x.fValue.fName, .slice a15 x.fValue.fArgs.length c15], .int .i64 L] w fun e w' => e = .returned (.int .i64 (szR L x.sz)) ∧ Below w.heap.size w w' := by
  have HS8 := Lib.hid hs8
  have HS15 := Lib.hid hs15
  clear hs8 hs15
  have HX := Lib.hid hx
  clear hx
  have okSymbol : x.fSymbol.size ≤ 9223372036854775807 := HX.out.1
  have okName : x.fName.size ≤ 9223372036854775807 := HX.out.2.1
  have HB0 := Lib.hid ((Below.refl w.heap.size w).alloc (Nat.le_refl _) (.cells #[.string x.fSymbol, .string x.fName, .int .i64 x.fTarget.fKind, .int .i64 x.fTarget.fN, .int .i64 x.fTarget.fPos, .int .i64 x.fTarget.fType, .string x.fTarget.fSymbol, .string x.fTarget.fName, .slice a8 x.fTarget.fArgs.length c8, .int .i64 x.fValue.fKind, .int .i64 x.fValue.fN, .int .i64 x.fValue.fPos, .int .i64 x.fValue.fType, .string x.fValue.fSymbol, .string x.fValue.fName, .slice a15 x.fValue.fArgs.length c15] 101))
  by_cases h0 : L < ((x.fSymbol.size : Nat) : Int)
  · skip
    have fin := Lib.hid (szR_gt (n := x.sz) (L := L) (by unfold DContribution.sz; omega))
    go_enter Tryz.func54, Tryz.ntmps54
    go_wp2
    go_ret
    exact ⟨ret_i (by rw [fin.out]), HB0.out⟩
  · skip
    by_cases h1 : (L - (x.fSymbol.size : Nat)) < ((x.fName.size : Nat) : Int)
    · skip
      have fin := Lib.hid (szR_gt (n := x.sz) (L := L) (by unfold DContribution.sz; omega))
      go_enter Tryz.func54, Tryz.ntmps54
      go_wp2
      go_ret
      exact ⟨ret_i (by rw [fin.out]), HB0.out⟩
    · skip
      by_cases h2 : ((L - (x.fSymbol.size : Nat)) - (x.fName.size : Nat)) < ((DExpr.sz x.fTarget : Nat) : Int)
      · skip
        have hz0 := fun (w' : World) (hhi : hi ≤ w'.heap.size) (hs8 : Sl lo hi w' 7 x.fTarget.fArgs.length (ctE x.fTarget.fArgs) a8) => laws_szExpr (c6 := c8) x.fTarget ((L - (x.fSymbol.size : Nat)) - (x.fName.size : Nat)) (by omega) (by omega) HX.out.2.2.1 w' hhi hs8
        rw [szR_gt (by omega)] at hz0
        have HZ0 := Lib.hid hz0
        clear hz0
        have fin := Lib.hid (szR_gt (n := x.sz) (L := L) (by unfold DContribution.sz; omega))
        go_enter Tryz.func54, Tryz.ntmps54
        go_wp2_with fail
        refine (HZ0.out _ (Nat.le_trans hhi HB0.out.size) (HS8.out.later HB0.out hhi)).mono ?_
        rintro e w1 ⟨rfl, hb1⟩
        have hsz1 : w.heap.size < w1.heap.size := Nat.lt_of_lt_of_le (by first | omega | (simp; done) | (simp; omega)) hb1.size
        have HB1 := Lib.hid (HB0.out.trans (hb1.mono HB0.out.size))
        clear hb1
        go_wp2
        go_ret
        exact ⟨ret_i (by rw [fin.out]), HB1.out⟩
      · skip
        by_cases h3 : (((L - (x.fSymbol.size : Nat)) - (x.fName.size : Nat)) - (DExpr.sz x.fTarget : Nat)) < ((DExpr.sz x.fValue : Nat) : Int)
        · skip
          have hz0 := fun (w' : World) (hhi : hi ≤ w'.heap.size) (hs8 : Sl lo hi w' 7 x.fTarget.fArgs.length (ctE x.fTarget.fArgs) a8) => laws_szExpr (c6 := c8) x.fTarget ((L - (x.fSymbol.size : Nat)) - (x.fName.size : Nat)) (by omega) (by omega) HX.out.2.2.1 w' hhi hs8
          rw [szR_le (by omega)] at hz0
          have HZ0 := Lib.hid hz0
          clear hz0
          have hz1 := fun (w' : World) (hhi : hi ≤ w'.heap.size) (hs15 : Sl lo hi w' 7 x.fValue.fArgs.length (ctE x.fValue.fArgs) a15) => laws_szExpr (c6 := c15) x.fValue (((L - (x.fSymbol.size : Nat)) - (x.fName.size : Nat)) - (DExpr.sz x.fTarget : Nat)) (by omega) (by omega) HX.out.2.2.2 w' hhi hs15
          rw [szR_gt (by omega)] at hz1
          have HZ1 := Lib.hid hz1
          clear hz1
          have fin := Lib.hid (szR_gt (n := x.sz) (L := L) (by unfold DContribution.sz; omega))
          go_enter Tryz.func54, Tryz.ntmps54
          go_wp2_with fail
          refine (HZ0.out _ (Nat.le_trans hhi HB0.out.size) (HS8.out.later HB0.out hhi)).mono ?_
          rintro e w1 ⟨rfl, hb1⟩
          have hsz1 : w.heap.size < w1.heap.size := Nat.lt_of_lt_of_le (by first | omega | (simp; done) | (simp; omega)) hb1.size
          have x1_0_9 : w1.cell? ⟨w.heap.size, 9, none⟩ = some (.int .i64 x.fValue.fKind) := (hb1.cell (p := ⟨w.heap.size, 9, none⟩) (by first | omega | (simp; done) | (simp; omega) | (simp [World.setCell]; omega))).trans (by go_simp)
          have x1_0_10 : w1.cell? ⟨w.heap.size, 10, none⟩ = some (.int .i64 x.fValue.fN) := (hb1.cell (p := ⟨w.heap.size, 10, none⟩) (by first | omega | (simp; done) | (simp; omega) | (simp [World.setCell]; omega))).trans (by go_simp)
          have x1_0_11 : w1.cell? ⟨w.heap.size, 11, none⟩ = some (.int .i64 x.fValue.fPos) := (hb1.cell (p := ⟨w.heap.size, 11, none⟩) (by first | omega | (simp; done) | (simp; omega) | (simp [World.setCell]; omega))).trans (by go_simp)
          have x1_0_12 : w1.cell? ⟨w.heap.size, 12, none⟩ = some (.int .i64 x.fValue.fType) := (hb1.cell (p := ⟨w.heap.size, 12, none⟩) (by first | omega | (simp; done) | (simp; omega) | (simp [World.setCell]; omega))).trans (by go_simp)
          have x1_0_13 : w1.cell? ⟨w.heap.size, 13, none⟩ = some (.string x.fValue.fSymbol) := (hb1.cell (p := ⟨w.heap.size, 13, none⟩) (by first | omega | (simp; done) | (simp; omega) | (simp [World.setCell]; omega))).trans (by go_simp)
          have x1_0_14 : w1.cell? ⟨w.heap.size, 14, none⟩ = some (.string x.fValue.fName) := (hb1.cell (p := ⟨w.heap.size, 14, none⟩) (by first | omega | (simp; done) | (simp; omega) | (simp [World.setCell]; omega))).trans (by go_simp)
          have x1_0_15 : w1.cell? ⟨w.heap.size, 15, none⟩ = some (.slice a15 x.fValue.fArgs.length c15) := (hb1.cell (p := ⟨w.heap.size, 15, none⟩) (by first | omega | (simp; done) | (simp; omega) | (simp [World.setCell]; omega))).trans (by go_simp)
          have HB1 := Lib.hid (HB0.out.trans (hb1.mono HB0.out.size))
          clear hb1
          go_wp2_with fail
          refine (HZ1.out _ (Nat.le_trans hhi HB1.out.size) (HS15.out.later HB1.out hhi)).mono ?_
          rintro e w2 ⟨rfl, hb2⟩
          have hsz2 : w.heap.size < w2.heap.size := Nat.lt_of_lt_of_le (by first | omega | (simp; done) | (simp; omega)) hb2.size
          have HB2 := Lib.hid (HB1.out.trans (hb2.mono HB1.out.size))
          clear hb2
          go_wp2
          go_ret
          exact ⟨ret_i (by rw [fin.out]), HB2.out⟩
        · skip
          have hz0 := fun (w' : World) (hhi : hi ≤ w'.heap.size) (hs8 : Sl lo hi w' 7 x.fTarget.fArgs.length (ctE x.fTarget.fArgs) a8) => laws_szExpr (c6 := c8) x.fTarget ((L - (x.fSymbol.size : Nat)) - (x.fName.size : Nat)) (by omega) (by omega) HX.out.2.2.1 w' hhi hs8
          rw [szR_le (by omega)] at hz0
          have HZ0 := Lib.hid hz0
          clear hz0
          have hz1 := fun (w' : World) (hhi : hi ≤ w'.heap.size) (hs15 : Sl lo hi w' 7 x.fValue.fArgs.length (ctE x.fValue.fArgs) a15) => laws_szExpr (c6 := c15) x.fValue (((L - (x.fSymbol.size : Nat)) - (x.fName.size : Nat)) - (DExpr.sz x.fTarget : Nat)) (by omega) (by omega) HX.out.2.2.2 w' hhi hs15
          rw [szR_le (by omega)] at hz1
          have HZ1 := Lib.hid hz1
          clear hz1
          have fin := Lib.hid (szR_le (n := x.sz) (L := L) (by unfold DContribution.sz; omega))
          go_enter Tryz.func54, Tryz.ntmps54
          go_wp2_with fail
          refine (HZ0.out _ (Nat.le_trans hhi HB0.out.size) (HS8.out.later HB0.out hhi)).mono ?_
          rintro e w1 ⟨rfl, hb1⟩
          have hsz1 : w.heap.size < w1.heap.size := Nat.lt_of_lt_of_le (by first | omega | (simp; done) | (simp; omega)) hb1.size
          have x1_0_9 : w1.cell? ⟨w.heap.size, 9, none⟩ = some (.int .i64 x.fValue.fKind) := (hb1.cell (p := ⟨w.heap.size, 9, none⟩) (by first | omega | (simp; done) | (simp; omega) | (simp [World.setCell]; omega))).trans (by go_simp)
          have x1_0_10 : w1.cell? ⟨w.heap.size, 10, none⟩ = some (.int .i64 x.fValue.fN) := (hb1.cell (p := ⟨w.heap.size, 10, none⟩) (by first | omega | (simp; done) | (simp; omega) | (simp [World.setCell]; omega))).trans (by go_simp)
          have x1_0_11 : w1.cell? ⟨w.heap.size, 11, none⟩ = some (.int .i64 x.fValue.fPos) := (hb1.cell (p := ⟨w.heap.size, 11, none⟩) (by first | omega | (simp; done) | (simp; omega) | (simp [World.setCell]; omega))).trans (by go_simp)
          have x1_0_12 : w1.cell? ⟨w.heap.size, 12, none⟩ = some (.int .i64 x.fValue.fType) := (hb1.cell (p := ⟨w.heap.size, 12, none⟩) (by first | omega | (simp; done) | (simp; omega) | (simp [World.setCell]; omega))).trans (by go_simp)
          have x1_0_13 : w1.cell? ⟨w.heap.size, 13, none⟩ = some (.string x.fValue.fSymbol) := (hb1.cell (p := ⟨w.heap.size, 13, none⟩) (by first | omega | (simp; done) | (simp; omega) | (simp [World.setCell]; omega))).trans (by go_simp)
          have x1_0_14 : w1.cell? ⟨w.heap.size, 14, none⟩ = some (.string x.fValue.fName) := (hb1.cell (p := ⟨w.heap.size, 14, none⟩) (by first | omega | (simp; done) | (simp; omega) | (simp [World.setCell]; omega))).trans (by go_simp)
          have x1_0_15 : w1.cell? ⟨w.heap.size, 15, none⟩ = some (.slice a15 x.fValue.fArgs.length c15) := (hb1.cell (p := ⟨w.heap.size, 15, none⟩) (by first | omega | (simp; done) | (simp; omega) | (simp [World.setCell]; omega))).trans (by go_simp)
          have HB1 := Lib.hid (HB0.out.trans (hb1.mono HB0.out.size))
          clear hb1
          go_wp2_with fail
          refine (HZ1.out _ (Nat.le_trans hhi HB1.out.size) (HS15.out.later HB1.out hhi)).mono ?_
          rintro e w2 ⟨rfl, hb2⟩
          have hsz2 : w.heap.size < w2.heap.size := Nat.lt_of_lt_of_le (by first | omega | (simp; done) | (simp; omega)) hb2.size
          have HB2 := Lib.hid (HB1.out.trans (hb2.mono HB1.out.size))
          clear hb2
          go_wp2
          go_ret
          exact ⟨ret_i (by rw [fin.out]; unfold DContribution.sz; omega), HB2.out⟩

set_option maxHeartbeats 1600000 in
set_option maxRecDepth 100000 in
theorem laws_szContributionS {lo hi : Nat} {a : Option Addr} {cap : Nat} (l : List DContribution) (L : Int) (hL0 : 0 ≤ L) (hL1 : L ≤ 1048576) (hok : okL DContribution.ok l) (w : World) (hhi : hi ≤ w.heap.size) (hs : Sl lo hi w 16 l.length (fun k => DContribution.ct (l.getD k default)) a) :
    Calls Tryz.prog 21 #[.slice a l.length cap, .int .i64 L] w fun e w' => e = .returned (.int .i64 (szR L (lsz DContribution.sz l))) ∧ Below w.heap.size w w' := by
  have HS := Lib.hid hs
  have HK := Lib.hid hok
  have hn : l.length ≤ 9223372036854775807 := hok.1
  clear hs hok
  by_cases hlong : L < ((l.length : Nat) : Int)
  · have fin := Lib.hid (szR_gt (n := lsz DContribution.sz l) (L := L) (by unfold lsz; omega))
    go_enter Tryz.func21, Tryz.ntmps21
    go_wp2
    go_ret
    exact ⟨ret_i fin.out.symm, Below.refl _ _⟩
  · go_enter Tryz.func21, Tryz.ntmps21
    go_wp2
    go_loopw [1, 5] (fun q i wr => ∃ k : Nat, k ≤ l.length ∧ i = .int .i64 (k : Int) ∧ q = .int .i64 (L - l.length - psz DContribution.sz l k) ∧ (l.length : Int) + psz DContribution.sz l k ≤ L ∧ Below w.heap.size w wr) (fun _ i _ => l.length - (intOf i).toNat)
    case atStart => exact ⟨0, Nat.zero_le _, rfl, by rw [psz_zero]; go_num, by rw [psz_zero]; omega, Below.refl _ _⟩
    case round =>
      obtain ⟨k, hk, rfl, rfl, hle, hb⟩ := hrel
      have HB := Lib.hid hb
      by_cases hlt : k < l.length
      · have hsu := Lib.hid (psz_succ DContribution.sz l k hlt)
        have hle2 := Lib.hid (psz_le DContribution.sz l (k + 1))
        have hokk := HK.out.at hlt
        have hhr : hi ≤ wr.heap.size := Nat.le_trans hhi hb.size
        obtain ⟨b, off, rfl, hlo, hhi', hc⟩ := (HS.out.later (hb.mono hhi) (Nat.le_refl _)).at k hlt
        clear hb
        obtain ⟨a8, c8, a15, c15, hc0_, hc1_, hc2_, hc3_, hc4_, hc5_, hc6_, hc7_, hc8_, hc9_, hc10_, hc11_, hc12_, hc13_, hc14_, hc15_, hs8, hs15⟩ := DContribution.open hc
        clear hc
        generalize l.getD k default = x at *
        generalize psz DContribution.sz l k = S at *
        have hZ := laws_szContribution (c8 := c8) (c15 := c15) x (L - l.length - S) (by omega) (by omega) hokk wr hhr hs8 hs15
        by_cases hf : ((x.sz : Nat) : Int) ≤ L - l.length - S
        · rw [szR_le hf] at hZ
          have HZ := Lib.hid hZ
          clear hZ hokk hs8 hs15
          go_wp2_with fail
          refine HZ.out.mono ?_
          rintro e w1 ⟨rfl, hb1⟩
          have HB1 := Lib.hid hb1
          clear hb1
          go_wp2
          go_roundw
          case rel => exact ⟨k + 1, by omega, by go_num, by rw [hsu.out]; go_num, by rw [hsu.out]; omega, HB.out.trans (HB1.out.mono HB.out.size)⟩
          case measure => simp [intOf]; omega
        · have fin := Lib.hid (szR_gt (n := lsz DContribution.sz l) (L := L) (by have h1 := hsu.out; have h2 := hle2.out; omega))
          rw [szR_gt (by omega)] at hZ
          have HZ := Lib.hid hZ
          clear hZ hokk hs8 hs15
          go_wp2_with fail
          refine HZ.out.mono ?_
          rintro e w1 ⟨rfl, hb1⟩
          have HB1 := Lib.hid hb1
          clear hb1
          go_wp2
          go_ret
          exact ⟨ret_i fin.out.symm, HB.out.trans (HB1.out.mono HB.out.size)⟩
      · obtain rfl : k = l.length := by omega
        have fin := Lib.hid (szR_le (n := lsz DContribution.sz l) (L := L) (by unfold lsz; rw [psz_all] at hle; omega))
        have fin2 := Lib.hid (psz_all DContribution.sz l)
        go_wp2
        go_ret
        exact ⟨ret_i (by rw [fin.out, fin2.out]; unfold lsz; omega), HB.out⟩

set_option maxHeartbeats 6400000 in
set_option maxRecDepth 100000 in
theorem laws_toContribution {lo hi : Nat} {a8 : Option Addr} {c8 : Nat} {a15 : Option Addr} {c15 : Nat} (x : DContribution) (hsz : x.sz ≤ 1048576) (w : World) (hhi : hi ≤ w.heap.size) (hs8 : Sl lo hi w 7 x.fTarget.fArgs.length (ctE x.fTarget.fArgs) a8) (hs15 : Sl lo hi w 7 x.fValue.fArgs.length (ctE x.fValue.fArgs) a15) :
    Calls Tryz.prog 64 #[.agg #[.string x.fSymbol, .string x.fName, .int .i64 x.fTarget.fKind, .int .i64 x.fTarget.fN, .int .i64 x.fTarget.fPos, .int .i64 x.fTarget.fType, .string x.fTarget.fSymbol, .string x.fTarget.fName, .slice a8 x.fTarget.fArgs.length c8, .int .i64 x.fValue.fKind, .int .i64 x.fValue.fN, .int .i64 x.fValue.fPos, .int .i64 x.fValue.fType, .string x.fValue.fSymbol, .string x.fValue.fName, .slice a15 x.fValue.fArgs.length c15]] w fun e w' => ∃ a8r c8r a15r c15r, e = .returned (.agg #[.string x.fSymbol, .string x.fName, .int .i64 x.fTarget.fKind, .int .i64 x.fTarget.fN, .int .i64 x.fTarget.fPos, .int .i64 x.fTarget.fType, .string x.fTarget.fSymbol, .string x.fTarget.fName, .slice a8r x.fTarget.fArgs.length c8r, .int .i64 x.fValue.fKind, .int .i64 x.fValue.fN, .int .i64 x.fValue.fPos, .int .i64 x.fValue.fType, .string x.fValue.fSymbol, .string x.fValue.fName, .slice a15r x.fValue.fArgs.length c15r]) ∧ OwnR w' (fun y => w.heap.size ≤ y ∧ y < w'.heap.size) 16 x.ct (fun j => [.string x.fSymbol, .string x.fName, .int .i64 x.fTarget.fKind, .int .i64 x.fTarget.fN, .int .i64 x.fTarget.fPos, .int .i64 x.fTarget.fType, .string x.fTarget.fSymbol, .string x.fTarget.fName, .slice a8r x.fTarget.fArgs.length c8r, .int .i64 x.fValue.fKind, .int .i64 x.fValue.fN, .int .i64 x.fValue.fPos, .int .i64 x.fValue.fType, .string x.fValue.fSymbol, .string x.fValue.fName, .slice a15r x.fValue.fArgs.length c15r].getD j .nilFunc) ∧ Below w.heap.size w w' := by
  have HS8 := Lib.hid hs8
  have HS15 := Lib.hid hs15
  clear hs8 hs15
  have HW := Lib.hid hsz
  clear hsz
  have HB0 := Lib.hid (((((Below.refl w.heap.size w).alloc (Nat.le_refl _) (.cells #[.string x.fSymbol, .string x.fName, .int .i64 x.fTarget.fKind, .int .i64 x.fTarget.fN, .int .i64 x.fTarget.fPos, .int .i64 x.fTarget.fType, .string x.fTarget.fSymbol, .string x.fTarget.fName, .slice a8 x.fTarget.fArgs.length c8, .int .i64 x.fValue.fKind, .int .i64 x.fValue.fN, .int .i64 x.fValue.fPos, .int .i64 x.fValue.fType, .string x.fValue.fSymbol, .string x.fValue.fName, .slice a15 x.fValue.fArgs.length c15] 101)).alloc (by simp <;> omega) (.cells #[.string ⟨#[]⟩, .string ⟨#[]⟩, .int .i64 0, .int .i64 0, .int .i64 0, .int .i64 0, .string ⟨#[]⟩, .string ⟨#[]⟩, .slice none 0 0, .int .i64 0, .int .i64 0, .int .i64 0, .int .i64 0, .string ⟨#[]⟩, .string ⟨#[]⟩, .slice none 0 0] 120))).alloc (by simp <;> omega) (.cells #[.string ⟨#[]⟩, .string ⟨#[]⟩, .int .i64 0, .int .i64 0, .int .i64 0, .int .i64 0, .string ⟨#[]⟩, .string ⟨#[]⟩, .slice none 0 0, .int .i64 0, .int .i64 0, .int .i64 0, .int .i64 0, .string ⟨#[]⟩, .string ⟨#[]⟩, .slice none 0 0] 120))
  have HSZ0 := Lib.hid (show w.heap.size + 2 < (((w.alloc (.cells #[.string x.fSymbol, .string x.fName, .int .i64 x.fTarget.fKind, .int .i64 x.fTarget.fN, .int .i64 x.fTarget.fPos, .int .i64 x.fTarget.fType, .string x.fTarget.fSymbol, .string x.fTarget.fName, .slice a8 x.fTarget.fArgs.length c8, .int .i64 x.fValue.fKind, .int .i64 x.fValue.fN, .int .i64 x.fValue.fPos, .int .i64 x.fValue.fType, .string x.fValue.fSymbol, .string x.fValue.fName, .slice a15 x.fValue.fArgs.length c15] 101)).alloc (.cells #[.string ⟨#[]⟩, .string ⟨#[]⟩, .int .i64 0, .int .i64 0, .int .i64 0, .int .i64 0, .string ⟨#[]⟩, .string ⟨#[]⟩, .slice none 0 0, .int .i64 0, .int .i64 0, .int .i64 0, .int .i64 0, .string ⟨#[]⟩, .string ⟨#[]⟩, .slice none 0 0] 120)).alloc (.cells #[.string ⟨#[]⟩, .string ⟨#[]⟩, .int .i64 0, .int .i64 0, .int .i64 0, .int .i64 0, .string ⟨#[]⟩, .string ⟨#[]⟩, .slice none 0 0, .int .i64 0, .int .i64 0, .int .i64 0, .int .i64 0, .string ⟨#[]⟩, .string ⟨#[]⟩, .slice none 0 0] 120)).heap.size by simp)
  have ht0 := fun (w' : World) (hhi : hi ≤ w'.heap.size) (hs8 : Sl lo hi w' 7 x.fTarget.fArgs.length (ctE x.fTarget.fArgs) a8) => laws_toExpr (c6 := c8) x.fTarget (by have h := HW.out; unfold DContribution.sz at h; omega) w' hhi hs8
  have HT0 := Lib.hid ht0
  clear ht0
  have ht1 := fun (w' : World) (hhi : hi ≤ w'.heap.size) (hs15 : Sl lo hi w' 7 x.fValue.fArgs.length (ctE x.fValue.fArgs) a15) => laws_toExpr (c6 := c15) x.fValue (by have h := HW.out; unfold DContribution.sz at h; omega) w' hhi hs15
  have HT1 := Lib.hid ht1
  clear ht1
  go_enter Tryz.func64, Tryz.ntmps64
  go_wp2_with fail
  refine (HT0.out _ (Nat.le_trans hhi (Below.size ((by repeat (first | (with_reducible exact HB0.out) | (with_reducible exact Below.refl _ _) | (refine Below.setCell ?_ (by simp <;> omega) _) | (refine Below.alloc ?_ (by simp <;> omega) _)) : Below w.heap.size w _)))) (HS8.out.later ((by repeat (first | (with_reducible exact HB0.out) | (with_reducible exact Below.refl _ _) | (refine Below.setCell ?_ (by simp <;> omega) _) | (refine Below.alloc ?_ (by simp <;> omega) _)) : Below w.heap.size w _)) hhi)).mono ?_
  rintro e w1 ⟨a8r, c8r, rfl, ho1, hb1⟩
  have hsz1 : w.heap.size + 2 < w1.heap.size := Nat.lt_of_lt_of_le (by have h := HSZ0.out; first | (with_reducible exact h) | (simp; done) | (simp; omega) | (simp [World.setCell]; omega)) hb1.size
  have hlo1 : w.heap.size + 3 ≤ w1.heap.size := Nat.le_trans (by first | (with_reducible exact Nat.le_refl _) | (simp; done) | (simp; omega) | (simp [World.setCell]; omega)) hb1.size
  have hbw1 : Below w.heap.size w w1 := Below.trans ((by repeat (first | (with_reducible exact HB0.out) | (with_reducible exact Below.refl _ _) | (refine Below.setCell ?_ (by simp <;> omega) _) | (refine Below.alloc ?_ (by simp <;> omega) _)) : Below w.heap.size w _)) (hb1.mono (Below.size ((by repeat (first | (with_reducible exact HB0.out) | (with_reducible exact Below.refl _ _) | (refine Below.setCell ?_ (by simp <;> omega) _) | (refine Below.alloc ?_ (by simp <;> omega) _)) : Below w.heap.size w _))))
  have HO1_1 := Lib.hid (ho1.sub (F' := fun y => w.heap.size + 3 ≤ y ∧ y < w1.heap.size) (fun y hy => ⟨Nat.le_trans (by first | (with_reducible exact Nat.le_refl _) | (simp; done) | (simp; omega) | (simp [World.setCell]; done) | (simp [World.setCell]; omega)) hy.1, hy.2⟩))
  clear ho1
  have HP1 := Lib.hid (show w1.heap[w.heap.size]? = some (.cells #[.string x.fSymbol, .string x.fName, .int .i64 x.fTarget.fKind, .int .i64 x.fTarget.fN, .int .i64 x.fTarget.fPos, .int .i64 x.fTarget.fType, .string x.fTarget.fSymbol, .string x.fTarget.fName, .slice a8 x.fTarget.fArgs.length c8, .int .i64 x.fValue.fKind, .int .i64 x.fValue.fN, .int .i64 x.fValue.fPos, .int .i64 x.fValue.fType, .string x.fValue.fSymbol, .string x.fValue.fName, .slice a15 x.fValue.fArgs.length c15] 101) from (hb1.block _ (by have h9 := HSZ0.out; first | (simp; done) | (simp; omega) | (simp at h9 ⊢; omega))).trans (by (repeat (refine blk_other (by simp <;> omega) ?_)); exact blk_alloc (by simp <;> omega) (blk_alloc (by simp) (blk_new (by simp)))))
  have HG1 := Lib.hid (show w1.heap[w.heap.size + 1]? = some (.cells #[.string ⟨#[]⟩, .string ⟨#[]⟩, .int .i64 0, .int .i64 0, .int .i64 0, .int .i64 0, .string ⟨#[]⟩, .string ⟨#[]⟩, .slice none 0 0, .int .i64 0, .int .i64 0, .int .i64 0, .int .i64 0, .string ⟨#[]⟩, .string ⟨#[]⟩, .slice none 0 0] 120) from (hb1.block _ (by have h9 := HSZ0.out; first | (simp; done) | (simp; omega) | (simp at h9 ⊢; omega))).trans (by (repeat (refine blk_other (by simp <;> omega) ?_)); exact blk_alloc (by simp) (blk_new (by simp))))
  have HK1 := Lib.hid (show w1.heap[w.heap.size + 2]? = some (.cells #[.string x.fSymbol, .string x.fName, .int .i64 0, .int .i64 0, .int .i64 0, .int .i64 0, .string ⟨#[]⟩, .string ⟨#[]⟩, .slice none 0 0, .int .i64 0, .int .i64 0, .int .i64 0, .int .i64 0, .string ⟨#[]⟩, .string ⟨#[]⟩, .slice none 0 0] 120) from (hb1.block _ (by have h9 := HSZ0.out; first | (simp; done) | (simp; omega) | (simp at h9 ⊢; omega))).trans (by first | exact blk_new (by simp) | (refine Eq.trans (blk_set (cs := #[.string x.fSymbol, .string ⟨#[]⟩, .int .i64 0, .int .i64 0, .int .i64 0, .int .i64 0, .string ⟨#[]⟩, .string ⟨#[]⟩, .slice none 0 0, .int .i64 0, .int .i64 0, .int .i64 0, .int .i64 0, .string ⟨#[]⟩, .string ⟨#[]⟩, .slice none 0 0]) (t := 120) (fr := (0, 0)) ?_) rfl; refine Eq.trans (blk_set (cs := #[.string ⟨#[]⟩, .string ⟨#[]⟩, .int .i64 0, .int .i64 0, .int .i64 0, .int .i64 0, .string ⟨#[]⟩, .string ⟨#[]⟩, .slice none 0 0, .int .i64 0, .int .i64 0, .int .i64 0, .int .i64 0, .string ⟨#[]⟩, .string ⟨#[]⟩, .slice none 0 0]) (t := 120) (fr := (0, 0)) ?_) rfl; exact blk_new (by simp))))
  have x1_0_9 : w1.cell? ⟨w.heap.size, 9, none⟩ = some (.int .i64 x.fValue.fKind) := (cell_of_row _ _ _ _ _ _ HP1.out).trans rfl
  have x1_0_10 : w1.cell? ⟨w.heap.size, 10, none⟩ = some (.int .i64 x.fValue.fN) := (cell_of_row _ _ _ _ _ _ HP1.out).trans rfl
  have x1_0_11 : w1.cell? ⟨w.heap.size, 11, none⟩ = some (.int .i64 x.fValue.fPos) := (cell_of_row _ _ _ _ _ _ HP1.out).trans rfl
  have x1_0_12 : w1.cell? ⟨w.heap.size, 12, none⟩ = some (.int .i64 x.fValue.fType) := (cell_of_row _ _ _ _ _ _ HP1.out).trans rfl
  have x1_0_13 : w1.cell? ⟨w.heap.size, 13, none⟩ = some (.string x.fValue.fSymbol) := (cell_of_row _ _ _ _ _ _ HP1.out).trans rfl
  have x1_0_14 : w1.cell? ⟨w.heap.size, 14, none⟩ = some (.string x.fValue.fName) := (cell_of_row _ _ _ _ _ _ HP1.out).trans rfl
  have x1_0_15 : w1.cell? ⟨w.heap.size, 15, none⟩ = some (.slice a15 x.fValue.fArgs.length c15) := (cell_of_row _ _ _ _ _ _ HP1.out).trans rfl
  have x1_2_0 : w1.cell? ⟨w.heap.size + 2, 0, none⟩ = some (.string x.fSymbol) := (cell_of_row _ _ _ _ _ _ HK1.out).trans rfl
  have z1_2_0 : w1.frozen? ⟨w.heap.size + 2, 0, none⟩ = false := frozen_of_row _ _ _ _ _ HK1.out
  have x1_2_1 : w1.cell? ⟨w.heap.size + 2, 1, none⟩ = some (.string x.fName) := (cell_of_row _ _ _ _ _ _ HK1.out).trans rfl
  have z1_2_1 : w1.frozen? ⟨w.heap.size + 2, 1, none⟩ = false := frozen_of_row _ _ _ _ _ HK1.out
  have x1_2_2 : w1.cell? ⟨w.heap.size + 2, 2, none⟩ = some (.int .i64 0) := (cell_of_row _ _ _ _ _ _ HK1.out).trans rfl
  have z1_2_2 : w1.frozen? ⟨w.heap.size + 2, 2, none⟩ = false := frozen_of_row _ _ _ _ _ HK1.out
  have x1_2_3 : w1.cell? ⟨w.heap.size + 2, 3, none⟩ = some (.int .i64 0) := (cell_of_row _ _ _ _ _ _ HK1.out).trans rfl
  have z1_2_3 : w1.frozen? ⟨w.heap.size + 2, 3, none⟩ = false := frozen_of_row _ _ _ _ _ HK1.out
  have x1_2_4 : w1.cell? ⟨w.heap.size + 2, 4, none⟩ = some (.int .i64 0) := (cell_of_row _ _ _ _ _ _ HK1.out).trans rfl
  have z1_2_4 : w1.frozen? ⟨w.heap.size + 2, 4, none⟩ = false := frozen_of_row _ _ _ _ _ HK1.out
  have x1_2_5 : w1.cell? ⟨w.heap.size + 2, 5, none⟩ = some (.int .i64 0) := (cell_of_row _ _ _ _ _ _ HK1.out).trans rfl
  have z1_2_5 : w1.frozen? ⟨w.heap.size + 2, 5, none⟩ = false := frozen_of_row _ _ _ _ _ HK1.out
  have x1_2_6 : w1.cell? ⟨w.heap.size + 2, 6, none⟩ = some (.string ⟨#[]⟩) := (cell_of_row _ _ _ _ _ _ HK1.out).trans rfl
  have z1_2_6 : w1.frozen? ⟨w.heap.size + 2, 6, none⟩ = false := frozen_of_row _ _ _ _ _ HK1.out
  have x1_2_7 : w1.cell? ⟨w.heap.size + 2, 7, none⟩ = some (.string ⟨#[]⟩) := (cell_of_row _ _ _ _ _ _ HK1.out).trans rfl
  have z1_2_7 : w1.frozen? ⟨w.heap.size + 2, 7, none⟩ = false := frozen_of_row _ _ _ _ _ HK1.out
  have x1_2_8 : w1.cell? ⟨w.heap.size + 2, 8, none⟩ = some (.slice none 0 0) := (cell_of_row _ _ _ _ _ _ HK1.out).trans rfl
  have z1_2_8 : w1.frozen? ⟨w.heap.size + 2, 8, none⟩ = false := frozen_of_row _ _ _ _ _ HK1.out
  have x1_2_9 : w1.cell? ⟨w.heap.size + 2, 9, none⟩ = some (.int .i64 0) := (cell_of_row _ _ _ _ _ _ HK1.out).trans rfl
  have z1_2_9 : w1.frozen? ⟨w.heap.size + 2, 9, none⟩ = false := frozen_of_row _ _ _ _ _ HK1.out
  have x1_2_10 : w1.cell? ⟨w.heap.size + 2, 10, none⟩ = some (.int .i64 0) := (cell_of_row _ _ _ _ _ _ HK1.out).trans rfl
  have z1_2_10 : w1.frozen? ⟨w.heap.size + 2, 10, none⟩ = false := frozen_of_row _ _ _ _ _ HK1.out
  have x1_2_11 : w1.cell? ⟨w.heap.size + 2, 11, none⟩ = some (.int .i64 0) := (cell_of_row _ _ _ _ _ _ HK1.out).trans rfl
  have z1_2_11 : w1.frozen? ⟨w.heap.size + 2, 11, none⟩ = false := frozen_of_row _ _ _ _ _ HK1.out
  have x1_2_12 : w1.cell? ⟨w.heap.size + 2, 12, none⟩ = some (.int .i64 0) := (cell_of_row _ _ _ _ _ _ HK1.out).trans rfl
  have z1_2_12 : w1.frozen? ⟨w.heap.size + 2, 12, none⟩ = false := frozen_of_row _ _ _ _ _ HK1.out
  have x1_2_13 : w1.cell? ⟨w.heap.size + 2, 13, none⟩ = some (.string ⟨#[]⟩) := (cell_of_row _ _ _ _ _ _ HK1.out).trans rfl
  have z1_2_13 : w1.frozen? ⟨w.heap.size + 2, 13, none⟩ = false := frozen_of_row _ _ _ _ _ HK1.out
  have x1_2_14 : w1.cell? ⟨w.heap.size + 2, 14, none⟩ = some (.string ⟨#[]⟩) := (cell_of_row _ _ _ _ _ _ HK1.out).trans rfl
  have z1_2_14 : w1.frozen? ⟨w.heap.size + 2, 14, none⟩ = false := frozen_of_row _ _ _ _ _ HK1.out
  have x1_2_15 : w1.cell? ⟨w.heap.size + 2, 15, none⟩ = some (.slice none 0 0) := (cell_of_row _ _ _ _ _ _ HK1.out).trans rfl
  have z1_2_15 : w1.frozen? ⟨w.heap.size + 2, 15, none⟩ = false := frozen_of_row _ _ _ _ _ HK1.out
  have HB1 := Lib.hid hbw1
  have HSZ1 := Lib.hid hsz1
  have HLO1 := Lib.hid hlo1
  clear hb1 hbw1 hsz1 hlo1
  go_wp2_with fail
  refine (HT1.out _ (Nat.le_trans hhi (Below.size ((by repeat (first | (with_reducible exact HB1.out) | (with_reducible exact Below.refl _ _) | (refine Below.setCell ?_ (by simp <;> omega) _) | (refine Below.alloc ?_ (by simp <;> omega) _)) : Below w.heap.size w _)))) (HS15.out.later ((by repeat (first | (with_reducible exact HB1.out) | (with_reducible exact Below.refl _ _) | (refine Below.setCell ?_ (by simp <;> omega) _) | (refine Below.alloc ?_ (by simp <;> omega) _)) : Below w.heap.size w _)) hhi)).mono ?_
  rintro e w2 ⟨a15r, c15r, rfl, ho2, hb2⟩
  have hsz2 : w.heap.size + 2 < w2.heap.size := Nat.lt_of_lt_of_le (by have h := HSZ1.out; first | (with_reducible exact h) | (simp; done) | (simp; omega) | (simp [World.setCell]; omega)) hb2.size
  have hlo2 : w1.heap.size ≤ w2.heap.size := Nat.le_trans (by first | (with_reducible exact Nat.le_refl _) | (simp; done) | (simp; omega) | (simp [World.setCell]; omega)) hb2.size
  have hbw2 : Below w.heap.size w w2 := Below.trans ((by repeat (first | (with_reducible exact HB1.out) | (with_reducible exact Below.refl _ _) | (refine Below.setCell ?_ (by simp <;> omega) _) | (refine Below.alloc ?_ (by simp <;> omega) _)) : Below w.heap.size w _)) (hb2.mono (Below.size ((by repeat (first | (with_reducible exact HB1.out) | (with_reducible exact Below.refl _ _) | (refine Below.setCell ?_ (by simp <;> omega) _) | (refine Below.alloc ?_ (by simp <;> omega) _)) : Below w.heap.size w _))))
  have HO1_2 := Lib.hid (HO1_1.out.kept (Kept.trans (by repeat (first | (with_reducible exact Kept.refl) | (refine Kept.put ?_ (by rintro ⟨h1, h2⟩; dsimp only at h1; have h3 := HSZ0.out; omega)))) (Kept.of_below_all hb2)))
  clear HO1_1
  have HO2_2 := Lib.hid (ho2.sub (F' := fun y => w1.heap.size ≤ y ∧ y < w2.heap.size) (fun y hy => ⟨Nat.le_trans (by first | (with_reducible exact Nat.le_refl _) | (simp; done) | (simp; omega) | (simp [World.setCell]; done) | (simp [World.setCell]; omega)) hy.1, hy.2⟩))
  clear ho2
  have HP2 := Lib.hid (show w2.heap[w.heap.size]? = some (.cells #[.string x.fSymbol, .string x.fName, .int .i64 x.fTarget.fKind, .int .i64 x.fTarget.fN, .int .i64 x.fTarget.fPos, .int .i64 x.fTarget.fType, .string x.fTarget.fSymbol, .string x.fTarget.fName, .slice a8 x.fTarget.fArgs.length c8, .int .i64 x.fValue.fKind, .int .i64 x.fValue.fN, .int .i64 x.fValue.fPos, .int .i64 x.fValue.fType, .string x.fValue.fSymbol, .string x.fValue.fName, .slice a15 x.fValue.fArgs.length c15] 101) from (hb2.block _ (by have h9 := HSZ1.out; first | (simp; done) | (simp; omega) | (simp at h9 ⊢; omega))).trans (by repeat (first | (with_reducible exact HP1.out) | (refine blk_other (by simp <;> omega) ?_))))
  have HG2 := Lib.hid (show w2.heap[w.heap.size + 1]? = some (.cells #[.string ⟨#[]⟩, .string ⟨#[]⟩, .int .i64 0, .int .i64 0, .int .i64 0, .int .i64 0, .string ⟨#[]⟩, .string ⟨#[]⟩, .slice none 0 0, .int .i64 0, .int .i64 0, .int .i64 0, .int .i64 0, .string ⟨#[]⟩, .string ⟨#[]⟩, .slice none 0 0] 120) from (hb2.block _ (by have h9 := HSZ1.out; first | (simp; done) | (simp; omega) | (simp at h9 ⊢; omega))).trans (by repeat (first | (with_reducible exact HG1.out) | (refine blk_other (by simp <;> omega) ?_))))
  have HK2 := Lib.hid (show w2.heap[w.heap.size + 2]? = some (.cells #[.string x.fSymbol, .string x.fName, .int .i64 x.fTarget.fKind, .int .i64 x.fTarget.fN, .int .i64 x.fTarget.fPos, .int .i64 x.fTarget.fType, .string x.fTarget.fSymbol, .string x.fTarget.fName, .slice a8r x.fTarget.fArgs.length c8r, .int .i64 0, .int .i64 0, .int .i64 0, .int .i64 0, .string ⟨#[]⟩, .string ⟨#[]⟩, .slice none 0 0] 120) from (hb2.block _ (by have h9 := HSZ1.out; first | (simp; done) | (simp; omega) | (simp at h9 ⊢; omega))).trans (by refine Eq.trans (blk_set (cs := #[.string x.fSymbol, .string x.fName, .int .i64 x.fTarget.fKind, .int .i64 x.fTarget.fN, .int .i64 x.fTarget.fPos, .int .i64 x.fTarget.fType, .string x.fTarget.fSymbol, .string x.fTarget.fName, .slice none 0 0, .int .i64 0, .int .i64 0, .int .i64 0, .int .i64 0, .string ⟨#[]⟩, .string ⟨#[]⟩, .slice none 0 0]) (t := 120) (fr := (0, 0)) ?_) rfl; refine Eq.trans (blk_set (cs := #[.string x.fSymbol, .string x.fName, .int .i64 x.fTarget.fKind, .int .i64 x.fTarget.fN, .int .i64 x.fTarget.fPos, .int .i64 x.fTarget.fType, .string x.fTarget.fSymbol, .string ⟨#[]⟩, .slice none 0 0, .int .i64 0, .int .i64 0, .int .i64 0, .int .i64 0, .string ⟨#[]⟩, .string ⟨#[]⟩, .slice none 0 0]) (t := 120) (fr := (0, 0)) ?_) rfl; refine Eq.trans (blk_set (cs := #[.string x.fSymbol, .string x.fName, .int .i64 x.fTarget.fKind, .int .i64 x.fTarget.fN, .int .i64 x.fTarget.fPos, .int .i64 x.fTarget.fType, .string ⟨#[]⟩, .string ⟨#[]⟩, .slice none 0 0, .int .i64 0, .int .i64 0, .int .i64 0, .int .i64 0, .string ⟨#[]⟩, .string ⟨#[]⟩, .slice none 0 0]) (t := 120) (fr := (0, 0)) ?_) rfl; refine Eq.trans (blk_set (cs := #[.string x.fSymbol, .string x.fName, .int .i64 x.fTarget.fKind, .int .i64 x.fTarget.fN, .int .i64 x.fTarget.fPos, .int .i64 0, .string ⟨#[]⟩, .string ⟨#[]⟩, .slice none 0 0, .int .i64 0, .int .i64 0, .int .i64 0, .int .i64 0, .string ⟨#[]⟩, .string ⟨#[]⟩, .slice none 0 0]) (t := 120) (fr := (0, 0)) ?_) rfl; refine Eq.trans (blk_set (cs := #[.string x.fSymbol, .string x.fName, .int .i64 x.fTarget.fKind, .int .i64 x.fTarget.fN, .int .i64 0, .int .i64 0, .string ⟨#[]⟩, .string ⟨#[]⟩, .slice none 0 0, .int .i64 0, .int .i64 0, .int .i64 0, .int .i64 0, .string ⟨#[]⟩, .string ⟨#[]⟩, .slice none 0 0]) (t := 120) (fr := (0, 0)) ?_) rfl; refine Eq.trans (blk_set (cs := #[.string x.fSymbol, .string x.fName, .int .i64 x.fTarget.fKind, .int .i64 0, .int .i64 0, .int .i64 0, .string ⟨#[]⟩, .string ⟨#[]⟩, .slice none 0 0, .int .i64 0, .int .i64 0, .int .i64 0, .int .i64 0, .string ⟨#[]⟩, .string ⟨#[]⟩, .slice none 0 0]) (t := 120) (fr := (0, 0)) ?_) rfl; refine Eq.trans (blk_set (cs := #[.string x.fSymbol, .string x.fName, .int .i64 0, .int .i64 0, .int .i64 0, .int .i64 0, .string ⟨#[]⟩, .string ⟨#[]⟩, .slice none 0 0, .int .i64 0, .int .i64 0, .int .i64 0, .int .i64 0, .string ⟨#[]⟩, .string ⟨#[]⟩, .slice none 0 0]) (t := 120) (fr := (0, 0)) ?_) rfl; exact HK1.out))
  clear HP1 HG1 HK1
  have x2_2_0 : w2.cell? ⟨w.heap.size + 2, 0, none⟩ = some (.string x.fSymbol) := (cell_of_row _ _ _ _ _ _ HK2.out).trans rfl
  have z2_2_0 : w2.frozen? ⟨w.heap.size + 2, 0, none⟩ = false := frozen_of_row _ _ _ _ _ HK2.out
  have x2_2_1 : w2.cell? ⟨w.heap.size + 2, 1, none⟩ = some (.string x.fName) := (cell_of_row _ _ _ _ _ _ HK2.out).trans rfl
  have z2_2_1 : w2.frozen? ⟨w.heap.size + 2, 1, none⟩ = false := frozen_of_row _ _ _ _ _ HK2.out
  have x2_2_2 : w2.cell? ⟨w.heap.size + 2, 2, none⟩ = some (.int .i64 x.fTarget.fKind) := (cell_of_row _ _ _ _ _ _ HK2.out).trans rfl
  have z2_2_2 : w2.frozen? ⟨w.heap.size + 2, 2, none⟩ = false := frozen_of_row _ _ _ _ _ HK2.out
  have x2_2_3 : w2.cell? ⟨w.heap.size + 2, 3, none⟩ = some (.int .i64 x.fTarget.fN) := (cell_of_row _ _ _ _ _ _ HK2.out).trans rfl
  have z2_2_3 : w2.frozen? ⟨w.heap.size + 2, 3, none⟩ = false := frozen_of_row _ _ _ _ _ HK2.out
  have x2_2_4 : w2.cell? ⟨w.heap.size + 2, 4, none⟩ = some (.int .i64 x.fTarget.fPos) := (cell_of_row _ _ _ _ _ _ HK2.out).trans rfl
  have z2_2_4 : w2.frozen? ⟨w.heap.size + 2, 4, none⟩ = false := frozen_of_row _ _ _ _ _ HK2.out
  have x2_2_5 : w2.cell? ⟨w.heap.size + 2, 5, none⟩ = some (.int .i64 x.fTarget.fType) := (cell_of_row _ _ _ _ _ _ HK2.out).trans rfl
  have z2_2_5 : w2.frozen? ⟨w.heap.size + 2, 5, none⟩ = false := frozen_of_row _ _ _ _ _ HK2.out
  have x2_2_6 : w2.cell? ⟨w.heap.size + 2, 6, none⟩ = some (.string x.fTarget.fSymbol) := (cell_of_row _ _ _ _ _ _ HK2.out).trans rfl
  have z2_2_6 : w2.frozen? ⟨w.heap.size + 2, 6, none⟩ = false := frozen_of_row _ _ _ _ _ HK2.out
  have x2_2_7 : w2.cell? ⟨w.heap.size + 2, 7, none⟩ = some (.string x.fTarget.fName) := (cell_of_row _ _ _ _ _ _ HK2.out).trans rfl
  have z2_2_7 : w2.frozen? ⟨w.heap.size + 2, 7, none⟩ = false := frozen_of_row _ _ _ _ _ HK2.out
  have x2_2_8 : w2.cell? ⟨w.heap.size + 2, 8, none⟩ = some (.slice a8r x.fTarget.fArgs.length c8r) := (cell_of_row _ _ _ _ _ _ HK2.out).trans rfl
  have z2_2_8 : w2.frozen? ⟨w.heap.size + 2, 8, none⟩ = false := frozen_of_row _ _ _ _ _ HK2.out
  have x2_2_9 : w2.cell? ⟨w.heap.size + 2, 9, none⟩ = some (.int .i64 0) := (cell_of_row _ _ _ _ _ _ HK2.out).trans rfl
  have z2_2_9 : w2.frozen? ⟨w.heap.size + 2, 9, none⟩ = false := frozen_of_row _ _ _ _ _ HK2.out
  have x2_2_10 : w2.cell? ⟨w.heap.size + 2, 10, none⟩ = some (.int .i64 0) := (cell_of_row _ _ _ _ _ _ HK2.out).trans rfl
  have z2_2_10 : w2.frozen? ⟨w.heap.size + 2, 10, none⟩ = false := frozen_of_row _ _ _ _ _ HK2.out
  have x2_2_11 : w2.cell? ⟨w.heap.size + 2, 11, none⟩ = some (.int .i64 0) := (cell_of_row _ _ _ _ _ _ HK2.out).trans rfl
  have z2_2_11 : w2.frozen? ⟨w.heap.size + 2, 11, none⟩ = false := frozen_of_row _ _ _ _ _ HK2.out
  have x2_2_12 : w2.cell? ⟨w.heap.size + 2, 12, none⟩ = some (.int .i64 0) := (cell_of_row _ _ _ _ _ _ HK2.out).trans rfl
  have z2_2_12 : w2.frozen? ⟨w.heap.size + 2, 12, none⟩ = false := frozen_of_row _ _ _ _ _ HK2.out
  have x2_2_13 : w2.cell? ⟨w.heap.size + 2, 13, none⟩ = some (.string ⟨#[]⟩) := (cell_of_row _ _ _ _ _ _ HK2.out).trans rfl
  have z2_2_13 : w2.frozen? ⟨w.heap.size + 2, 13, none⟩ = false := frozen_of_row _ _ _ _ _ HK2.out
  have x2_2_14 : w2.cell? ⟨w.heap.size + 2, 14, none⟩ = some (.string ⟨#[]⟩) := (cell_of_row _ _ _ _ _ _ HK2.out).trans rfl
  have z2_2_14 : w2.frozen? ⟨w.heap.size + 2, 14, none⟩ = false := frozen_of_row _ _ _ _ _ HK2.out
  have x2_2_15 : w2.cell? ⟨w.heap.size + 2, 15, none⟩ = some (.slice none 0 0) := (cell_of_row _ _ _ _ _ _ HK2.out).trans rfl
  have z2_2_15 : w2.frozen? ⟨w.heap.size + 2, 15, none⟩ = false := frozen_of_row _ _ _ _ _ HK2.out
  have x2_1_0 : w2.cell? ⟨w.heap.size + 1, 0, none⟩ = some (.string ⟨#[]⟩) := (cell_of_row _ _ _ _ _ _ HG2.out).trans rfl
  have z2_1_0 : w2.frozen? ⟨w.heap.size + 1, 0, none⟩ = false := frozen_of_row _ _ _ _ _ HG2.out
  have x2_1_1 : w2.cell? ⟨w.heap.size + 1, 1, none⟩ = some (.string ⟨#[]⟩) := (cell_of_row _ _ _ _ _ _ HG2.out).trans rfl
  have z2_1_1 : w2.frozen? ⟨w.heap.size + 1, 1, none⟩ = false := frozen_of_row _ _ _ _ _ HG2.out
  have x2_1_2 : w2.cell? ⟨w.heap.size + 1, 2, none⟩ = some (.int .i64 0) := (cell_of_row _ _ _ _ _ _ HG2.out).trans rfl
  have z2_1_2 : w2.frozen? ⟨w.heap.size + 1, 2, none⟩ = false := frozen_of_row _ _ _ _ _ HG2.out
  have x2_1_3 : w2.cell? ⟨w.heap.size + 1, 3, none⟩ = some (.int .i64 0) := (cell_of_row _ _ _ _ _ _ HG2.out).trans rfl
  have z2_1_3 : w2.frozen? ⟨w.heap.size + 1, 3, none⟩ = false := frozen_of_row _ _ _ _ _ HG2.out
  have x2_1_4 : w2.cell? ⟨w.heap.size + 1, 4, none⟩ = some (.int .i64 0) := (cell_of_row _ _ _ _ _ _ HG2.out).trans rfl
  have z2_1_4 : w2.frozen? ⟨w.heap.size + 1, 4, none⟩ = false := frozen_of_row _ _ _ _ _ HG2.out
  have x2_1_5 : w2.cell? ⟨w.heap.size + 1, 5, none⟩ = some (.int .i64 0) := (cell_of_row _ _ _ _ _ _ HG2.out).trans rfl
  have z2_1_5 : w2.frozen? ⟨w.heap.size + 1, 5, none⟩ = false := frozen_of_row _ _ _ _ _ HG2.out
  have x2_1_6 : w2.cell? ⟨w.heap.size + 1, 6, none⟩ = some (.string ⟨#[]⟩) := (cell_of_row _ _ _ _ _ _ HG2.out).trans rfl
  have z2_1_6 : w2.frozen? ⟨w.heap.size + 1, 6, none⟩ = false := frozen_of_row _ _ _ _ _ HG2.out
  have x2_1_7 : w2.cell? ⟨w.heap.size + 1, 7, none⟩ = some (.string ⟨#[]⟩) := (cell_of_row _ _ _ _ _ _ HG2.out).trans rfl
  have z2_1_7 : w2.frozen? ⟨w.heap.size + 1, 7, none⟩ = false := frozen_of_row _ _ _ _ _ HG2.out
  have x2_1_8 : w2.cell? ⟨w.heap.size + 1, 8, none⟩ = some (.slice none 0 0) := (cell_of_row _ _ _ _ _ _ HG2.out).trans rfl
  have z2_1_8 : w2.frozen? ⟨w.heap.size + 1, 8, none⟩ = false := frozen_of_row _ _ _ _ _ HG2.out
  have x2_1_9 : w2.cell? ⟨w.heap.size + 1, 9, none⟩ = some (.int .i64 0) := (cell_of_row _ _ _ _ _ _ HG2.out).trans rfl
  have z2_1_9 : w2.frozen? ⟨w.heap.size + 1, 9, none⟩ = false := frozen_of_row _ _ _ _ _ HG2.out
  have x2_1_10 : w2.cell? ⟨w.heap.size + 1, 10, none⟩ = some (.int .i64 0) := (cell_of_row _ _ _ _ _ _ HG2.out).trans rfl
  have z2_1_10 : w2.frozen? ⟨w.heap.size + 1, 10, none⟩ = false := frozen_of_row _ _ _ _ _ HG2.out
  have x2_1_11 : w2.cell? ⟨w.heap.size + 1, 11, none⟩ = some (.int .i64 0) := (cell_of_row _ _ _ _ _ _ HG2.out).trans rfl
  have z2_1_11 : w2.frozen? ⟨w.heap.size + 1, 11, none⟩ = false := frozen_of_row _ _ _ _ _ HG2.out
  have x2_1_12 : w2.cell? ⟨w.heap.size + 1, 12, none⟩ = some (.int .i64 0) := (cell_of_row _ _ _ _ _ _ HG2.out).trans rfl
  have z2_1_12 : w2.frozen? ⟨w.heap.size + 1, 12, none⟩ = false := frozen_of_row _ _ _ _ _ HG2.out
  have x2_1_13 : w2.cell? ⟨w.heap.size + 1, 13, none⟩ = some (.string ⟨#[]⟩) := (cell_of_row _ _ _ _ _ _ HG2.out).trans rfl
  have z2_1_13 : w2.frozen? ⟨w.heap.size + 1, 13, none⟩ = false := frozen_of_row _ _ _ _ _ HG2.out
  have x2_1_14 : w2.cell? ⟨w.heap.size + 1, 14, none⟩ = some (.string ⟨#[]⟩) := (cell_of_row _ _ _ _ _ _ HG2.out).trans rfl
  have z2_1_14 : w2.frozen? ⟨w.heap.size + 1, 14, none⟩ = false := frozen_of_row _ _ _ _ _ HG2.out
  have x2_1_15 : w2.cell? ⟨w.heap.size + 1, 15, none⟩ = some (.slice none 0 0) := (cell_of_row _ _ _ _ _ _ HG2.out).trans rfl
  have z2_1_15 : w2.frozen? ⟨w.heap.size + 1, 15, none⟩ = false := frozen_of_row _ _ _ _ _ HG2.out
  have HB2 := Lib.hid hbw2
  have HSZ2 := Lib.hid hsz2
  have HLO2 := Lib.hid hlo2
  clear hb2 hbw2 hsz2 hlo2
  clear x1_0_9 x1_0_10 x1_0_11 x1_0_12 x1_0_13 x1_0_14 x1_0_15 x1_2_0 x1_2_1 x1_2_2 x1_2_3 x1_2_4 x1_2_5 x1_2_6 x1_2_7 x1_2_8 x1_2_9 x1_2_10 x1_2_11 x1_2_12 x1_2_13 x1_2_14 x1_2_15 z1_2_0 z1_2_1 z1_2_2 z1_2_3 z1_2_4 z1_2_5 z1_2_6 z1_2_7 z1_2_8 z1_2_9 z1_2_10 z1_2_11 z1_2_12 z1_2_13 z1_2_14 z1_2_15
  go_wp2
  refine bodyPost_ret (v := .agg #[.string x.fSymbol, .string x.fName, .int .i64 x.fTarget.fKind, .int .i64 x.fTarget.fN, .int .i64 x.fTarget.fPos, .int .i64 x.fTarget.fType, .string x.fTarget.fSymbol, .string x.fTarget.fName, .slice a8r x.fTarget.fArgs.length c8r, .int .i64 x.fValue.fKind, .int .i64 x.fValue.fN, .int .i64 x.fValue.fPos, .int .i64 x.fValue.fType, .string x.fValue.fSymbol, .string x.fValue.fName, .slice a15r x.fValue.fArgs.length c15r]) (results_cell_row Tryz.results64 _ _ (w.heap.size + 1) 120 #[.string x.fSymbol, .string x.fName, .int .i64 x.fTarget.fKind, .int .i64 x.fTarget.fN, .int .i64 x.fTarget.fPos, .int .i64 x.fTarget.fType, .string x.fTarget.fSymbol, .string x.fTarget.fName, .slice a8r x.fTarget.fArgs.length c8r, .int .i64 x.fValue.fKind, .int .i64 x.fValue.fN, .int .i64 x.fValue.fPos, .int .i64 x.fValue.fType, .string x.fValue.fSymbol, .string x.fValue.fName, .slice a15r x.fValue.fArgs.length c15r] (0, 0) _ rfl (by refine Eq.trans (blk_set (cs := #[.string x.fSymbol, .string x.fName, .int .i64 x.fTarget.fKind, .int .i64 x.fTarget.fN, .int .i64 x.fTarget.fPos, .int .i64 x.fTarget.fType, .string x.fTarget.fSymbol, .string x.fTarget.fName, .slice a8r x.fTarget.fArgs.length c8r, .int .i64 x.fValue.fKind, .int .i64 x.fValue.fN, .int .i64 x.fValue.fPos, .int .i64 x.fValue.fType, .string x.fValue.fSymbol, .string x.fValue.fName, .slice none 0 0]) (t := 120) (fr := (0, 0)) ?_) rfl; refine Eq.trans (blk_set (cs := #[.string x.fSymbol, .string x.fName, .int .i64 x.fTarget.fKind, .int .i64 x.fTarget.fN, .int .i64 x.fTarget.fPos, .int .i64 x.fTarget.fType, .string x.fTarget.fSymbol, .string x.fTarget.fName, .slice a8r x.fTarget.fArgs.length c8r, .int .i64 x.fValue.fKind, .int .i64 x.fValue.fN, .int .i64 x.fValue.fPos, .int .i64 x.fValue.fType, .string x.fValue.fSymbol, .string ⟨#[]⟩, .slice none 0 0]) (t := 120) (fr := (0, 0)) ?_) rfl; refine Eq.trans (blk_set (cs := #[.string x.fSymbol, .string x.fName, .int .i64 x.fTarget.fKind, .int .i64 x.fTarget.fN, .int .i64 x.fTarget.fPos, .int .i64 x.fTarget.fType, .string x.fTarget.fSymbol, .string x.fTarget.fName, .slice a8r x.fTarget.fArgs.length c8r, .int .i64 x.fValue.fKind, .int .i64 x.fValue.fN, .int .i64 x.fValue.fPos, .int .i64 x.fValue.fType, .string ⟨#[]⟩, .string ⟨#[]⟩, .slice none 0 0]) (t := 120) (fr := (0, 0)) ?_) rfl; refine Eq.trans (blk_set (cs := #[.string x.fSymbol, .string x.fName, .int .i64 x.fTarget.fKind, .int .i64 x.fTarget.fN, .int .i64 x.fTarget.fPos, .int .i64 x.fTarget.fType, .string x.fTarget.fSymbol, .string x.fTarget.fName, .slice a8r x.fTarget.fArgs.length c8r, .int .i64 x.fValue.fKind, .int .i64 x.fValue.fN, .int .i64 x.fValue.fPos, .int .i64 0, .string ⟨#[]⟩, .string ⟨#[]⟩, .slice none 0 0]) (t := 120) (fr := (0, 0)) ?_) rfl; refine Eq.trans (blk_set (cs := #[.string x.fSymbol, .string x.fName, .int .i64 x.fTarget.fKind, .int .i64 x.fTarget.fN, .int .i64 x.fTarget.fPos, .int .i64 x.fTarget.fType, .string x.fTarget.fSymbol, .string x.fTarget.fName, .slice a8r x.fTarget.fArgs.length c8r, .int .i64 x.fValue.fKind, .int .i64 x.fValue.fN, .int .i64 0, .int .i64 0, .string ⟨#[]⟩, .string ⟨#[]⟩, .slice none 0 0]) (t := 120) (fr := (0, 0)) ?_) rfl; refine Eq.trans (blk_set (cs := #[.string x.fSymbol, .string x.fName, .int .i64 x.fTarget.fKind, .int .i64 x.fTarget.fN, .int .i64 x.fTarget.fPos, .int .i64 x.fTarget.fType, .string x.fTarget.fSymbol, .string x.fTarget.fName, .slice a8r x.fTarget.fArgs.length c8r, .int .i64 x.fValue.fKind, .int .i64 0, .int .i64 0, .int .i64 0, .string ⟨#[]⟩, .string ⟨#[]⟩, .slice none 0 0]) (t := 120) (fr := (0, 0)) ?_) rfl; refine Eq.trans (blk_set (cs := #[.string x.fSymbol, .string x.fName, .int .i64 x.fTarget.fKind, .int .i64 x.fTarget.fN, .int .i64 x.fTarget.fPos, .int .i64 x.fTarget.fType, .string x.fTarget.fSymbol, .string x.fTarget.fName, .slice a8r x.fTarget.fArgs.length c8r, .int .i64 0, .int .i64 0, .int .i64 0, .int .i64 0, .string ⟨#[]⟩, .string ⟨#[]⟩, .slice none 0 0]) (t := 120) (fr := (0, 0)) ?_) rfl; refine Eq.trans (blk_set (cs := #[.string x.fSymbol, .string x.fName, .int .i64 x.fTarget.fKind, .int .i64 x.fTarget.fN, .int .i64 x.fTarget.fPos, .int .i64 x.fTarget.fType, .string x.fTarget.fSymbol, .string x.fTarget.fName, .slice none 0 0, .int .i64 0, .int .i64 0, .int .i64 0, .int .i64 0, .string ⟨#[]⟩, .string ⟨#[]⟩, .slice none 0 0]) (t := 120) (fr := (0, 0)) ?_) rfl; refine Eq.trans (blk_set (cs := #[.string x.fSymbol, .string x.fName, .int .i64 x.fTarget.fKind, .int .i64 x.fTarget.fN, .int .i64 x.fTarget.fPos, .int .i64 x.fTarget.fType, .string x.fTarget.fSymbol, .string ⟨#[]⟩, .slice none 0 0, .int .i64 0, .int .i64 0, .int .i64 0, .int .i64 0, .string ⟨#[]⟩, .string ⟨#[]⟩, .slice none 0 0]) (t := 120) (fr := (0, 0)) ?_) rfl; refine Eq.trans (blk_set (cs := #[.string x.fSymbol, .string x.fName, .int .i64 x.fTarget.fKind, .int .i64 x.fTarget.fN, .int .i64 x.fTarget.fPos, .int .i64 x.fTarget.fType, .string ⟨#[]⟩, .string ⟨#[]⟩, .slice none 0 0, .int .i64 0, .int .i64 0, .int .i64 0, .int .i64 0, .string ⟨#[]⟩, .string ⟨#[]⟩, .slice none 0 0]) (t := 120) (fr := (0, 0)) ?_) rfl; refine Eq.trans (blk_set (cs := #[.string x.fSymbol, .string x.fName, .int .i64 x.fTarget.fKind, .int .i64 x.fTarget.fN, .int .i64 x.fTarget.fPos, .int .i64 0, .string ⟨#[]⟩, .string ⟨#[]⟩, .slice none 0 0, .int .i64 0, .int .i64 0, .int .i64 0, .int .i64 0, .string ⟨#[]⟩, .string ⟨#[]⟩, .slice none 0 0]) (t := 120) (fr := (0, 0)) ?_) rfl; refine Eq.trans (blk_set (cs := #[.string x.fSymbol, .string x.fName, .int .i64 x.fTarget.fKind, .int .i64 x.fTarget.fN, .int .i64 0, .int .i64 0, .string ⟨#[]⟩, .string ⟨#[]⟩, .slice none 0 0, .int .i64 0, .int .i64 0, .int .i64 0, .int .i64 0, .string ⟨#[]⟩, .string ⟨#[]⟩, .slice none 0 0]) (t := 120) (fr := (0, 0)) ?_) rfl; refine Eq.trans (blk_set (cs := #[.string x.fSymbol, .string x.fName, .int .i64 x.fTarget.fKind, .int .i64 0, .int .i64 0, .int .i64 0, .string ⟨#[]⟩, .string ⟨#[]⟩, .slice none 0 0, .int .i64 0, .int .i64 0, .int .i64 0, .int .i64 0, .string ⟨#[]⟩, .string ⟨#[]⟩, .slice none 0 0]) (t := 120) (fr := (0, 0)) ?_) rfl; refine Eq.trans (blk_set (cs := #[.string x.fSymbol, .string x.fName, .int .i64 0, .int .i64 0, .int .i64 0, .int .i64 0, .string ⟨#[]⟩, .string ⟨#[]⟩, .slice none 0 0, .int .i64 0, .int .i64 0, .int .i64 0, .int .i64 0, .string ⟨#[]⟩, .string ⟨#[]⟩, .slice none 0 0]) (t := 120) (fr := (0, 0)) ?_) rfl; refine Eq.trans (blk_set (cs := #[.string x.fSymbol, .string ⟨#[]⟩, .int .i64 0, .int .i64 0, .int .i64 0, .int .i64 0, .string ⟨#[]⟩, .string ⟨#[]⟩, .slice none 0 0, .int .i64 0, .int .i64 0, .int .i64 0, .int .i64 0, .string ⟨#[]⟩, .string ⟨#[]⟩, .slice none 0 0]) (t := 120) (fr := (0, 0)) ?_) rfl; refine Eq.trans (blk_set (cs := #[.string ⟨#[]⟩, .string ⟨#[]⟩, .int .i64 0, .int .i64 0, .int .i64 0, .int .i64 0, .string ⟨#[]⟩, .string ⟨#[]⟩, .slice none 0 0, .int .i64 0, .int .i64 0, .int .i64 0, .int .i64 0, .string ⟨#[]⟩, .string ⟨#[]⟩, .slice none 0 0]) (t := 120) (fr := (0, 0)) ?_) rfl; repeat (first | (with_reducible exact HG2.out) | (refine blk_other (by simp) ?_))) Tryz.underlying120 rfl rfl) rfl ⟨a8r, c8r, a15r, c15r, rfl, ?_, (by repeat (first | (with_reducible exact HB2.out) | (with_reducible exact Below.refl _ _) | (refine Below.setCell ?_ (by simp <;> omega) _) | (refine Below.alloc ?_ (by simp <;> omega) _)) : Below w.heap.size w _)⟩
  have ho1 := HO1_2.out
  clear HO1_2
  have ho2 := HO2_2.out
  clear HO2_2
  have q1 := HLO1.out
  have q2 := HLO2.out
  skip
  skip
  have hkk : ∀ w9 : World, Kept (fun y => w.heap.size + 3 ≤ y) w2 w9 → OwnR w9 (fun y => w.heap.size ≤ y ∧ y < w2.heap.size) 16 x.ct (fun j => [.string x.fSymbol, .string x.fName, .int .i64 x.fTarget.fKind, .int .i64 x.fTarget.fN, .int .i64 x.fTarget.fPos, .int .i64 x.fTarget.fType, .string x.fTarget.fSymbol, .string x.fTarget.fName, .slice a8r x.fTarget.fArgs.length c8r, .int .i64 x.fValue.fKind, .int .i64 x.fValue.fN, .int .i64 x.fValue.fPos, .int .i64 x.fValue.fType, .string x.fValue.fSymbol, .string x.fValue.fName, .slice a15r x.fValue.fArgs.length c15r].getD j .nilFunc) := fun w9 hk => by
    refine OwnR.append (F1 := fun _ => False) (F2 := fun y => w.heap.size + 3 ≤ y ∧ y < w2.heap.size) (m := 2) (n := 14) ?_ ?_ (by intro y h1 h2; first | exact h1.elim | exact h2.elim | (have h3 := h1.2; have h4 := h2.1; omega)) (by intro y h1; first | exact h1.elim | (have h3 := h1.1; have h4 := h1.2; exact ⟨by omega, by omega⟩)) (by intro y h1; first | exact h1.elim | (have h3 := h1.1; have h4 := h1.2; exact ⟨by omega, by omega⟩))
    · skip
      refine OwnR.lits (F := fun _ => False) fun j hj => ?_
      match j, hj with
      | 0, _ => rfl
      | 1, _ => rfl
    · skip
      refine OwnR.append (F1 := fun y => w.heap.size + 3 ≤ y ∧ y < w1.heap.size) (F2 := fun y => w1.heap.size ≤ y ∧ y < w2.heap.size) (m := 7) (n := 7) ?_ ?_ (by intro y h1 h2; first | exact h1.elim | exact h2.elim | (have h3 := h1.2; have h4 := h2.1; omega)) (by intro y h1; first | exact h1.elim | (have h3 := h1.1; have h4 := h1.2; exact ⟨by omega, by omega⟩)) (by intro y h1; first | exact h1.elim | (have h3 := h1.1; have h4 := h1.2; exact ⟨by omega, by omega⟩))
      · skip
        refine OwnR.congr (ho1.kept (hk.sub fun y hy => by have h := hy.1; omega)) (fun j hj => ?_) (fun j hj => ?_)
        · match j, hj with
          | 0, _ => rfl
          | 1, _ => rfl
          | 2, _ => rfl
          | 3, _ => rfl
          | 4, _ => rfl
          | 5, _ => rfl
          | 6, _ => rfl
        · match j, hj with
          | 0, _ => rfl
          | 1, _ => rfl
          | 2, _ => rfl
          | 3, _ => rfl
          | 4, _ => rfl
          | 5, _ => rfl
          | 6, _ => rfl
      · skip
        refine OwnR.congr (ho2.kept (hk.sub fun y hy => by have h := hy.1; omega)) (fun j hj => ?_) (fun j hj => ?_)
        · match j, hj with
          | 0, _ => rfl
          | 1, _ => rfl
          | 2, _ => rfl
          | 3, _ => rfl
          | 4, _ => rfl
          | 5, _ => rfl
          | 6, _ => rfl
        · match j, hj with
          | 0, _ => rfl
          | 1, _ => rfl
          | 2, _ => rfl
          | 3, _ => rfl
          | 4, _ => rfl
          | 5, _ => rfl
          | 6, _ => rfl
  refine (hkk _ (by repeat (first | (with_reducible exact Kept.refl) | (refine Kept.put ?_ (by intro h1; dsimp only at h1; omega))))).sub (fun y hy => ⟨hy.1, Nat.lt_of_lt_of_le hy.2 (by simp)⟩)

theorem info_Contribution : (Tryz.prog.info? 120).map (fun i => (i.zero, i.size, i.bytes)) = some (some (.agg #[.string ⟨#[]⟩, .string ⟨#[]⟩, .int .i64 0, .int .i64 0, .int .i64 0, .int .i64 0, .string ⟨#[]⟩, .string ⟨#[]⟩, .slice none 0 0, .int .i64 0, .int .i64 0, .int .i64 0, .int .i64 0, .string ⟨#[]⟩, .string ⟨#[]⟩, .slice none 0 0]), 16, 208) := by kernel_rfl

set_option maxHeartbeats 1600000 in
set_option maxRecDepth 100000 in
theorem laws_toContributionS {lo hi : Nat} {a : Option Addr} {cap : Nat} (l : List DContribution) (hsz : lsz DContribution.sz l ≤ 1048576) (w : World) (hhi : hi ≤ w.heap.size) (hs : Sl lo hi w 16 l.length (fun k => DContribution.ct (l.getD k default)) a) :
    Calls Tryz.prog 32 #[.slice a l.length cap] w fun e w' => ∃ a' cap', e = .returned (.slice a' l.length cap') ∧ Own w' (fun x => w.heap.size ≤ x ∧ x < w'.heap.size) (.sl 16 l.length (fun k => DContribution.ct (l.getD k default))) (.slice a' l.length cap') ∧ Below w.heap.size w w' := by
  have HS := Lib.hid hs
  clear hs
  have HW := Lib.hid hsz
  have hn : l.length ≤ 1048576 := by unfold lsz at hsz; omega
  clear hsz
  obtain ⟨i0, hi', hz0, hz1, hz2⟩ := info_parts info_Contribution
  go_enter Tryz.func32, Tryz.ntmps32
  go_wp2_with (at_make; refine wpList_make_full _ rfl (.tmp 6) (.tmp 6) 43 rfl w.heap.size 120 i0 (.agg #[.string ⟨#[]⟩, .string ⟨#[]⟩, .int .i64 0, .int .i64 0, .int .i64 0, .int .i64 0, .string ⟨#[]⟩, .string ⟨#[]⟩, .slice none 0 0, .int .i64 0, .int .i64 0, .int .i64 0, .int .i64 0, .string ⟨#[]⟩, .string ⟨#[]⟩, .slice none 0 0]) 16 Tryz.underlying43 hi' hz0 hz1 .i64 .i64 (l.length : Int) (l.length : Int) l.length rfl rfl rfl rfl (by rw [hz2]; omega) (by unfold maxLen; omega) (Nat.le_refl _) ?_; intro w1 hown hgrow)
  have hb1 : Below w.heap.size w w1 := (Below.refl _ w).grown hgrow (Nat.le_refl _) (fun k hk => by cases hk)
  clear hgrow
  have hblk := (ownsRow_block hown).1
  go_loopw [4] (fun i wr => ∃ (k : Nat) (xs : List Value), k ≤ l.length ∧ i = .int .i64 (k : Int) ∧ wr.ownsRow w.heap.size 120 16 (.slice (some ⟨w.heap.size, 0, none⟩) l.length l.length) l.length xs ∧ Filled w.heap.size wr 16 k (fun k => DContribution.ct (l.getD k default)) xs ∧ Below w.heap.size w wr) (fun i _ => l.length - (intOf i).toNat)
  case atStart => exact ⟨0, _, Nat.zero_le _, rfl, hown, Filled.zero hblk, hb1⟩
  case round =>
    clear hown hb1 hblk
    obtain ⟨k, xs, hk, rfl, hown, hfill, hb⟩ := hrel
    have hblk := ownsRow_block hown
    have HO := Lib.hid hown
    have HF := Lib.hid hfill
    have HB := Lib.hid hb
    clear hown hfill
    by_cases hlt : k < l.length
    · have hhr : hi ≤ wr.heap.size := Nat.le_trans hhi hb.size
      obtain ⟨b, off, rfl, hlo, hhi', hc⟩ := (HS.out.later (hb.mono hhi) (Nat.le_refl _)).at k hlt
      obtain ⟨a8, c8, a15, c15, hc0_, hc1_, hc2_, hc3_, hc4_, hc5_, hc6_, hc7_, hc8_, hc9_, hc10_, hc11_, hc12_, hc13_, hc14_, hc15_, hs8, hs15⟩ := DContribution.open hc
      have hkn : k * 16 + 16 ≤ l.length * 16 := by omega
      have d0 := hblk.2.2.1 (k * 16) (by omega)
      have z0 := hblk.2.2.2 (k * 16)
      have d1 := hblk.2.2.1 (k * 16 + 1) (by omega)
      have z1 := hblk.2.2.2 (k * 16 + 1)
      have d2 := hblk.2.2.1 (k * 16 + 2) (by omega)
      have z2 := hblk.2.2.2 (k * 16 + 2)
      have d3 := hblk.2.2.1 (k * 16 + 3) (by omega)
      have z3 := hblk.2.2.2 (k * 16 + 3)
      have d4 := hblk.2.2.1 (k * 16 + 4) (by omega)
      have z4 := hblk.2.2.2 (k * 16 + 4)
      have d5 := hblk.2.2.1 (k * 16 + 5) (by omega)
      have z5 := hblk.2.2.2 (k * 16 + 5)
      have d6 := hblk.2.2.1 (k * 16 + 6) (by omega)
      have z6 := hblk.2.2.2 (k * 16 + 6)
      have d7 := hblk.2.2.1 (k * 16 + 7) (by omega)
      have z7 := hblk.2.2.2 (k * 16 + 7)
      have d8 := hblk.2.2.1 (k * 16 + 8) (by omega)
      have z8 := hblk.2.2.2 (k * 16 + 8)
      have d9 := hblk.2.2.1 (k * 16 + 9) (by omega)
      have z9 := hblk.2.2.2 (k * 16 + 9)
      have d10 := hblk.2.2.1 (k * 16 + 10) (by omega)
      have z10 := hblk.2.2.2 (k * 16 + 10)
      have d11 := hblk.2.2.1 (k * 16 + 11) (by omega)
      have z11 := hblk.2.2.2 (k * 16 + 11)
      have d12 := hblk.2.2.1 (k * 16 + 12) (by omega)
      have z12 := hblk.2.2.2 (k * 16 + 12)
      have d13 := hblk.2.2.1 (k * 16 + 13) (by omega)
      have z13 := hblk.2.2.2 (k * 16 + 13)
      have d14 := hblk.2.2.1 (k * 16 + 14) (by omega)
      have z14 := hblk.2.2.2 (k * 16 + 14)
      have d15 := hblk.2.2.1 (k * 16 + 15) (by omega)
      have z15 := hblk.2.2.2 (k * 16 + 15)
      have hsz := hblk.1
      clear hblk hb hc
      have hxs := szle_at (f := DContribution.sz) l k hlt
      generalize hx : l.getD k default = x at *
      have HX := Lib.hid hx
      clear hx
      generalize xs.getD (k * 16) Value.nilFunc = v0 at d0
      generalize xs.getD (k * 16 + 1) Value.nilFunc = v1 at d1
      generalize xs.getD (k * 16 + 2) Value.nilFunc = v2 at d2
      generalize xs.getD (k * 16 + 3) Value.nilFunc = v3 at d3
      generalize xs.getD (k * 16 + 4) Value.nilFunc = v4 at d4
      generalize xs.getD (k * 16 + 5) Value.nilFunc = v5 at d5
      generalize xs.getD (k * 16 + 6) Value.nilFunc = v6 at d6
      generalize xs.getD (k * 16 + 7) Value.nilFunc = v7 at d7
      generalize xs.getD (k * 16 + 8) Value.nilFunc = v8 at d8
      generalize xs.getD (k * 16 + 9) Value.nilFunc = v9 at d9
      generalize xs.getD (k * 16 + 10) Value.nilFunc = v10 at d10
      generalize xs.getD (k * 16 + 11) Value.nilFunc = v11 at d11
      generalize xs.getD (k * 16 + 12) Value.nilFunc = v12 at d12
      generalize xs.getD (k * 16 + 13) Value.nilFunc = v13 at d13
      generalize xs.getD (k * 16 + 14) Value.nilFunc = v14 at d14
      generalize xs.getD (k * 16 + 15) Value.nilFunc = v15 at d15
      have HT := Lib.hid (laws_toContribution (c8 := c8) (c15 := c15) x (by have h1 := HW.out; omega) wr hhr hs8 hs15)
      clear hxs hs8 hs15
      go_wp2_with fail
      refine HT.out.mono ?_
      rintro e w1 ⟨a8r, c8r, a15r, c15r, rfl, ho1, hb1⟩
      have HOR := Lib.hid ho1
      clear ho1
      have e0 := (hb1.cell (p := ⟨w.heap.size, k * 16, none⟩) hsz).trans d0
      have y0 := (hb1.frozen (p := ⟨w.heap.size, k * 16, none⟩) hsz).trans z0
      have e1 := (hb1.cell (p := ⟨w.heap.size, k * 16 + 1, none⟩) hsz).trans d1
      have y1 := (hb1.frozen (p := ⟨w.heap.size, k * 16 + 1, none⟩) hsz).trans z1
      have e2 := (hb1.cell (p := ⟨w.heap.size, k * 16 + 2, none⟩) hsz).trans d2
      have y2 := (hb1.frozen (p := ⟨w.heap.size, k * 16 + 2, none⟩) hsz).trans z2
      have e3 := (hb1.cell (p := ⟨w.heap.size, k * 16 + 3, none⟩) hsz).trans d3
      have y3 := (hb1.frozen (p := ⟨w.heap.size, k * 16 + 3, none⟩) hsz).trans z3
      have e4 := (hb1.cell (p := ⟨w.heap.size, k * 16 + 4, none⟩) hsz).trans d4
      have y4 := (hb1.frozen (p := ⟨w.heap.size, k * 16 + 4, none⟩) hsz).trans z4
      have e5 := (hb1.cell (p := ⟨w.heap.size, k * 16 + 5, none⟩) hsz).trans d5
      have y5 := (hb1.frozen (p := ⟨w.heap.size, k * 16 + 5, none⟩) hsz).trans z5
      have e6 := (hb1.cell (p := ⟨w.heap.size, k * 16 + 6, none⟩) hsz).trans d6
      have y6 := (hb1.frozen (p := ⟨w.heap.size, k * 16 + 6, none⟩) hsz).trans z6
      have e7 := (hb1.cell (p := ⟨w.heap.size, k * 16 + 7, none⟩) hsz).trans d7
      have y7 := (hb1.frozen (p := ⟨w.heap.size, k * 16 + 7, none⟩) hsz).trans z7
      have e8 := (hb1.cell (p := ⟨w.heap.size, k * 16 + 8, none⟩) hsz).trans d8
      have y8 := (hb1.frozen (p := ⟨w.heap.size, k * 16 + 8, none⟩) hsz).trans z8
      have e9 := (hb1.cell (p := ⟨w.heap.size, k * 16 + 9, none⟩) hsz).trans d9
      have y9 := (hb1.frozen (p := ⟨w.heap.size, k * 16 + 9, none⟩) hsz).trans z9
      have e10 := (hb1.cell (p := ⟨w.heap.size, k * 16 + 10, none⟩) hsz).trans d10
      have y10 := (hb1.frozen (p := ⟨w.heap.size, k * 16 + 10, none⟩) hsz).trans z10
      have e11 := (hb1.cell (p := ⟨w.heap.size, k * 16 + 11, none⟩) hsz).trans d11
      have y11 := (hb1.frozen (p := ⟨w.heap.size, k * 16 + 11, none⟩) hsz).trans z11
      have e12 := (hb1.cell (p := ⟨w.heap.size, k * 16 + 12, none⟩) hsz).trans d12
      have y12 := (hb1.frozen (p := ⟨w.heap.size, k * 16 + 12, none⟩) hsz).trans z12
      have e13 := (hb1.cell (p := ⟨w.heap.size, k * 16 + 13, none⟩) hsz).trans d13
      have y13 := (hb1.frozen (p := ⟨w.heap.size, k * 16 + 13, none⟩) hsz).trans z13
      have e14 := (hb1.cell (p := ⟨w.heap.size, k * 16 + 14, none⟩) hsz).trans d14
      have y14 := (hb1.frozen (p := ⟨w.heap.size, k * 16 + 14, none⟩) hsz).trans z14
      have e15 := (hb1.cell (p := ⟨w.heap.size, k * 16 + 15, none⟩) hsz).trans d15
      have y15 := (hb1.frozen (p := ⟨w.heap.size, k * 16 + 15, none⟩) hsz).trans z15
      have HB1 := Lib.hid hb1
      clear hb1 d0 z0 d1 z1 d2 z2 d3 z3 d4 z4 d5 z5 d6 z6 d7 z7 d8 z8 d9 z9 d10 z10 d11 z11 d12 z12 d13 z13 d14 z14 d15 z15
      go_wp2
      go_roundw
      case rel =>
        have hst := HF.out.stored HB1.out hsz (ownsRow_below HO.out HB1.out) hlt [.string x.fSymbol, .string x.fName, .int .i64 x.fTarget.fKind, .int .i64 x.fTarget.fN, .int .i64 x.fTarget.fPos, .int .i64 x.fTarget.fType, .string x.fTarget.fSymbol, .string x.fTarget.fName, .slice a8r x.fTarget.fArgs.length c8r, .int .i64 x.fValue.fKind, .int .i64 x.fValue.fN, .int .i64 x.fValue.fPos, .int .i64 x.fValue.fType, .string x.fValue.fSymbol, .string x.fValue.fName, .slice a15r x.fValue.fArgs.length c15r] rfl ((by rw [HX.out]; exact HOR.out))
        exact ⟨k + 1, _, by omega, by go_num, hst.1, hst.2, setCells_below (Nat.le_refl _) [_, _, _, _, _, _, _, _, _, _, _, _, _, _, _, _] _ (HB.out.trans (HB1.out.mono HB.out.size))⟩
      case measure => simp [intOf]; omega
    · obtain rfl : k = l.length := by omega
      go_wp2
      go_ret
      exact ⟨_, _, rfl, HF.out.own hblk.1 hblk.2.2.1 hblk.2.2.2, hb⟩

set_option maxHeartbeats 1600000 in
set_option maxRecDepth 100000 in
theorem laws_eqContribution {lo hi lo2 hi2 : Nat} {a8 : Option Addr} {c8 : Nat} {a15 : Option Addr} {c15 : Nat} {a8q : Option Addr} {c8q : Nat} {a15q : Option Addr} {c15q : Nat} (x : DContribution) (hsz : x.sz ≤ 1048576) (w : World) (hhi : hi ≤ w.heap.size) (hhi2 : hi2 ≤ w.heap.size) (hs8 : Sl lo hi w 7 x.fTarget.fArgs.length (ctE x.fTarget.fArgs) a8) (hs15 : Sl lo hi w 7 x.fValue.fArgs.length (ctE x.fValue.fArgs) a15) (hs8q : Sl lo2 hi2 w 7 x.fTarget.fArgs.length (ctE x.fTarget.fArgs) a8q) (hs15q : Sl lo2 hi2 w 7 x.fValue.fArgs.length (ctE x.fValue.fArgs) a15q) :
    Calls Tryz.prog 79 #[.agg #[.string x.fSymbol, .string x.fName, .int .i64 x.fTarget.fKind, .int .i64 x.fTarget.fN, .int .i64 x.fTarget.fPos, .int .i64 x.fTarget.fType, .string x.fTarget.fSymbol, .string x.fTarget.fName, .slice a8 x.fTarget.fArgs.length c8, .int .i64 x.fValue.fKind, .int .i64 x.fValue.fN, .int .i64 x.fValue.fPos, .int .i64 x.fValue.fType, .string x.fValue.fSymbol, .string x.fValue.fName, .slice a15 x.fValue.fArgs.length c15], .agg #[.string x.fSymbol, .string x.fName, .int .i64 x.fTarget.fKind, .int .i64 x.fTarget.fN, .int .i64 x.fTarget.fPos, .int .i64 x.fTarget.fType, .string x.fTarget.fSymbol, .string x.fTarget.fName, .slice a8q x.fTarget.fArgs.length c8q, .int .i64 x.fValue.fKind, .int .i64 x.fValue.fN, .int .i64 x.fValue.fPos, .int .i64 x.fValue.fType, .string x.fValue.fSymbol, .string x.fValue.fName, .slice a15q x.fValue.fArgs.length c15q]] w fun e w' => e = .returned (.bool true) ∧ Below w.heap.size w w' := by
  have HS8 := Lib.hid hs8
  have HS8q := Lib.hid hs8q
  have HS15 := Lib.hid hs15
  have HS15q := Lib.hid hs15q
  clear hs8 hs8q hs15 hs15q
  have HW := Lib.hid hsz
  clear hsz
  have HB0 := Lib.hid (((Below.refl w.heap.size w).alloc (Nat.le_refl _) (.cells #[.string x.fSymbol, .string x.fName, .int .i64 x.fTarget.fKind, .int .i64 x.fTarget.fN, .int .i64 x.fTarget.fPos, .int .i64 x.fTarget.fType, .string x.fTarget.fSymbol, .string x.fTarget.fName, .slice a8 x.fTarget.fArgs.length c8, .int .i64 x.fValue.fKind, .int .i64 x.fValue.fN, .int .i64 x.fValue.fPos, .int .i64 x.fValue.fType, .string x.fValue.fSymbol, .string x.fValue.fName, .slice a15 x.fValue.fArgs.length c15] 120)).alloc (by simp <;> omega) (.cells #[.string x.fSymbol, .string x.fName, .int .i64 x.fTarget.fKind, .int .i64 x.fTarget.fN, .int .i64 x.fTarget.fPos, .int .i64 x.fTarget.fType, .string x.fTarget.fSymbol, .string x.fTarget.fName, .slice a8q x.fTarget.fArgs.length c8q, .int .i64 x.fValue.fKind, .int .i64 x.fValue.fN, .int .i64 x.fValue.fPos, .int .i64 x.fValue.fType, .string x.fValue.fSymbol, .string x.fValue.fName, .slice a15q x.fValue.fArgs.length c15q] 120))
  have ht0 := fun (w' : World) (hhi : hi ≤ w'.heap.size) (hhi2 : hi2 ≤ w'.heap.size) (hs8 : Sl lo hi w' 7 x.fTarget.fArgs.length (ctE x.fTarget.fArgs) a8) (hs8q : Sl lo2 hi2 w' 7 x.fTarget.fArgs.length (ctE x.fTarget.fArgs) a8q) => laws_eqExpr (c6 := c8) (c6q := c8q) x.fTarget (by have h := HW.out; unfold DContribution.sz at h; omega) w' hhi hhi2 hs8 hs8q
  have HT0 := Lib.hid ht0
  clear ht0
  have ht1 := fun (w' : World) (hhi : hi ≤ w'.heap.size) (hhi2 : hi2 ≤ w'.heap.size) (hs15 : Sl lo hi w' 7 x.fValue.fArgs.length (ctE x.fValue.fArgs) a15) (hs15q : Sl lo2 hi2 w' 7 x.fValue.fArgs.length (ctE x.fValue.fArgs) a15q) => laws_eqExpr (c6 := c15) (c6q := c15q) x.fValue (by have h := HW.out; unfold DContribution.sz at h; omega) w' hhi hhi2 hs15 hs15q
  have HT1 := Lib.hid ht1
  clear ht1
  go_enter Tryz.func79, Tryz.ntmps79
  go_wp2_with fail
  refine (HT0.out _ (Nat.le_trans hhi (HB0.out.size)) (Nat.le_trans hhi2 (HB0.out.size)) (HS8.out.later HB0.out hhi) (HS8q.out.later HB0.out hhi2)).mono ?_
  rintro e w1 ⟨rfl, hb1⟩
  have x1_0_9 : w1.cell? ⟨w.heap.size, 9, none⟩ = some (.int .i64 x.fValue.fKind) := (hb1.cell (p := ⟨w.heap.size, 9, none⟩) (by first | omega | (simp; done) | (simp; omega) | (simp [World.setCell]; omega))).trans (by go_simp)
  have x1_0_10 : w1.cell? ⟨w.heap.size, 10, none⟩ = some (.int .i64 x.fValue.fN) := (hb1.cell (p := ⟨w.heap.size, 10, none⟩) (by first | omega | (simp; done) | (simp; omega) | (simp [World.setCell]; omega))).trans (by go_simp)
  have x1_0_11 : w1.cell? ⟨w.heap.size, 11, none⟩ = some (.int .i64 x.fValue.fPos) := (hb1.cell (p := ⟨w.heap.size, 11, none⟩) (by first | omega | (simp; done) | (simp; omega) | (simp [World.setCell]; omega))).trans (by go_simp)
  have x1_0_12 : w1.cell? ⟨w.heap.size, 12, none⟩ = some (.int .i64 x.fValue.fType) := (hb1.cell (p := ⟨w.heap.size, 12, none⟩) (by first | omega | (simp; done) | (simp; omega) | (simp [World.setCell]; omega))).trans (by go_simp)
  have x1_0_13 : w1.cell? ⟨w.heap.size, 13, none⟩ = some (.string x.fValue.fSymbol) := (hb1.cell (p := ⟨w.heap.size, 13, none⟩) (by first | omega | (simp; done) | (simp; omega) | (simp [World.setCell]; omega))).trans (by go_simp)
  have x1_0_14 : w1.cell? ⟨w.heap.size, 14, none⟩ = some (.string x.fValue.fName) := (hb1.cell (p := ⟨w.heap.size, 14, none⟩) (by first | omega | (simp; done) | (simp; omega) | (simp [World.setCell]; omega))).trans (by go_simp)
  have x1_0_15 : w1.cell? ⟨w.heap.size, 15, none⟩ = some (.slice a15 x.fValue.fArgs.length c15) := (hb1.cell (p := ⟨w.heap.size, 15, none⟩) (by first | omega | (simp; done) | (simp; omega) | (simp [World.setCell]; omega))).trans (by go_simp)
  have x1_1_9 : w1.cell? ⟨w.heap.size + 1, 9, none⟩ = some (.int .i64 x.fValue.fKind) := (hb1.cell (p := ⟨w.heap.size + 1, 9, none⟩) (by first | omega | (simp; done) | (simp; omega) | (simp [World.setCell]; omega))).trans (by go_simp)
  have x1_1_10 : w1.cell? ⟨w.heap.size + 1, 10, none⟩ = some (.int .i64 x.fValue.fN) := (hb1.cell (p := ⟨w.heap.size + 1, 10, none⟩) (by first | omega | (simp; done) | (simp; omega) | (simp [World.setCell]; omega))).trans (by go_simp)
  have x1_1_11 : w1.cell? ⟨w.heap.size + 1, 11, none⟩ = some (.int .i64 x.fValue.fPos) := (hb1.cell (p := ⟨w.heap.size + 1, 11, none⟩) (by first | omega | (simp; done) | (simp; omega) | (simp [World.setCell]; omega))).trans (by go_simp)
  have x1_1_12 : w1.cell? ⟨w.heap.size + 1, 12, none⟩ = some (.int .i64 x.fValue.fType) := (hb1.cell (p := ⟨w.heap.size + 1, 12, none⟩) (by first | omega | (simp; done) | (simp; omega) | (simp [World.setCell]; omega))).trans (by go_simp)
  have x1_1_13 : w1.cell? ⟨w.heap.size + 1, 13, none⟩ = some (.string x.fValue.fSymbol) := (hb1.cell (p := ⟨w.heap.size + 1, 13, none⟩) (by first | omega | (simp; done) | (simp; omega) | (simp [World.setCell]; omega))).trans (by go_simp)
  have x1_1_14 : w1.cell? ⟨w.heap.size + 1, 14, none⟩ = some (.string x.fValue.fName) := (hb1.cell (p := ⟨w.heap.size + 1, 14, none⟩) (by first | omega | (simp; done) | (simp; omega) | (simp [World.setCell]; omega))).trans (by go_simp)
  have x1_1_15 : w1.cell? ⟨w.heap.size + 1, 15, none⟩ = some (.slice a15q x.fValue.fArgs.length c15q) := (hb1.cell (p := ⟨w.heap.size + 1, 15, none⟩) (by first | omega | (simp; done) | (simp; omega) | (simp [World.setCell]; omega))).trans (by go_simp)
  have hsz1 : w.heap.size + 1 < w1.heap.size := Nat.lt_of_lt_of_le (by first | omega | (simp; done) | (simp; omega) | (simp [World.setCell]; omega)) hb1.size
  have HB1 := Lib.hid (HB0.out.trans (hb1.mono HB0.out.size))
  clear hb1
  go_wp2_with fail
  refine (HT1.out _ (Nat.le_trans hhi (HB1.out.size)) (Nat.le_trans hhi2 (HB1.out.size)) (HS15.out.later HB1.out hhi) (HS15q.out.later HB1.out hhi2)).mono ?_
  rintro e w2 ⟨rfl, hb2⟩
  have HB2 := Lib.hid (HB1.out.trans (hb2.mono HB1.out.size))
  clear hb2
  clear x1_0_9 x1_0_10 x1_0_11 x1_0_12 x1_0_13 x1_0_14 x1_0_15 x1_1_9 x1_1_10 x1_1_11 x1_1_12 x1_1_13 x1_1_14 x1_1_15 hsz1
  go_wp2
  go_ret
  exact ⟨rfl, HB2.out⟩

set_option maxHeartbeats 1600000 in
set_option maxRecDepth 100000 in
theorem laws_eqContributionS {lo hi lo2 hi2 : Nat} {a a2 : Option Addr} {cap cap2 : Nat} (l : List DContribution) (hsz : lsz DContribution.sz l ≤ 1048576) (w : World) (hhi : hi ≤ w.heap.size) (hhi2 : hi2 ≤ w.heap.size) (hs : Sl lo hi w 16 l.length (fun k => DContribution.ct (l.getD k default)) a) (hs2 : Sl lo2 hi2 w 16 l.length (fun k => DContribution.ct (l.getD k default)) a2) :
    Calls Tryz.prog 44 #[.slice a l.length cap, .slice a2 l.length cap2] w fun e w' => e = .returned (.bool true) ∧ Below w.heap.size w w' := by
  have HS := Lib.hid hs
  have HS2 := Lib.hid hs2
  have HW := Lib.hid hsz
  have hn : l.length ≤ 1048576 := by unfold lsz at hsz; omega
  clear hs hs2 hsz
  go_enter Tryz.func44, Tryz.ntmps44
  go_wp2
  go_loopw [5] (fun i wr => ∃ k : Nat, k ≤ l.length ∧ i = .int .i64 (k : Int) ∧ Below w.heap.size w wr) (fun i _ => l.length - (intOf i).toNat)
  case atStart => exact ⟨0, Nat.zero_le _, rfl, Below.refl _ _⟩
  case round =>
    obtain ⟨k, hk, rfl, hb⟩ := hrel
    have HB := Lib.hid hb
    by_cases hlt : k < l.length
    · have hhr : hi ≤ wr.heap.size := Nat.le_trans hhi hb.size
      have hhr2 : hi2 ≤ wr.heap.size := Nat.le_trans hhi2 hb.size
      obtain ⟨b, off, rfl, _, hhi', hc⟩ := (HS.out.later (hb.mono hhi) (Nat.le_refl _)).at k hlt
      obtain ⟨b2, off2, rfl, _, hhi2', hc2⟩ := (HS2.out.later (hb.mono hhi2) (Nat.le_refl _)).at k hlt
      obtain ⟨a8, c8, a15, c15, hc0_, hc1_, hc2_, hc3_, hc4_, hc5_, hc6_, hc7_, hc8_, hc9_, hc10_, hc11_, hc12_, hc13_, hc14_, hc15_, hs8, hs15⟩ := DContribution.open hc
      obtain ⟨a8q, c8q, a15q, c15q, hc0q_, hc1q_, hc2q_, hc3q_, hc4q_, hc5q_, hc6q_, hc7q_, hc8q_, hc9q_, hc10q_, hc11q_, hc12q_, hc13q_, hc14q_, hc15q_, hs8q, hs15q⟩ := DContribution.open hc2
      have hxs := szle_at (f := DContribution.sz) l k hlt
      clear hb hc hc2
      generalize l.getD k default = x at *
      have HT := Lib.hid (fun (w' : World) (hw : Below wr.heap.size wr w') => laws_eqContribution (c8 := c8) (c8q := c8q) (c15 := c15) (c15q := c15q) x (by have h1 := HW.out; omega) w' (Nat.le_trans hhr hw.size) (Nat.le_trans hhr2 hw.size) (hs8.later hw hhr) (hs15.later hw hhr) (hs8q.later hw hhr2) (hs15q.later hw hhr2))
      clear hxs hs8 hs8q hs15 hs15q
      go_wp2_with fail
      go_region_with ((go_at_call 79; refine (HT.out _ (by first | exact Below.refl _ _ | exact (Below.refl _ _).drew | exact below_drewN (Below.refl _ _) _)).mono ?_; rintro e w1 ⟨rfl, hb1⟩))
      all_goals
        go_wp2
        go_roundw
        case rel =>
          refine ⟨k + 1, by omega, by go_num, ?_⟩
          have hb2 : Below wr.heap.size wr w1 := ⟨hb1.os, hb1.tape, hb1.output, hb1.size, hb1.block⟩
          repeat (first | exact HB.out.trans (hb2.mono HB.out.size) | apply Below.drew | refine below_drewN ?_ _)
        case measure => simp [intOf]; omega
    · go_wp2
      go_ret
      exact ⟨rfl, HB.out⟩
end Go.Proofs.YtnmepemmpeboeaaGreat
namespace Go.Proofs.YtnmepemmpeboeaaGreat
open Go.ChangeShapes Go.WideShapes Go.ChangeAt Go.RowKit Go.Deep

structure DOccurrence where
  fPos : Int
  fName : ByteArray
  deriving Inhabited

def DOccurrence.ct (x : DOccurrence) : Nat → Ct
  | 0 => .lit (.int .i64 x.fPos)
  | 1 => .lit (.string x.fName)
  | _ => .lit .nilFunc

def DOccurrence.ok (x : DOccurrence) : Prop := okI x.fPos ∧ okS x.fName

def DOccurrence.sz (x : DOccurrence) : Nat := x.fName.size

theorem DOccurrence.open {lo hi b o : Nat} {w : World} {x : DOccurrence} (h : ∀ j, j < 2 → ∃ u, w.cell? ⟨b, o + j, none⟩ = some u ∧ Lies lo hi w (x.ct j) u) :
    w.cell? ⟨b, o, none⟩ = some (.int .i64 x.fPos) ∧ w.cell? ⟨b, o + 1, none⟩ = some (.string x.fName) := by
  obtain ⟨u0, hc0, hl0⟩ := h 0 (by decide)
  obtain rfl := lies_lit hl0
  obtain ⟨u1, hc1, hl1⟩ := h 1 (by decide)
  obtain rfl := lies_lit hl1
  exact ⟨hc0, hc1⟩

theorem opens_occurrence {H : Type} {enc : TypeId × Value → H} {w : World} (fuel : Nat) : Opens enc Tryz.prog w 93 2 DOccurrence.ct DOccurrence.ok fuel := by
  intro cs x h
  have hl := opens_len Tryz.underlying93 h
  obtain ⟨y0, k0, q0⟩ := opens_field Tryz.underlying93 h 0 _ rfl (ft := 3) (o := 0) (n := 1) rfl rfl (fun m _ => opens_int Tryz.underlying3 m) (by kernel_rfl)
  obtain ⟨y1, k1, q1⟩ := opens_field Tryz.underlying93 h 1 _ rfl (ft := 9) (o := 1) (n := 1) rfl rfl (fun m _ => opens_string Tryz.underlying9 m) (by kernel_rfl)
  refine ⟨⟨y0, y1⟩, ⟨k0, k1⟩, hl.trans (by kernel_rfl), fun j hj => ?_⟩
  match j, hj with
  | 0, _ => exact q0 0 (by decide)
  | 1, _ => exact q1 0 (by decide)

set_option maxHeartbeats 1600000 in
set_option maxRecDepth 100000 in
theorem laws_szOccurrence (x : DOccurrence) (L : Int) (hL0 : 0 ≤ L) (hL1 : L ≤ 1048576) (hx : x.ok) (w : World) :
    Calls Tryz.prog 84 #[.agg #[.int .i64 x.fPos, .string x.fName], .int .i64 L] w fun e w' => e = .returned (.int .i64 (szR L x.sz)) ∧ Below w.heap.size w w' := by
  have HX := Lib.hid hx
  clear hx
  have okName : x.fName.size ≤ 9223372036854775807 := HX.out.2
  have HB0 := Lib.hid ((Below.refl w.heap.size w).alloc (Nat.le_refl _) (.cells #[.int .i64 x.fPos, .string x.fName] 93))
  by_cases h0 : L < ((x.fName.size : Nat) : Int)
  · skip
    have fin := Lib.hid (szR_gt (n := x.sz) (L := L) (by unfold DOccurrence.sz; omega))
    go_enter Tryz.func84, Tryz.ntmps84
    go_wp2
    go_ret
    exact ⟨ret_i (by rw [fin.out]), HB0.out⟩
  · skip
    have fin := Lib.hid (szR_le (n := x.sz) (L := L) (by unfold DOccurrence.sz; omega))
    go_enter Tryz.func84, Tryz.ntmps84
    go_wp2
    go_ret
    exact ⟨ret_i (by rw [fin.out]; unfold DOccurrence.sz; omega), HB0.out⟩

set_option maxHeartbeats 1600000 in
set_option maxRecDepth 100000 in
theorem laws_toOccurrence (x : DOccurrence) (w : World) :
    Calls Tryz.prog 89 #[.agg #[.int .i64 x.fPos, .string x.fName]] w fun e w' => e = .returned (.agg #[.int .i64 x.fPos, .string x.fName]) ∧ Below w.heap.size w w' := by
  go_enter Tryz.func89, Tryz.ntmps89
  go_wp2
  exact bodyPost_ret (v := .agg #[.int .i64 x.fPos, .string x.fName]) (by simp [results, Tryz.results89, go_sem]) rfl ⟨rfl, by
    repeat (first | exact Below.refl _ _ | (refine Below.setCell ?_ (by simp <;> omega) _) | (refine Below.alloc ?_ (by simp <;> omega) _))⟩

theorem info_Occurrence : (Tryz.prog.info? 68).map (fun i => (i.zero, i.size, i.bytes)) = some (some (.agg #[.int .i64 0, .string ⟨#[]⟩]), 2, 24) := by kernel_rfl

set_option maxHeartbeats 1600000 in
set_option maxRecDepth 100000 in
theorem laws_eqOccurrence (x : DOccurrence) (w : World) :
    Calls Tryz.prog 105 #[.agg #[.int .i64 x.fPos, .string x.fName], .agg #[.int .i64 x.fPos, .string x.fName]] w fun e w' => e = .returned (.bool true) ∧ Below w.heap.size w w' := by
  go_enter Tryz.func105, Tryz.ntmps105
  go_wp2
  go_ret
  exact ⟨rfl, by
    repeat (first | exact Below.refl _ _ | (refine Below.setCell ?_ (by simp <;> omega) _) | (refine Below.alloc ?_ (by simp <;> omega) _))⟩
end Go.Proofs.YtnmepemmpeboeaaGreat
namespace Go.Proofs.YtnmepemmpeboeaaGreat
open Go.ChangeShapes Go.WideShapes Go.ChangeAt Go.RowKit Go.Deep

structure DEquation where
  fAt : DOccurrence
  fExpr : DExpr
  deriving Inhabited

def DEquation.ct (x : DEquation) : Nat → Ct
  | 0 => .lit (.int .i64 x.fAt.fPos)
  | 1 => .lit (.string x.fAt.fName)
  | 2 => .lit (.int .i64 x.fExpr.fKind)
  | 3 => .lit (.int .i64 x.fExpr.fN)
  | 4 => .lit (.int .i64 x.fExpr.fPos)
  | 5 => .lit (.int .i64 x.fExpr.fType)
  | 6 => .lit (.string x.fExpr.fSymbol)
  | 7 => .lit (.string x.fExpr.fName)
  | 8 => .sl 7 x.fExpr.fArgs.length (ctE x.fExpr.fArgs)
  | _ => .lit .nilFunc

def DEquation.ok (x : DEquation) : Prop := DOccurrence.ok x.fAt ∧ DExpr.ok x.fExpr

def DEquation.sz (x : DEquation) : Nat := DOccurrence.sz x.fAt + DExpr.sz x.fExpr

theorem DEquation.open {lo hi b o : Nat} {w : World} {x : DEquation} (h : ∀ j, j < 9 → ∃ u, w.cell? ⟨b, o + j, none⟩ = some u ∧ Lies lo hi w (x.ct j) u) :
    ∃ a8 c8, w.cell? ⟨b, o, none⟩ = some (.int .i64 x.fAt.fPos) ∧ w.cell? ⟨b, o + 1, none⟩ = some (.string x.fAt.fName) ∧ w.cell? ⟨b, o + 2, none⟩ = some (.int .i64 x.fExpr.fKind) ∧ w.cell? ⟨b, o + 3, none⟩ = some (.int .i64 x.fExpr.fN) ∧ w.cell? ⟨b, o + 4, none⟩ = some (.int .i64 x.fExpr.fPos) ∧ w.cell? ⟨b, o + 5, none⟩ = some (.int .i64 x.fExpr.fType) ∧ w.cell? ⟨b, o + 6, none⟩ = some (.string x.fExpr.fSymbol) ∧ w.cell? ⟨b, o + 7, none⟩ = some (.string x.fExpr.fName) ∧ w.cell? ⟨b, o + 8, none⟩ = some (.slice a8 x.fExpr.fArgs.length c8) ∧ Sl lo hi w 7 x.fExpr.fArgs.length (ctE x.fExpr.fArgs) a8 := by
  obtain ⟨u0, hc0, hl0⟩ := h 0 (by decide)
  obtain rfl := lies_lit hl0
  obtain ⟨u1, hc1, hl1⟩ := h 1 (by decide)
  obtain rfl := lies_lit hl1
  obtain ⟨u2, hc2, hl2⟩ := h 2 (by decide)
  obtain rfl := lies_lit hl2
  obtain ⟨u3, hc3, hl3⟩ := h 3 (by decide)
  obtain rfl := lies_lit hl3
  obtain ⟨u4, hc4, hl4⟩ := h 4 (by decide)
  obtain rfl := lies_lit hl4
  obtain ⟨u5, hc5, hl5⟩ := h 5 (by decide)
  obtain rfl := lies_lit hl5
  obtain ⟨u6, hc6, hl6⟩ := h 6 (by decide)
  obtain rfl := lies_lit hl6
  obtain ⟨u7, hc7, hl7⟩ := h 7 (by decide)
  obtain rfl := lies_lit hl7
  obtain ⟨u8, hc8, hl8⟩ := h 8 (by decide)
  obtain ⟨a8, c8, rfl, hs8⟩ := lies_sl hl8
  exact ⟨a8, c8, hc0, hc1, hc2, hc3, hc4, hc5, hc6, hc7, hc8, hs8⟩

theorem opens_equation {H : Type} {enc : TypeId × Value → H} {w : World} (fuel : Nat) : Opens enc Tryz.prog w 98 9 DEquation.ct DEquation.ok fuel := by
  intro cs x h
  have hl := opens_len Tryz.underlying98 h
  obtain ⟨y0, k0, q0⟩ := opens_field Tryz.underlying98 h 0 _ rfl (ft := 93) (o := 0) (n := 2) rfl rfl (fun m _ => opens_occurrence m) (by kernel_rfl)
  obtain ⟨y1, k1, q1⟩ := opens_field Tryz.underlying98 h 1 _ rfl (ft := 96) (o := 2) (n := 7) rfl rfl (fun m _ => opens_expr m) (by kernel_rfl)
  refine ⟨⟨y0, y1⟩, ⟨k0, k1⟩, hl.trans (by kernel_rfl), fun j hj => ?_⟩
  match j, hj with
  | 0, _ => exact q0 0 (by decide)
  | 1, _ => exact q0 1 (by decide)
  | 2, _ => exact q1 0 (by decide)
  | 3, _ => exact q1 1 (by decide)
  | 4, _ => exact q1 2 (by decide)
  | 5, _ => exact q1 3 (by decide)
  | 6, _ => exact q1 4 (by decide)
  | 7, _ => exact q1 5 (by decide)
  | 8, _ => exact q1 6 (by decide)

set_option maxHeartbeats 1600000 in
set_option maxRecDepth 100000 in
theorem laws_szEquation {lo hi : Nat} {a8 : Option Addr} {c8 : Nat} (x : DEquation) (L : Int) (hL0 : 0 ≤ L) (hL1 : L ≤ 1048576) (hx : x.ok) (w : World) (hhi : hi ≤ w.heap.size) (hs8 : Sl lo hi w 7 x.fExpr.fArgs.length (ctE x.fExpr.fArgs) a8) :
    Calls Tryz.prog 53 #[.agg #[.int .i64 x.fAt.fPos, .string x.fAt.fName, .int .i64 x.fExpr.fKind, .int .i64 x.fExpr.fN, .int .i64 x.fExpr.fPos, .int .i64 x.fExpr.fType, .string x.fExpr.fSymbol, .string x.fExpr.fName, .slice a8 x.fExpr.fArgs.length c8], .int .i64 L] w fun e w' => e = .returned (.int .i64 (szR L x.sz)) ∧ Below w.heap.size w w' := by
  have HS8 := Lib.hid hs8
  clear hs8
  have HX := Lib.hid hx
  clear hx
  have HB0 := Lib.hid ((Below.refl w.heap.size w).alloc (Nat.le_refl _) (.cells #[.int .i64 x.fAt.fPos, .string x.fAt.fName, .int .i64 x.fExpr.fKind, .int .i64 x.fExpr.fN, .int .i64 x.fExpr.fPos, .int .i64 x.fExpr.fType, .string x.fExpr.fSymbol, .string x.fExpr.fName, .slice a8 x.fExpr.fArgs.length c8] 98))
  by_cases h0 : L < ((DOccurrence.sz x.fAt : Nat) : Int)
  · skip
    have hz0 := fun (w' : World) => laws_szOccurrence x.fAt L (by omega) (by omega) HX.out.1 w'
    rw [szR_gt (by omega)] at hz0
    have HZ0 := Lib.hid hz0
    clear hz0
    have fin := Lib.hid (szR_gt (n := x.sz) (L := L) (by unfold DEquation.sz; omega))
    go_enter Tryz.func53, Tryz.ntmps53
    go_wp2_with fail
    refine (HZ0.out _).mono ?_
    rintro e w1 ⟨rfl, hb1⟩
    have hsz1 : w.heap.size < w1.heap.size := Nat.lt_of_lt_of_le (by first | omega | (simp; done) | (simp; omega)) hb1.size
    have HB1 := Lib.hid (HB0.out.trans (hb1.mono HB0.out.size))
    clear hb1
    go_wp2
    go_ret
    exact ⟨ret_i (by rw [fin.out]), HB1.out⟩
  · skip
    by_cases h1 : (L - (DOccurrence.sz x.fAt : Nat)) < ((DExpr.sz x.fExpr : Nat) : Int)
    · skip
      have hz0 := fun (w' : World) => laws_szOccurrence x.fAt L (by omega) (by omega) HX.out.1 w'
      rw [szR_le (by omega)] at hz0
      have HZ0 := Lib.hid hz0
      clear hz0
      have hz1 := fun (w' : World) (hhi : hi ≤ w'.heap.size) (hs8 : Sl lo hi w' 7 x.fExpr.fArgs.length (ctE x.fExpr.fArgs) a8) => laws_szExpr (c6 := c8) x.fExpr (L - (DOccurrence.sz x.fAt : Nat)) (by omega) (by omega) HX.out.2 w' hhi hs8
      rw [szR_gt (by omega)] at hz1
      have HZ1 := Lib.hid hz1
      clear hz1
      have fin := Lib.hid (szR_gt (n := x.sz) (L := L) (by unfold DEquation.sz; omega))
      go_enter Tryz.func53, Tryz.ntmps53
      go_wp2_with fail
      refine (HZ0.out _).mono ?_
      rintro e w1 ⟨rfl, hb1⟩
      have hsz1 : w.heap.size < w1.heap.size := Nat.lt_of_lt_of_le (by first | omega | (simp; done) | (simp; omega)) hb1.size
      have x1_0_2 : w1.cell? ⟨w.heap.size, 2, none⟩ = some (.int .i64 x.fExpr.fKind) := (hb1.cell (p := ⟨w.heap.size, 2, none⟩) (by first | omega | (simp; done) | (simp; omega) | (simp [World.setCell]; omega))).trans (by go_simp)
      have x1_0_3 : w1.cell? ⟨w.heap.size, 3, none⟩ = some (.int .i64 x.fExpr.fN) := (hb1.cell (p := ⟨w.heap.size, 3, none⟩) (by first | omega | (simp; done) | (simp; omega) | (simp [World.setCell]; omega))).trans (by go_simp)
      have x1_0_4 : w1.cell? ⟨w.heap.size, 4, none⟩ = some (.int .i64 x.fExpr.fPos) := (hb1.cell (p := ⟨w.heap.size, 4, none⟩) (by first | omega | (simp; done) | (simp; omega) | (simp [World.setCell]; omega))).trans (by go_simp)
      have x1_0_5 : w1.cell? ⟨w.heap.size, 5, none⟩ = some (.int .i64 x.fExpr.fType) := (hb1.cell (p := ⟨w.heap.size, 5, none⟩) (by first | omega | (simp; done) | (simp; omega) | (simp [World.setCell]; omega))).trans (by go_simp)
      have x1_0_6 : w1.cell? ⟨w.heap.size, 6, none⟩ = some (.string x.fExpr.fSymbol) := (hb1.cell (p := ⟨w.heap.size, 6, none⟩) (by first | omega | (simp; done) | (simp; omega) | (simp [World.setCell]; omega))).trans (by go_simp)
      have x1_0_7 : w1.cell? ⟨w.heap.size, 7, none⟩ = some (.string x.fExpr.fName) := (hb1.cell (p := ⟨w.heap.size, 7, none⟩) (by first | omega | (simp; done) | (simp; omega) | (simp [World.setCell]; omega))).trans (by go_simp)
      have x1_0_8 : w1.cell? ⟨w.heap.size, 8, none⟩ = some (.slice a8 x.fExpr.fArgs.length c8) := (hb1.cell (p := ⟨w.heap.size, 8, none⟩) (by first | omega | (simp; done) | (simp; omega) | (simp [World.setCell]; omega))).trans (by go_simp)
      have HB1 := Lib.hid (HB0.out.trans (hb1.mono HB0.out.size))
      clear hb1
      go_wp2_with fail
      refine (HZ1.out _ (Nat.le_trans hhi HB1.out.size) (HS8.out.later HB1.out hhi)).mono ?_
      rintro e w2 ⟨rfl, hb2⟩
      have hsz2 : w.heap.size < w2.heap.size := Nat.lt_of_lt_of_le (by first | omega | (simp; done) | (simp; omega)) hb2.size
      have HB2 := Lib.hid (HB1.out.trans (hb2.mono HB1.out.size))
      clear hb2
      go_wp2
      go_ret
      exact ⟨ret_i (by rw [fin.out]), HB2.out⟩
    · skip
      have hz0 := fun (w' : World) => laws_szOccurrence x.fAt L (by omega) (by omega) HX.out.1 w'
      rw [szR_le (by omega)] at hz0
      have HZ0 := Lib.hid hz0
      clear hz0
      have hz1 := fun (w' : World) (hhi : hi ≤ w'.heap.size) (hs8 : Sl lo hi w' 7 x.fExpr.fArgs.length (ctE x.fExpr.fArgs) a8) => laws_szExpr (c6 := c8) x.fExpr (L - (DOccurrence.sz x.fAt : Nat)) (by omega) (by omega) HX.out.2 w' hhi hs8
      rw [szR_le (by omega)] at hz1
      have HZ1 := Lib.hid hz1
      clear hz1
      have fin := Lib.hid (szR_le (n := x.sz) (L := L) (by unfold DEquation.sz; omega))
      go_enter Tryz.func53, Tryz.ntmps53
      go_wp2_with fail
      refine (HZ0.out _).mono ?_
      rintro e w1 ⟨rfl, hb1⟩
      have hsz1 : w.heap.size < w1.heap.size := Nat.lt_of_lt_of_le (by first | omega | (simp; done) | (simp; omega)) hb1.size
      have x1_0_2 : w1.cell? ⟨w.heap.size, 2, none⟩ = some (.int .i64 x.fExpr.fKind) := (hb1.cell (p := ⟨w.heap.size, 2, none⟩) (by first | omega | (simp; done) | (simp; omega) | (simp [World.setCell]; omega))).trans (by go_simp)
      have x1_0_3 : w1.cell? ⟨w.heap.size, 3, none⟩ = some (.int .i64 x.fExpr.fN) := (hb1.cell (p := ⟨w.heap.size, 3, none⟩) (by first | omega | (simp; done) | (simp; omega) | (simp [World.setCell]; omega))).trans (by go_simp)
      have x1_0_4 : w1.cell? ⟨w.heap.size, 4, none⟩ = some (.int .i64 x.fExpr.fPos) := (hb1.cell (p := ⟨w.heap.size, 4, none⟩) (by first | omega | (simp; done) | (simp; omega) | (simp [World.setCell]; omega))).trans (by go_simp)
      have x1_0_5 : w1.cell? ⟨w.heap.size, 5, none⟩ = some (.int .i64 x.fExpr.fType) := (hb1.cell (p := ⟨w.heap.size, 5, none⟩) (by first | omega | (simp; done) | (simp; omega) | (simp [World.setCell]; omega))).trans (by go_simp)
      have x1_0_6 : w1.cell? ⟨w.heap.size, 6, none⟩ = some (.string x.fExpr.fSymbol) := (hb1.cell (p := ⟨w.heap.size, 6, none⟩) (by first | omega | (simp; done) | (simp; omega) | (simp [World.setCell]; omega))).trans (by go_simp)
      have x1_0_7 : w1.cell? ⟨w.heap.size, 7, none⟩ = some (.string x.fExpr.fName) := (hb1.cell (p := ⟨w.heap.size, 7, none⟩) (by first | omega | (simp; done) | (simp; omega) | (simp [World.setCell]; omega))).trans (by go_simp)
      have x1_0_8 : w1.cell? ⟨w.heap.size, 8, none⟩ = some (.slice a8 x.fExpr.fArgs.length c8) := (hb1.cell (p := ⟨w.heap.size, 8, none⟩) (by first | omega | (simp; done) | (simp; omega) | (simp [World.setCell]; omega))).trans (by go_simp)
      have HB1 := Lib.hid (HB0.out.trans (hb1.mono HB0.out.size))
      clear hb1
      go_wp2_with fail
      refine (HZ1.out _ (Nat.le_trans hhi HB1.out.size) (HS8.out.later HB1.out hhi)).mono ?_
      rintro e w2 ⟨rfl, hb2⟩
      have hsz2 : w.heap.size < w2.heap.size := Nat.lt_of_lt_of_le (by first | omega | (simp; done) | (simp; omega)) hb2.size
      have HB2 := Lib.hid (HB1.out.trans (hb2.mono HB1.out.size))
      clear hb2
      go_wp2
      go_ret
      exact ⟨ret_i (by rw [fin.out]; unfold DEquation.sz; omega), HB2.out⟩

set_option maxHeartbeats 1600000 in
set_option maxRecDepth 100000 in
theorem laws_szEquationS {lo hi : Nat} {a : Option Addr} {cap : Nat} (l : List DEquation) (L : Int) (hL0 : 0 ≤ L) (hL1 : L ≤ 1048576) (hok : okL DEquation.ok l) (w : World) (hhi : hi ≤ w.heap.size) (hs : Sl lo hi w 9 l.length (fun k => DEquation.ct (l.getD k default)) a) :
    Calls Tryz.prog 20 #[.slice a l.length cap, .int .i64 L] w fun e w' => e = .returned (.int .i64 (szR L (lsz DEquation.sz l))) ∧ Below w.heap.size w w' := by
  have HS := Lib.hid hs
  have HK := Lib.hid hok
  have hn : l.length ≤ 9223372036854775807 := hok.1
  clear hs hok
  by_cases hlong : L < ((l.length : Nat) : Int)
  · have fin := Lib.hid (szR_gt (n := lsz DEquation.sz l) (L := L) (by unfold lsz; omega))
    go_enter Tryz.func20, Tryz.ntmps20
    go_wp2
    go_ret
    exact ⟨ret_i fin.out.symm, Below.refl _ _⟩
  · go_enter Tryz.func20, Tryz.ntmps20
    go_wp2
    go_loopw [1, 5] (fun q i wr => ∃ k : Nat, k ≤ l.length ∧ i = .int .i64 (k : Int) ∧ q = .int .i64 (L - l.length - psz DEquation.sz l k) ∧ (l.length : Int) + psz DEquation.sz l k ≤ L ∧ Below w.heap.size w wr) (fun _ i _ => l.length - (intOf i).toNat)
    case atStart => exact ⟨0, Nat.zero_le _, rfl, by rw [psz_zero]; go_num, by rw [psz_zero]; omega, Below.refl _ _⟩
    case round =>
      obtain ⟨k, hk, rfl, rfl, hle, hb⟩ := hrel
      have HB := Lib.hid hb
      by_cases hlt : k < l.length
      · have hsu := Lib.hid (psz_succ DEquation.sz l k hlt)
        have hle2 := Lib.hid (psz_le DEquation.sz l (k + 1))
        have hokk := HK.out.at hlt
        have hhr : hi ≤ wr.heap.size := Nat.le_trans hhi hb.size
        obtain ⟨b, off, rfl, hlo, hhi', hc⟩ := (HS.out.later (hb.mono hhi) (Nat.le_refl _)).at k hlt
        clear hb
        obtain ⟨a8, c8, hc0_, hc1_, hc2_, hc3_, hc4_, hc5_, hc6_, hc7_, hc8_, hs8⟩ := DEquation.open hc
        clear hc
        generalize l.getD k default = x at *
        generalize psz DEquation.sz l k = S at *
        have hZ := laws_szEquation (c8 := c8) x (L - l.length - S) (by omega) (by omega) hokk wr hhr hs8
        by_cases hf : ((x.sz : Nat) : Int) ≤ L - l.length - S
        · rw [szR_le hf] at hZ
          have HZ := Lib.hid hZ
          clear hZ hokk hs8
          go_wp2_with fail
          refine HZ.out.mono ?_
          rintro e w1 ⟨rfl, hb1⟩
          have HB1 := Lib.hid hb1
          clear hb1
          go_wp2
          go_roundw
          case rel => exact ⟨k + 1, by omega, by go_num, by rw [hsu.out]; go_num, by rw [hsu.out]; omega, HB.out.trans (HB1.out.mono HB.out.size)⟩
          case measure => simp [intOf]; omega
        · have fin := Lib.hid (szR_gt (n := lsz DEquation.sz l) (L := L) (by have h1 := hsu.out; have h2 := hle2.out; omega))
          rw [szR_gt (by omega)] at hZ
          have HZ := Lib.hid hZ
          clear hZ hokk hs8
          go_wp2_with fail
          refine HZ.out.mono ?_
          rintro e w1 ⟨rfl, hb1⟩
          have HB1 := Lib.hid hb1
          clear hb1
          go_wp2
          go_ret
          exact ⟨ret_i fin.out.symm, HB.out.trans (HB1.out.mono HB.out.size)⟩
      · obtain rfl : k = l.length := by omega
        have fin := Lib.hid (szR_le (n := lsz DEquation.sz l) (L := L) (by unfold lsz; rw [psz_all] at hle; omega))
        have fin2 := Lib.hid (psz_all DEquation.sz l)
        go_wp2
        go_ret
        exact ⟨ret_i (by rw [fin.out, fin2.out]; unfold lsz; omega), HB.out⟩

set_option maxHeartbeats 6400000 in
set_option maxRecDepth 100000 in
theorem laws_toEquation {lo hi : Nat} {a8 : Option Addr} {c8 : Nat} (x : DEquation) (hsz : x.sz ≤ 1048576) (w : World) (hhi : hi ≤ w.heap.size) (hs8 : Sl lo hi w 7 x.fExpr.fArgs.length (ctE x.fExpr.fArgs) a8) :
    Calls Tryz.prog 63 #[.agg #[.int .i64 x.fAt.fPos, .string x.fAt.fName, .int .i64 x.fExpr.fKind, .int .i64 x.fExpr.fN, .int .i64 x.fExpr.fPos, .int .i64 x.fExpr.fType, .string x.fExpr.fSymbol, .string x.fExpr.fName, .slice a8 x.fExpr.fArgs.length c8]] w fun e w' => ∃ a8r c8r, e = .returned (.agg #[.int .i64 x.fAt.fPos, .string x.fAt.fName, .int .i64 x.fExpr.fKind, .int .i64 x.fExpr.fN, .int .i64 x.fExpr.fPos, .int .i64 x.fExpr.fType, .string x.fExpr.fSymbol, .string x.fExpr.fName, .slice a8r x.fExpr.fArgs.length c8r]) ∧ OwnR w' (fun y => w.heap.size ≤ y ∧ y < w'.heap.size) 9 x.ct (fun j => [.int .i64 x.fAt.fPos, .string x.fAt.fName, .int .i64 x.fExpr.fKind, .int .i64 x.fExpr.fN, .int .i64 x.fExpr.fPos, .int .i64 x.fExpr.fType, .string x.fExpr.fSymbol, .string x.fExpr.fName, .slice a8r x.fExpr.fArgs.length c8r].getD j .nilFunc) ∧ Below w.heap.size w w' := by
  have HS8 := Lib.hid hs8
  clear hs8
  have HW := Lib.hid hsz
  clear hsz
  have HB0 := Lib.hid (((((Below.refl w.heap.size w).alloc (Nat.le_refl _) (.cells #[.int .i64 x.fAt.fPos, .string x.fAt.fName, .int .i64 x.fExpr.fKind, .int .i64 x.fExpr.fN, .int .i64 x.fExpr.fPos, .int .i64 x.fExpr.fType, .string x.fExpr.fSymbol, .string x.fExpr.fName, .slice a8 x.fExpr.fArgs.length c8] 98)).alloc (by simp <;> omega) (.cells #[.int .i64 0, .string ⟨#[]⟩, .int .i64 0, .int .i64 0, .int .i64 0, .int .i64 0, .string ⟨#[]⟩, .string ⟨#[]⟩, .slice none 0 0] 109))).alloc (by simp <;> omega) (.cells #[.int .i64 0, .string ⟨#[]⟩, .int .i64 0, .int .i64 0, .int .i64 0, .int .i64 0, .string ⟨#[]⟩, .string ⟨#[]⟩, .slice none 0 0] 109))
  have HSZ0 := Lib.hid (show w.heap.size + 2 < (((w.alloc (.cells #[.int .i64 x.fAt.fPos, .string x.fAt.fName, .int .i64 x.fExpr.fKind, .int .i64 x.fExpr.fN, .int .i64 x.fExpr.fPos, .int .i64 x.fExpr.fType, .string x.fExpr.fSymbol, .string x.fExpr.fName, .slice a8 x.fExpr.fArgs.length c8] 98)).alloc (.cells #[.int .i64 0, .string ⟨#[]⟩, .int .i64 0, .int .i64 0, .int .i64 0, .int .i64 0, .string ⟨#[]⟩, .string ⟨#[]⟩, .slice none 0 0] 109)).alloc (.cells #[.int .i64 0, .string ⟨#[]⟩, .int .i64 0, .int .i64 0, .int .i64 0, .int .i64 0, .string ⟨#[]⟩, .string ⟨#[]⟩, .slice none 0 0] 109)).heap.size by simp)
  have ht0 := fun (w' : World) => laws_toOccurrence x.fAt w'
  have HT0 := Lib.hid ht0
  clear ht0
  have ht1 := fun (w' : World) (hhi : hi ≤ w'.heap.size) (hs8 : Sl lo hi w' 7 x.fExpr.fArgs.length (ctE x.fExpr.fArgs) a8) => laws_toExpr (c6 := c8) x.fExpr (by have h := HW.out; unfold DEquation.sz at h; omega) w' hhi hs8
  have HT1 := Lib.hid ht1
  clear ht1
  go_enter Tryz.func63, Tryz.ntmps63
  go_wp2_with fail
  refine (HT0.out _).mono ?_
  rintro e w1 ⟨rfl, hb1⟩
  have hsz1 : w.heap.size + 2 < w1.heap.size := Nat.lt_of_lt_of_le (by have h := HSZ0.out; first | (with_reducible exact h) | (simp; done) | (simp; omega) | (simp [World.setCell]; omega)) hb1.size
  have hlo1 : w.heap.size + 3 ≤ w1.heap.size := Nat.le_trans (by first | (with_reducible exact Nat.le_refl _) | (simp; done) | (simp; omega) | (simp [World.setCell]; omega)) hb1.size
  have hbw1 : Below w.heap.size w w1 := Below.trans ((by repeat (first | (with_reducible exact HB0.out) | (with_reducible exact Below.refl _ _) | (refine Below.setCell ?_ (by simp <;> omega) _) | (refine Below.alloc ?_ (by simp <;> omega) _)) : Below w.heap.size w _)) (hb1.mono (Below.size ((by repeat (first | (with_reducible exact HB0.out) | (with_reducible exact Below.refl _ _) | (refine Below.setCell ?_ (by simp <;> omega) _) | (refine Below.alloc ?_ (by simp <;> omega) _)) : Below w.heap.size w _))))
  have HP1 := Lib.hid (show w1.heap[w.heap.size]? = some (.cells #[.int .i64 x.fAt.fPos, .string x.fAt.fName, .int .i64 x.fExpr.fKind, .int .i64 x.fExpr.fN, .int .i64 x.fExpr.fPos, .int .i64 x.fExpr.fType, .string x.fExpr.fSymbol, .string x.fExpr.fName, .slice a8 x.fExpr.fArgs.length c8] 98) from (hb1.block _ (by have h9 := HSZ0.out; first | (simp; done) | (simp; omega) | (simp at h9 ⊢; omega))).trans (by (repeat (refine blk_other (by simp <;> omega) ?_)); exact blk_alloc (by simp <;> omega) (blk_alloc (by simp) (blk_new (by simp)))))
  have HG1 := Lib.hid (show w1.heap[w.heap.size + 1]? = some (.cells #[.int .i64 0, .string ⟨#[]⟩, .int .i64 0, .int .i64 0, .int .i64 0, .int .i64 0, .string ⟨#[]⟩, .string ⟨#[]⟩, .slice none 0 0] 109) from (hb1.block _ (by have h9 := HSZ0.out; first | (simp; done) | (simp; omega) | (simp at h9 ⊢; omega))).trans (by (repeat (refine blk_other (by simp <;> omega) ?_)); exact blk_alloc (by simp) (blk_new (by simp))))
  have HK1 := Lib.hid (show w1.heap[w.heap.size + 2]? = some (.cells #[.int .i64 0, .string ⟨#[]⟩, .int .i64 0, .int .i64 0, .int .i64 0, .int .i64 0, .string ⟨#[]⟩, .string ⟨#[]⟩, .slice none 0 0] 109) from (hb1.block _ (by have h9 := HSZ0.out; first | (simp; done) | (simp; omega) | (simp at h9 ⊢; omega))).trans (by first | exact blk_new (by simp) | (exact blk_new (by simp))))
  have x1_0_2 : w1.cell? ⟨w.heap.size, 2, none⟩ = some (.int .i64 x.fExpr.fKind) := (cell_of_row _ _ _ _ _ _ HP1.out).trans rfl
  have x1_0_3 : w1.cell? ⟨w.heap.size, 3, none⟩ = some (.int .i64 x.fExpr.fN) := (cell_of_row _ _ _ _ _ _ HP1.out).trans rfl
  have x1_0_4 : w1.cell? ⟨w.heap.size, 4, none⟩ = some (.int .i64 x.fExpr.fPos) := (cell_of_row _ _ _ _ _ _ HP1.out).trans rfl
  have x1_0_5 : w1.cell? ⟨w.heap.size, 5, none⟩ = some (.int .i64 x.fExpr.fType) := (cell_of_row _ _ _ _ _ _ HP1.out).trans rfl
  have x1_0_6 : w1.cell? ⟨w.heap.size, 6, none⟩ = some (.string x.fExpr.fSymbol) := (cell_of_row _ _ _ _ _ _ HP1.out).trans rfl
  have x1_0_7 : w1.cell? ⟨w.heap.size, 7, none⟩ = some (.string x.fExpr.fName) := (cell_of_row _ _ _ _ _ _ HP1.out).trans rfl
  have x1_0_8 : w1.cell? ⟨w.heap.size, 8, none⟩ = some (.slice a8 x.fExpr.fArgs.length c8) := (cell_of_row _ _ _ _ _ _ HP1.out).trans rfl
  have x1_2_0 : w1.cell? ⟨w.heap.size + 2, 0, none⟩ = some (.int .i64 0) := (cell_of_row _ _ _ _ _ _ HK1.out).trans rfl
  have z1_2_0 : w1.frozen? ⟨w.heap.size + 2, 0, none⟩ = false := frozen_of_row _ _ _ _ _ HK1.out
  have x1_2_1 : w1.cell? ⟨w.heap.size + 2, 1, none⟩ = some (.string ⟨#[]⟩) := (cell_of_row _ _ _ _ _ _ HK1.out).trans rfl
  have z1_2_1 : w1.frozen? ⟨w.heap.size + 2, 1, none⟩ = false := frozen_of_row _ _ _ _ _ HK1.out
  have x1_2_2 : w1.cell? ⟨w.heap.size + 2, 2, none⟩ = some (.int .i64 0) := (cell_of_row _ _ _ _ _ _ HK1.out).trans rfl
  have z1_2_2 : w1.frozen? ⟨w.heap.size + 2, 2, none⟩ = false := frozen_of_row _ _ _ _ _ HK1.out
  have x1_2_3 : w1.cell? ⟨w.heap.size + 2, 3, none⟩ = some (.int .i64 0) := (cell_of_row _ _ _ _ _ _ HK1.out).trans rfl
  have z1_2_3 : w1.frozen? ⟨w.heap.size + 2, 3, none⟩ = false := frozen_of_row _ _ _ _ _ HK1.out
  have x1_2_4 : w1.cell? ⟨w.heap.size + 2, 4, none⟩ = some (.int .i64 0) := (cell_of_row _ _ _ _ _ _ HK1.out).trans rfl
  have z1_2_4 : w1.frozen? ⟨w.heap.size + 2, 4, none⟩ = false := frozen_of_row _ _ _ _ _ HK1.out
  have x1_2_5 : w1.cell? ⟨w.heap.size + 2, 5, none⟩ = some (.int .i64 0) := (cell_of_row _ _ _ _ _ _ HK1.out).trans rfl
  have z1_2_5 : w1.frozen? ⟨w.heap.size + 2, 5, none⟩ = false := frozen_of_row _ _ _ _ _ HK1.out
  have x1_2_6 : w1.cell? ⟨w.heap.size + 2, 6, none⟩ = some (.string ⟨#[]⟩) := (cell_of_row _ _ _ _ _ _ HK1.out).trans rfl
  have z1_2_6 : w1.frozen? ⟨w.heap.size + 2, 6, none⟩ = false := frozen_of_row _ _ _ _ _ HK1.out
  have x1_2_7 : w1.cell? ⟨w.heap.size + 2, 7, none⟩ = some (.string ⟨#[]⟩) := (cell_of_row _ _ _ _ _ _ HK1.out).trans rfl
  have z1_2_7 : w1.frozen? ⟨w.heap.size + 2, 7, none⟩ = false := frozen_of_row _ _ _ _ _ HK1.out
  have x1_2_8 : w1.cell? ⟨w.heap.size + 2, 8, none⟩ = some (.slice none 0 0) := (cell_of_row _ _ _ _ _ _ HK1.out).trans rfl
  have z1_2_8 : w1.frozen? ⟨w.heap.size + 2, 8, none⟩ = false := frozen_of_row _ _ _ _ _ HK1.out
  have HB1 := Lib.hid hbw1
  have HSZ1 := Lib.hid hsz1
  have HLO1 := Lib.hid hlo1
  clear hb1 hbw1 hsz1 hlo1
  go_wp2_with fail
  refine (HT1.out _ (Nat.le_trans hhi (Below.size ((by repeat (first | (with_reducible exact HB1.out) | (with_reducible exact Below.refl _ _) | (refine Below.setCell ?_ (by simp <;> omega) _) | (refine Below.alloc ?_ (by simp <;> omega) _)) : Below w.heap.size w _)))) (HS8.out.later ((by repeat (first | (with_reducible exact HB1.out) | (with_reducible exact Below.refl _ _) | (refine Below.setCell ?_ (by simp <;> omega) _) | (refine Below.alloc ?_ (by simp <;> omega) _)) : Below w.heap.size w _)) hhi)).mono ?_
  rintro e w2 ⟨a8r, c8r, rfl, ho2, hb2⟩
  have hsz2 : w.heap.size + 2 < w2.heap.size := Nat.lt_of_lt_of_le (by have h := HSZ1.out; first | (with_reducible exact h) | (simp; done) | (simp; omega) | (simp [World.setCell]; omega)) hb2.size
  have hlo2 : w1.heap.size ≤ w2.heap.size := Nat.le_trans (by first | (with_reducible exact Nat.le_refl _) | (simp; done) | (simp; omega) | (simp [World.setCell]; omega)) hb2.size
  have hbw2 : Below w.heap.size w w2 := Below.trans ((by repeat (first | (with_reducible exact HB1.out) | (with_reducible exact Below.refl _ _) | (refine Below.setCell ?_ (by simp <;> omega) _) | (refine Below.alloc ?_ (by simp <;> omega) _)) : Below w.heap.size w _)) (hb2.mono (Below.size ((by repeat (first | (with_reducible exact HB1.out) | (with_reducible exact Below.refl _ _) | (refine Below.setCell ?_ (by simp <;> omega) _) | (refine Below.alloc ?_ (by simp <;> omega) _)) : Below w.heap.size w _))))
  have HO2_2 := Lib.hid (ho2.sub (F' := fun y => w1.heap.size ≤ y ∧ y < w2.heap.size) (fun y hy => ⟨Nat.le_trans (by first | (with_reducible exact Nat.le_refl _) | (simp; done) | (simp; omega) | (simp [World.setCell]; done) | (simp [World.setCell]; omega)) hy.1, hy.2⟩))
  clear ho2
  have HP2 := Lib.hid (show w2.heap[w.heap.size]? = some (.cells #[.int .i64 x.fAt.fPos, .string x.fAt.fName, .int .i64 x.fExpr.fKind, .int .i64 x.fExpr.fN, .int .i64 x.fExpr.fPos, .int .i64 x.fExpr.fType, .string x.fExpr.fSymbol, .string x.fExpr.fName, .slice a8 x.fExpr.fArgs.length c8] 98) from (hb2.block _ (by have h9 := HSZ1.out; first | (simp; done) | (simp; omega) | (simp at h9 ⊢; omega))).trans (by repeat (first | (with_reducible exact HP1.out) | (refine blk_other (by simp <;> omega) ?_))))
  have HG2 := Lib.hid (show w2.heap[w.heap.size + 1]? = some (.cells #[.int .i64 0, .string ⟨#[]⟩, .int .i64 0, .int .i64 0, .int .i64 0, .int .i64 0, .string ⟨#[]⟩, .string ⟨#[]⟩, .slice none 0 0] 109) from (hb2.block _ (by have h9 := HSZ1.out; first | (simp; done) | (simp; omega) | (simp at h9 ⊢; omega))).trans (by repeat (first | (with_reducible exact HG1.out) | (refine blk_other (by simp <;> omega) ?_))))
  have HK2 := Lib.hid (show w2.heap[w.heap.size + 2]? = some (.cells #[.int .i64 x.fAt.fPos, .string x.fAt.fName, .int .i64 0, .int .i64 0, .int .i64 0, .int .i64 0, .string ⟨#[]⟩, .string ⟨#[]⟩, .slice none 0 0] 109) from (hb2.block _ (by have h9 := HSZ1.out; first | (simp; done) | (simp; omega) | (simp at h9 ⊢; omega))).trans (by refine Eq.trans (blk_set (cs := #[.int .i64 x.fAt.fPos, .string ⟨#[]⟩, .int .i64 0, .int .i64 0, .int .i64 0, .int .i64 0, .string ⟨#[]⟩, .string ⟨#[]⟩, .slice none 0 0]) (t := 109) (fr := (0, 0)) ?_) rfl; refine Eq.trans (blk_set (cs := #[.int .i64 0, .string ⟨#[]⟩, .int .i64 0, .int .i64 0, .int .i64 0, .int .i64 0, .string ⟨#[]⟩, .string ⟨#[]⟩, .slice none 0 0]) (t := 109) (fr := (0, 0)) ?_) rfl; exact HK1.out))
  clear HP1 HG1 HK1
  have x2_2_0 : w2.cell? ⟨w.heap.size + 2, 0, none⟩ = some (.int .i64 x.fAt.fPos) := (cell_of_row _ _ _ _ _ _ HK2.out).trans rfl
  have z2_2_0 : w2.frozen? ⟨w.heap.size + 2, 0, none⟩ = false := frozen_of_row _ _ _ _ _ HK2.out
  have x2_2_1 : w2.cell? ⟨w.heap.size + 2, 1, none⟩ = some (.string x.fAt.fName) := (cell_of_row _ _ _ _ _ _ HK2.out).trans rfl
  have z2_2_1 : w2.frozen? ⟨w.heap.size + 2, 1, none⟩ = false := frozen_of_row _ _ _ _ _ HK2.out
  have x2_2_2 : w2.cell? ⟨w.heap.size + 2, 2, none⟩ = some (.int .i64 0) := (cell_of_row _ _ _ _ _ _ HK2.out).trans rfl
  have z2_2_2 : w2.frozen? ⟨w.heap.size + 2, 2, none⟩ = false := frozen_of_row _ _ _ _ _ HK2.out
  have x2_2_3 : w2.cell? ⟨w.heap.size + 2, 3, none⟩ = some (.int .i64 0) := (cell_of_row _ _ _ _ _ _ HK2.out).trans rfl
  have z2_2_3 : w2.frozen? ⟨w.heap.size + 2, 3, none⟩ = false := frozen_of_row _ _ _ _ _ HK2.out
  have x2_2_4 : w2.cell? ⟨w.heap.size + 2, 4, none⟩ = some (.int .i64 0) := (cell_of_row _ _ _ _ _ _ HK2.out).trans rfl
  have z2_2_4 : w2.frozen? ⟨w.heap.size + 2, 4, none⟩ = false := frozen_of_row _ _ _ _ _ HK2.out
  have x2_2_5 : w2.cell? ⟨w.heap.size + 2, 5, none⟩ = some (.int .i64 0) := (cell_of_row _ _ _ _ _ _ HK2.out).trans rfl
  have z2_2_5 : w2.frozen? ⟨w.heap.size + 2, 5, none⟩ = false := frozen_of_row _ _ _ _ _ HK2.out
  have x2_2_6 : w2.cell? ⟨w.heap.size + 2, 6, none⟩ = some (.string ⟨#[]⟩) := (cell_of_row _ _ _ _ _ _ HK2.out).trans rfl
  have z2_2_6 : w2.frozen? ⟨w.heap.size + 2, 6, none⟩ = false := frozen_of_row _ _ _ _ _ HK2.out
  have x2_2_7 : w2.cell? ⟨w.heap.size + 2, 7, none⟩ = some (.string ⟨#[]⟩) := (cell_of_row _ _ _ _ _ _ HK2.out).trans rfl
  have z2_2_7 : w2.frozen? ⟨w.heap.size + 2, 7, none⟩ = false := frozen_of_row _ _ _ _ _ HK2.out
  have x2_2_8 : w2.cell? ⟨w.heap.size + 2, 8, none⟩ = some (.slice none 0 0) := (cell_of_row _ _ _ _ _ _ HK2.out).trans rfl
  have z2_2_8 : w2.frozen? ⟨w.heap.size + 2, 8, none⟩ = false := frozen_of_row _ _ _ _ _ HK2.out
  have x2_1_0 : w2.cell? ⟨w.heap.size + 1, 0, none⟩ = some (.int .i64 0) := (cell_of_row _ _ _ _ _ _ HG2.out).trans rfl
  have z2_1_0 : w2.frozen? ⟨w.heap.size + 1, 0, none⟩ = false := frozen_of_row _ _ _ _ _ HG2.out
  have x2_1_1 : w2.cell? ⟨w.heap.size + 1, 1, none⟩ = some (.string ⟨#[]⟩) := (cell_of_row _ _ _ _ _ _ HG2.out).trans rfl
  have z2_1_1 : w2.frozen? ⟨w.heap.size + 1, 1, none⟩ = false := frozen_of_row _ _ _ _ _ HG2.out
  have x2_1_2 : w2.cell? ⟨w.heap.size + 1, 2, none⟩ = some (.int .i64 0) := (cell_of_row _ _ _ _ _ _ HG2.out).trans rfl
  have z2_1_2 : w2.frozen? ⟨w.heap.size + 1, 2, none⟩ = false := frozen_of_row _ _ _ _ _ HG2.out
  have x2_1_3 : w2.cell? ⟨w.heap.size + 1, 3, none⟩ = some (.int .i64 0) := (cell_of_row _ _ _ _ _ _ HG2.out).trans rfl
  have z2_1_3 : w2.frozen? ⟨w.heap.size + 1, 3, none⟩ = false := frozen_of_row _ _ _ _ _ HG2.out
  have x2_1_4 : w2.cell? ⟨w.heap.size + 1, 4, none⟩ = some (.int .i64 0) := (cell_of_row _ _ _ _ _ _ HG2.out).trans rfl
  have z2_1_4 : w2.frozen? ⟨w.heap.size + 1, 4, none⟩ = false := frozen_of_row _ _ _ _ _ HG2.out
  have x2_1_5 : w2.cell? ⟨w.heap.size + 1, 5, none⟩ = some (.int .i64 0) := (cell_of_row _ _ _ _ _ _ HG2.out).trans rfl
  have z2_1_5 : w2.frozen? ⟨w.heap.size + 1, 5, none⟩ = false := frozen_of_row _ _ _ _ _ HG2.out
  have x2_1_6 : w2.cell? ⟨w.heap.size + 1, 6, none⟩ = some (.string ⟨#[]⟩) := (cell_of_row _ _ _ _ _ _ HG2.out).trans rfl
  have z2_1_6 : w2.frozen? ⟨w.heap.size + 1, 6, none⟩ = false := frozen_of_row _ _ _ _ _ HG2.out
  have x2_1_7 : w2.cell? ⟨w.heap.size + 1, 7, none⟩ = some (.string ⟨#[]⟩) := (cell_of_row _ _ _ _ _ _ HG2.out).trans rfl
  have z2_1_7 : w2.frozen? ⟨w.heap.size + 1, 7, none⟩ = false := frozen_of_row _ _ _ _ _ HG2.out
  have x2_1_8 : w2.cell? ⟨w.heap.size + 1, 8, none⟩ = some (.slice none 0 0) := (cell_of_row _ _ _ _ _ _ HG2.out).trans rfl
  have z2_1_8 : w2.frozen? ⟨w.heap.size + 1, 8, none⟩ = false := frozen_of_row _ _ _ _ _ HG2.out
  have HB2 := Lib.hid hbw2
  have HSZ2 := Lib.hid hsz2
  have HLO2 := Lib.hid hlo2
  clear hb2 hbw2 hsz2 hlo2
  clear x1_0_2 x1_0_3 x1_0_4 x1_0_5 x1_0_6 x1_0_7 x1_0_8 x1_2_0 x1_2_1 x1_2_2 x1_2_3 x1_2_4 x1_2_5 x1_2_6 x1_2_7 x1_2_8 z1_2_0 z1_2_1 z1_2_2 z1_2_3 z1_2_4 z1_2_5 z1_2_6 z1_2_7 z1_2_8
  go_wp2
  refine bodyPost_ret (v := .agg #[.int .i64 x.fAt.fPos, .string x.fAt.fName, .int .i64 x.fExpr.fKind, .int .i64 x.fExpr.fN, .int .i64 x.fExpr.fPos, .int .i64 x.fExpr.fType, .string x.fExpr.fSymbol, .string x.fExpr.fName, .slice a8r x.fExpr.fArgs.length c8r]) (results_cell_row Tryz.results63 _ _ (w.heap.size + 1) 109 #[.int .i64 x.fAt.fPos, .string x.fAt.fName, .int .i64 x.fExpr.fKind, .int .i64 x.fExpr.fN, .int .i64 x.fExpr.fPos, .int .i64 x.fExpr.fType, .string x.fExpr.fSymbol, .string x.fExpr.fName, .slice a8r x.fExpr.fArgs.length c8r] (0, 0) _ rfl (by refine Eq.trans (blk_set (cs := #[.int .i64 x.fAt.fPos, .string x.fAt.fName, .int .i64 x.fExpr.fKind, .int .i64 x.fExpr.fN, .int .i64 x.fExpr.fPos, .int .i64 x.fExpr.fType, .string x.fExpr.fSymbol, .string x.fExpr.fName, .slice none 0 0]) (t := 109) (fr := (0, 0)) ?_) rfl; refine Eq.trans (blk_set (cs := #[.int .i64 x.fAt.fPos, .string x.fAt.fName, .int .i64 x.fExpr.fKind, .int .i64 x.fExpr.fN, .int .i64 x.fExpr.fPos, .int .i64 x.fExpr.fType, .string x.fExpr.fSymbol, .string ⟨#[]⟩, .slice none 0 0]) (t := 109) (fr := (0, 0)) ?_) rfl; refine Eq.trans (blk_set (cs := #[.int .i64 x.fAt.fPos, .string x.fAt.fName, .int .i64 x.fExpr.fKind, .int .i64 x.fExpr.fN, .int .i64 x.fExpr.fPos, .int .i64 x.fExpr.fType, .string ⟨#[]⟩, .string ⟨#[]⟩, .slice none 0 0]) (t := 109) (fr := (0, 0)) ?_) rfl; refine Eq.trans (blk_set (cs := #[.int .i64 x.fAt.fPos, .string x.fAt.fName, .int .i64 x.fExpr.fKind, .int .i64 x.fExpr.fN, .int .i64 x.fExpr.fPos, .int .i64 0, .string ⟨#[]⟩, .string ⟨#[]⟩, .slice none 0 0]) (t := 109) (fr := (0, 0)) ?_) rfl; refine Eq.trans (blk_set (cs := #[.int .i64 x.fAt.fPos, .string x.fAt.fName, .int .i64 x.fExpr.fKind, .int .i64 x.fExpr.fN, .int .i64 0, .int .i64 0, .string ⟨#[]⟩, .string ⟨#[]⟩, .slice none 0 0]) (t := 109) (fr := (0, 0)) ?_) rfl; refine Eq.trans (blk_set (cs := #[.int .i64 x.fAt.fPos, .string x.fAt.fName, .int .i64 x.fExpr.fKind, .int .i64 0, .int .i64 0, .int .i64 0, .string ⟨#[]⟩, .string ⟨#[]⟩, .slice none 0 0]) (t := 109) (fr := (0, 0)) ?_) rfl; refine Eq.trans (blk_set (cs := #[.int .i64 x.fAt.fPos, .string x.fAt.fName, .int .i64 0, .int .i64 0, .int .i64 0, .int .i64 0, .string ⟨#[]⟩, .string ⟨#[]⟩, .slice none 0 0]) (t := 109) (fr := (0, 0)) ?_) rfl; refine Eq.trans (blk_set (cs := #[.int .i64 x.fAt.fPos, .string ⟨#[]⟩, .int .i64 0, .int .i64 0, .int .i64 0, .int .i64 0, .string ⟨#[]⟩, .string ⟨#[]⟩, .slice none 0 0]) (t := 109) (fr := (0, 0)) ?_) rfl; refine Eq.trans (blk_set (cs := #[.int .i64 0, .string ⟨#[]⟩, .int .i64 0, .int .i64 0, .int .i64 0, .int .i64 0, .string ⟨#[]⟩, .string ⟨#[]⟩, .slice none 0 0]) (t := 109) (fr := (0, 0)) ?_) rfl; repeat (first | (with_reducible exact HG2.out) | (refine blk_other (by simp) ?_))) Tryz.underlying109 rfl rfl) rfl ⟨a8r, c8r, rfl, ?_, (by repeat (first | (with_reducible exact HB2.out) | (with_reducible exact Below.refl _ _) | (refine Below.setCell ?_ (by simp <;> omega) _) | (refine Below.alloc ?_ (by simp <;> omega) _)) : Below w.heap.size w _)⟩
  have ho2 := HO2_2.out
  clear HO2_2
  have q1 := HLO1.out
  have q2 := HLO2.out
  skip
  have hkk : ∀ w9 : World, Kept (fun y => w.heap.size + 3 ≤ y) w2 w9 → OwnR w9 (fun y => w.heap.size ≤ y ∧ y < w2.heap.size) 9 x.ct (fun j => [.int .i64 x.fAt.fPos, .string x.fAt.fName, .int .i64 x.fExpr.fKind, .int .i64 x.fExpr.fN, .int .i64 x.fExpr.fPos, .int .i64 x.fExpr.fType, .string x.fExpr.fSymbol, .string x.fExpr.fName, .slice a8r x.fExpr.fArgs.length c8r].getD j .nilFunc) := fun w9 hk => by
    refine OwnR.append (F1 := fun _ => False) (F2 := fun y => w1.heap.size ≤ y ∧ y < w2.heap.size) (m := 2) (n := 7) ?_ ?_ (by intro y h1 h2; first | exact h1.elim | exact h2.elim | (have h3 := h1.2; have h4 := h2.1; omega)) (by intro y h1; first | exact h1.elim | (have h3 := h1.1; have h4 := h1.2; exact ⟨by omega, by omega⟩)) (by intro y h1; first | exact h1.elim | (have h3 := h1.1; have h4 := h1.2; exact ⟨by omega, by omega⟩))
    · skip
      refine OwnR.lits (F := fun _ => False) fun j hj => ?_
      match j, hj with
      | 0, _ => rfl
      | 1, _ => rfl
    · skip
      refine OwnR.congr (ho2.kept (hk.sub fun y hy => by have h := hy.1; omega)) (fun j hj => ?_) (fun j hj => ?_)
      · match j, hj with
        | 0, _ => rfl
        | 1, _ => rfl
        | 2, _ => rfl
        | 3, _ => rfl
        | 4, _ => rfl
        | 5, _ => rfl
        | 6, _ => rfl
      · match j, hj with
        | 0, _ => rfl
        | 1, _ => rfl
        | 2, _ => rfl
        | 3, _ => rfl
        | 4, _ => rfl
        | 5, _ => rfl
        | 6, _ => rfl
  refine (hkk _ (by repeat (first | (with_reducible exact Kept.refl) | (refine Kept.put ?_ (by intro h1; dsimp only at h1; omega))))).sub (fun y hy => ⟨hy.1, Nat.lt_of_lt_of_le hy.2 (by simp)⟩)

theorem info_Equation : (Tryz.prog.info? 109).map (fun i => (i.zero, i.size, i.bytes)) = some (some (.agg #[.int .i64 0, .string ⟨#[]⟩, .int .i64 0, .int .i64 0, .int .i64 0, .int .i64 0, .string ⟨#[]⟩, .string ⟨#[]⟩, .slice none 0 0]), 9, 112) := by kernel_rfl

set_option maxHeartbeats 1600000 in
set_option maxRecDepth 100000 in
theorem laws_toEquationS {lo hi : Nat} {a : Option Addr} {cap : Nat} (l : List DEquation) (hsz : lsz DEquation.sz l ≤ 1048576) (w : World) (hhi : hi ≤ w.heap.size) (hs : Sl lo hi w 9 l.length (fun k => DEquation.ct (l.getD k default)) a) :
    Calls Tryz.prog 31 #[.slice a l.length cap] w fun e w' => ∃ a' cap', e = .returned (.slice a' l.length cap') ∧ Own w' (fun x => w.heap.size ≤ x ∧ x < w'.heap.size) (.sl 9 l.length (fun k => DEquation.ct (l.getD k default))) (.slice a' l.length cap') ∧ Below w.heap.size w w' := by
  have HS := Lib.hid hs
  clear hs
  have HW := Lib.hid hsz
  have hn : l.length ≤ 1048576 := by unfold lsz at hsz; omega
  clear hsz
  obtain ⟨i0, hi', hz0, hz1, hz2⟩ := info_parts info_Equation
  go_enter Tryz.func31, Tryz.ntmps31
  go_wp2_with (at_make; refine wpList_make_full _ rfl (.tmp 6) (.tmp 6) 42 rfl w.heap.size 109 i0 (.agg #[.int .i64 0, .string ⟨#[]⟩, .int .i64 0, .int .i64 0, .int .i64 0, .int .i64 0, .string ⟨#[]⟩, .string ⟨#[]⟩, .slice none 0 0]) 9 Tryz.underlying42 hi' hz0 hz1 .i64 .i64 (l.length : Int) (l.length : Int) l.length rfl rfl rfl rfl (by rw [hz2]; omega) (by unfold maxLen; omega) (Nat.le_refl _) ?_; intro w1 hown hgrow)
  have hb1 : Below w.heap.size w w1 := (Below.refl _ w).grown hgrow (Nat.le_refl _) (fun k hk => by cases hk)
  clear hgrow
  have hblk := (ownsRow_block hown).1
  go_loopw [4] (fun i wr => ∃ (k : Nat) (xs : List Value), k ≤ l.length ∧ i = .int .i64 (k : Int) ∧ wr.ownsRow w.heap.size 109 9 (.slice (some ⟨w.heap.size, 0, none⟩) l.length l.length) l.length xs ∧ Filled w.heap.size wr 9 k (fun k => DEquation.ct (l.getD k default)) xs ∧ Below w.heap.size w wr) (fun i _ => l.length - (intOf i).toNat)
  case atStart => exact ⟨0, _, Nat.zero_le _, rfl, hown, Filled.zero hblk, hb1⟩
  case round =>
    clear hown hb1 hblk
    obtain ⟨k, xs, hk, rfl, hown, hfill, hb⟩ := hrel
    have hblk := ownsRow_block hown
    have HO := Lib.hid hown
    have HF := Lib.hid hfill
    have HB := Lib.hid hb
    clear hown hfill
    by_cases hlt : k < l.length
    · have hhr : hi ≤ wr.heap.size := Nat.le_trans hhi hb.size
      obtain ⟨b, off, rfl, hlo, hhi', hc⟩ := (HS.out.later (hb.mono hhi) (Nat.le_refl _)).at k hlt
      obtain ⟨a8, c8, hc0_, hc1_, hc2_, hc3_, hc4_, hc5_, hc6_, hc7_, hc8_, hs8⟩ := DEquation.open hc
      have hkn : k * 9 + 9 ≤ l.length * 9 := by omega
      have d0 := hblk.2.2.1 (k * 9) (by omega)
      have z0 := hblk.2.2.2 (k * 9)
      have d1 := hblk.2.2.1 (k * 9 + 1) (by omega)
      have z1 := hblk.2.2.2 (k * 9 + 1)
      have d2 := hblk.2.2.1 (k * 9 + 2) (by omega)
      have z2 := hblk.2.2.2 (k * 9 + 2)
      have d3 := hblk.2.2.1 (k * 9 + 3) (by omega)
      have z3 := hblk.2.2.2 (k * 9 + 3)
      have d4 := hblk.2.2.1 (k * 9 + 4) (by omega)
      have z4 := hblk.2.2.2 (k * 9 + 4)
      have d5 := hblk.2.2.1 (k * 9 + 5) (by omega)
      have z5 := hblk.2.2.2 (k * 9 + 5)
      have d6 := hblk.2.2.1 (k * 9 + 6) (by omega)
      have z6 := hblk.2.2.2 (k * 9 + 6)
      have d7 := hblk.2.2.1 (k * 9 + 7) (by omega)
      have z7 := hblk.2.2.2 (k * 9 + 7)
      have d8 := hblk.2.2.1 (k * 9 + 8) (by omega)
      have z8 := hblk.2.2.2 (k * 9 + 8)
      have hsz := hblk.1
      clear hblk hb hc
      have hxs := szle_at (f := DEquation.sz) l k hlt
      generalize hx : l.getD k default = x at *
      have HX := Lib.hid hx
      clear hx
      generalize xs.getD (k * 9) Value.nilFunc = v0 at d0
      generalize xs.getD (k * 9 + 1) Value.nilFunc = v1 at d1
      generalize xs.getD (k * 9 + 2) Value.nilFunc = v2 at d2
      generalize xs.getD (k * 9 + 3) Value.nilFunc = v3 at d3
      generalize xs.getD (k * 9 + 4) Value.nilFunc = v4 at d4
      generalize xs.getD (k * 9 + 5) Value.nilFunc = v5 at d5
      generalize xs.getD (k * 9 + 6) Value.nilFunc = v6 at d6
      generalize xs.getD (k * 9 + 7) Value.nilFunc = v7 at d7
      generalize xs.getD (k * 9 + 8) Value.nilFunc = v8 at d8
      have HT := Lib.hid (laws_toEquation (c8 := c8) x (by have h1 := HW.out; omega) wr hhr hs8)
      clear hxs hs8
      go_wp2_with fail
      refine HT.out.mono ?_
      rintro e w1 ⟨a8r, c8r, rfl, ho1, hb1⟩
      have HOR := Lib.hid ho1
      clear ho1
      have e0 := (hb1.cell (p := ⟨w.heap.size, k * 9, none⟩) hsz).trans d0
      have y0 := (hb1.frozen (p := ⟨w.heap.size, k * 9, none⟩) hsz).trans z0
      have e1 := (hb1.cell (p := ⟨w.heap.size, k * 9 + 1, none⟩) hsz).trans d1
      have y1 := (hb1.frozen (p := ⟨w.heap.size, k * 9 + 1, none⟩) hsz).trans z1
      have e2 := (hb1.cell (p := ⟨w.heap.size, k * 9 + 2, none⟩) hsz).trans d2
      have y2 := (hb1.frozen (p := ⟨w.heap.size, k * 9 + 2, none⟩) hsz).trans z2
      have e3 := (hb1.cell (p := ⟨w.heap.size, k * 9 + 3, none⟩) hsz).trans d3
      have y3 := (hb1.frozen (p := ⟨w.heap.size, k * 9 + 3, none⟩) hsz).trans z3
      have e4 := (hb1.cell (p := ⟨w.heap.size, k * 9 + 4, none⟩) hsz).trans d4
      have y4 := (hb1.frozen (p := ⟨w.heap.size, k * 9 + 4, none⟩) hsz).trans z4
      have e5 := (hb1.cell (p := ⟨w.heap.size, k * 9 + 5, none⟩) hsz).trans d5
      have y5 := (hb1.frozen (p := ⟨w.heap.size, k * 9 + 5, none⟩) hsz).trans z5
      have e6 := (hb1.cell (p := ⟨w.heap.size, k * 9 + 6, none⟩) hsz).trans d6
      have y6 := (hb1.frozen (p := ⟨w.heap.size, k * 9 + 6, none⟩) hsz).trans z6
      have e7 := (hb1.cell (p := ⟨w.heap.size, k * 9 + 7, none⟩) hsz).trans d7
      have y7 := (hb1.frozen (p := ⟨w.heap.size, k * 9 + 7, none⟩) hsz).trans z7
      have e8 := (hb1.cell (p := ⟨w.heap.size, k * 9 + 8, none⟩) hsz).trans d8
      have y8 := (hb1.frozen (p := ⟨w.heap.size, k * 9 + 8, none⟩) hsz).trans z8
      have HB1 := Lib.hid hb1
      clear hb1 d0 z0 d1 z1 d2 z2 d3 z3 d4 z4 d5 z5 d6 z6 d7 z7 d8 z8
      go_wp2
      go_roundw
      case rel =>
        have hst := HF.out.stored HB1.out hsz (ownsRow_below HO.out HB1.out) hlt [.int .i64 x.fAt.fPos, .string x.fAt.fName, .int .i64 x.fExpr.fKind, .int .i64 x.fExpr.fN, .int .i64 x.fExpr.fPos, .int .i64 x.fExpr.fType, .string x.fExpr.fSymbol, .string x.fExpr.fName, .slice a8r x.fExpr.fArgs.length c8r] rfl ((by rw [HX.out]; exact HOR.out))
        exact ⟨k + 1, _, by omega, by go_num, hst.1, hst.2, setCells_below (Nat.le_refl _) [_, _, _, _, _, _, _, _, _] _ (HB.out.trans (HB1.out.mono HB.out.size))⟩
      case measure => simp [intOf]; omega
    · obtain rfl : k = l.length := by omega
      go_wp2
      go_ret
      exact ⟨_, _, rfl, HF.out.own hblk.1 hblk.2.2.1 hblk.2.2.2, hb⟩

set_option maxHeartbeats 1600000 in
set_option maxRecDepth 100000 in
theorem laws_eqEquation {lo hi lo2 hi2 : Nat} {a8 : Option Addr} {c8 : Nat} {a8q : Option Addr} {c8q : Nat} (x : DEquation) (hsz : x.sz ≤ 1048576) (w : World) (hhi : hi ≤ w.heap.size) (hhi2 : hi2 ≤ w.heap.size) (hs8 : Sl lo hi w 7 x.fExpr.fArgs.length (ctE x.fExpr.fArgs) a8) (hs8q : Sl lo2 hi2 w 7 x.fExpr.fArgs.length (ctE x.fExpr.fArgs) a8q) :
    Calls Tryz.prog 78 #[.agg #[.int .i64 x.fAt.fPos, .string x.fAt.fName, .int .i64 x.fExpr.fKind, .int .i64 x.fExpr.fN, .int .i64 x.fExpr.fPos, .int .i64 x.fExpr.fType, .string x.fExpr.fSymbol, .string x.fExpr.fName, .slice a8 x.fExpr.fArgs.length c8], .agg #[.int .i64 x.fAt.fPos, .string x.fAt.fName, .int .i64 x.fExpr.fKind, .int .i64 x.fExpr.fN, .int .i64 x.fExpr.fPos, .int .i64 x.fExpr.fType, .string x.fExpr.fSymbol, .string x.fExpr.fName, .slice a8q x.fExpr.fArgs.length c8q]] w fun e w' => e = .returned (.bool true) ∧ Below w.heap.size w w' := by
  have HS8 := Lib.hid hs8
  have HS8q := Lib.hid hs8q
  clear hs8 hs8q
  have HW := Lib.hid hsz
  clear hsz
  have HB0 := Lib.hid (((Below.refl w.heap.size w).alloc (Nat.le_refl _) (.cells #[.int .i64 x.fAt.fPos, .string x.fAt.fName, .int .i64 x.fExpr.fKind, .int .i64 x.fExpr.fN, .int .i64 x.fExpr.fPos, .int .i64 x.fExpr.fType, .string x.fExpr.fSymbol, .string x.fExpr.fName, .slice a8 x.fExpr.fArgs.length c8] 109)).alloc (by simp <;> omega) (.cells #[.int .i64 x.fAt.fPos, .string x.fAt.fName, .int .i64 x.fExpr.fKind, .int .i64 x.fExpr.fN, .int .i64 x.fExpr.fPos, .int .i64 x.fExpr.fType, .string x.fExpr.fSymbol, .string x.fExpr.fName, .slice a8q x.fExpr.fArgs.length c8q] 109))
  have ht0 := fun (w' : World) => laws_eqOccurrence x.fAt w'
  have HT0 := Lib.hid ht0
  clear ht0
  have ht1 := fun (w' : World) (hhi : hi ≤ w'.heap.size) (hhi2 : hi2 ≤ w'.heap.size) (hs8 : Sl lo hi w' 7 x.fExpr.fArgs.length (ctE x.fExpr.fArgs) a8) (hs8q : Sl lo2 hi2 w' 7 x.fExpr.fArgs.length (ctE x.fExpr.fArgs) a8q) => laws_eqExpr (c6 := c8) (c6q := c8q) x.fExpr (by have h := HW.out; unfold DEquation.sz at h; omega) w' hhi hhi2 hs8 hs8q
  have HT1 := Lib.hid ht1
  clear ht1
  go_enter Tryz.func78, Tryz.ntmps78
  go_wp2_with fail
  refine (HT0.out _).mono ?_
  rintro e w1 ⟨rfl, hb1⟩
  have x1_0_2 : w1.cell? ⟨w.heap.size, 2, none⟩ = some (.int .i64 x.fExpr.fKind) := (hb1.cell (p := ⟨w.heap.size, 2, none⟩) (by first | omega | (simp; done) | (simp; omega) | (simp [World.setCell]; omega))).trans (by go_simp)
  have x1_0_3 : w1.cell? ⟨w.heap.size, 3, none⟩ = some (.int .i64 x.fExpr.fN) := (hb1.cell (p := ⟨w.heap.size, 3, none⟩) (by first | omega | (simp; done) | (simp; omega) | (simp [World.setCell]; omega))).trans (by go_simp)
  have x1_0_4 : w1.cell? ⟨w.heap.size, 4, none⟩ = some (.int .i64 x.fExpr.fPos) := (hb1.cell (p := ⟨w.heap.size, 4, none⟩) (by first | omega | (simp; done) | (simp; omega) | (simp [World.setCell]; omega))).trans (by go_simp)
  have x1_0_5 : w1.cell? ⟨w.heap.size, 5, none⟩ = some (.int .i64 x.fExpr.fType) := (hb1.cell (p := ⟨w.heap.size, 5, none⟩) (by first | omega | (simp; done) | (simp; omega) | (simp [World.setCell]; omega))).trans (by go_simp)
  have x1_0_6 : w1.cell? ⟨w.heap.size, 6, none⟩ = some (.string x.fExpr.fSymbol) := (hb1.cell (p := ⟨w.heap.size, 6, none⟩) (by first | omega | (simp; done) | (simp; omega) | (simp [World.setCell]; omega))).trans (by go_simp)
  have x1_0_7 : w1.cell? ⟨w.heap.size, 7, none⟩ = some (.string x.fExpr.fName) := (hb1.cell (p := ⟨w.heap.size, 7, none⟩) (by first | omega | (simp; done) | (simp; omega) | (simp [World.setCell]; omega))).trans (by go_simp)
  have x1_0_8 : w1.cell? ⟨w.heap.size, 8, none⟩ = some (.slice a8 x.fExpr.fArgs.length c8) := (hb1.cell (p := ⟨w.heap.size, 8, none⟩) (by first | omega | (simp; done) | (simp; omega) | (simp [World.setCell]; omega))).trans (by go_simp)
  have x1_1_2 : w1.cell? ⟨w.heap.size + 1, 2, none⟩ = some (.int .i64 x.fExpr.fKind) := (hb1.cell (p := ⟨w.heap.size + 1, 2, none⟩) (by first | omega | (simp; done) | (simp; omega) | (simp [World.setCell]; omega))).trans (by go_simp)
  have x1_1_3 : w1.cell? ⟨w.heap.size + 1, 3, none⟩ = some (.int .i64 x.fExpr.fN) := (hb1.cell (p := ⟨w.heap.size + 1, 3, none⟩) (by first | omega | (simp; done) | (simp; omega) | (simp [World.setCell]; omega))).trans (by go_simp)
  have x1_1_4 : w1.cell? ⟨w.heap.size + 1, 4, none⟩ = some (.int .i64 x.fExpr.fPos) := (hb1.cell (p := ⟨w.heap.size + 1, 4, none⟩) (by first | omega | (simp; done) | (simp; omega) | (simp [World.setCell]; omega))).trans (by go_simp)
  have x1_1_5 : w1.cell? ⟨w.heap.size + 1, 5, none⟩ = some (.int .i64 x.fExpr.fType) := (hb1.cell (p := ⟨w.heap.size + 1, 5, none⟩) (by first | omega | (simp; done) | (simp; omega) | (simp [World.setCell]; omega))).trans (by go_simp)
  have x1_1_6 : w1.cell? ⟨w.heap.size + 1, 6, none⟩ = some (.string x.fExpr.fSymbol) := (hb1.cell (p := ⟨w.heap.size + 1, 6, none⟩) (by first | omega | (simp; done) | (simp; omega) | (simp [World.setCell]; omega))).trans (by go_simp)
  have x1_1_7 : w1.cell? ⟨w.heap.size + 1, 7, none⟩ = some (.string x.fExpr.fName) := (hb1.cell (p := ⟨w.heap.size + 1, 7, none⟩) (by first | omega | (simp; done) | (simp; omega) | (simp [World.setCell]; omega))).trans (by go_simp)
  have x1_1_8 : w1.cell? ⟨w.heap.size + 1, 8, none⟩ = some (.slice a8q x.fExpr.fArgs.length c8q) := (hb1.cell (p := ⟨w.heap.size + 1, 8, none⟩) (by first | omega | (simp; done) | (simp; omega) | (simp [World.setCell]; omega))).trans (by go_simp)
  have hsz1 : w.heap.size + 1 < w1.heap.size := Nat.lt_of_lt_of_le (by first | omega | (simp; done) | (simp; omega) | (simp [World.setCell]; omega)) hb1.size
  have HB1 := Lib.hid (HB0.out.trans (hb1.mono HB0.out.size))
  clear hb1
  go_wp2_with fail
  refine (HT1.out _ (Nat.le_trans hhi (HB1.out.size)) (Nat.le_trans hhi2 (HB1.out.size)) (HS8.out.later HB1.out hhi) (HS8q.out.later HB1.out hhi2)).mono ?_
  rintro e w2 ⟨rfl, hb2⟩
  have HB2 := Lib.hid (HB1.out.trans (hb2.mono HB1.out.size))
  clear hb2
  clear x1_0_2 x1_0_3 x1_0_4 x1_0_5 x1_0_6 x1_0_7 x1_0_8 x1_1_2 x1_1_3 x1_1_4 x1_1_5 x1_1_6 x1_1_7 x1_1_8 hsz1
  go_wp2
  go_ret
  exact ⟨rfl, HB2.out⟩

set_option maxHeartbeats 1600000 in
set_option maxRecDepth 100000 in
theorem laws_eqEquationS {lo hi lo2 hi2 : Nat} {a a2 : Option Addr} {cap cap2 : Nat} (l : List DEquation) (hsz : lsz DEquation.sz l ≤ 1048576) (w : World) (hhi : hi ≤ w.heap.size) (hhi2 : hi2 ≤ w.heap.size) (hs : Sl lo hi w 9 l.length (fun k => DEquation.ct (l.getD k default)) a) (hs2 : Sl lo2 hi2 w 9 l.length (fun k => DEquation.ct (l.getD k default)) a2) :
    Calls Tryz.prog 43 #[.slice a l.length cap, .slice a2 l.length cap2] w fun e w' => e = .returned (.bool true) ∧ Below w.heap.size w w' := by
  have HS := Lib.hid hs
  have HS2 := Lib.hid hs2
  have HW := Lib.hid hsz
  have hn : l.length ≤ 1048576 := by unfold lsz at hsz; omega
  clear hs hs2 hsz
  go_enter Tryz.func43, Tryz.ntmps43
  go_wp2
  go_loopw [5] (fun i wr => ∃ k : Nat, k ≤ l.length ∧ i = .int .i64 (k : Int) ∧ Below w.heap.size w wr) (fun i _ => l.length - (intOf i).toNat)
  case atStart => exact ⟨0, Nat.zero_le _, rfl, Below.refl _ _⟩
  case round =>
    obtain ⟨k, hk, rfl, hb⟩ := hrel
    have HB := Lib.hid hb
    by_cases hlt : k < l.length
    · have hhr : hi ≤ wr.heap.size := Nat.le_trans hhi hb.size
      have hhr2 : hi2 ≤ wr.heap.size := Nat.le_trans hhi2 hb.size
      obtain ⟨b, off, rfl, _, hhi', hc⟩ := (HS.out.later (hb.mono hhi) (Nat.le_refl _)).at k hlt
      obtain ⟨b2, off2, rfl, _, hhi2', hc2⟩ := (HS2.out.later (hb.mono hhi2) (Nat.le_refl _)).at k hlt
      obtain ⟨a8, c8, hc0_, hc1_, hc2_, hc3_, hc4_, hc5_, hc6_, hc7_, hc8_, hs8⟩ := DEquation.open hc
      obtain ⟨a8q, c8q, hc0q_, hc1q_, hc2q_, hc3q_, hc4q_, hc5q_, hc6q_, hc7q_, hc8q_, hs8q⟩ := DEquation.open hc2
      have hxs := szle_at (f := DEquation.sz) l k hlt
      clear hb hc hc2
      generalize l.getD k default = x at *
      have HT := Lib.hid (fun (w' : World) (hw : Below wr.heap.size wr w') => laws_eqEquation (c8 := c8) (c8q := c8q) x (by have h1 := HW.out; omega) w' (Nat.le_trans hhr hw.size) (Nat.le_trans hhr2 hw.size) (hs8.later hw hhr) (hs8q.later hw hhr2))
      clear hxs hs8 hs8q
      go_wp2_with fail
      go_region_with ((go_at_call 78; refine (HT.out _ (by first | exact Below.refl _ _ | exact (Below.refl _ _).drew | exact below_drewN (Below.refl _ _) _)).mono ?_; rintro e w1 ⟨rfl, hb1⟩))
      all_goals
        go_wp2
        go_roundw
        case rel =>
          refine ⟨k + 1, by omega, by go_num, ?_⟩
          have hb2 : Below wr.heap.size wr w1 := ⟨hb1.os, hb1.tape, hb1.output, hb1.size, hb1.block⟩
          repeat (first | exact HB.out.trans (hb2.mono HB.out.size) | apply Below.drew | refine below_drewN ?_ _)
        case measure => simp [intOf]; omega
    · go_wp2
      go_ret
      exact ⟨rfl, HB.out⟩
end Go.Proofs.YtnmepemmpeboeaaGreat
namespace Go.Proofs.YtnmepemmpeboeaaGreat
open Go.ChangeShapes Go.WideShapes Go.ChangeAt Go.RowKit Go.Deep

structure ENode where
  fKind : Int
  fN : Int
  fPos : Int
  fType : Int
  fSymbol : ByteArray
  fName : ByteArray
  fArgs : Nat
  fDepth : Nat
  deriving Inhabited

def ENode.vals (n : ENode) : List Value := [.int .i64 n.fKind, .int .i64 n.fN, .int .i64 n.fPos, .int .i64 n.fType, .string n.fSymbol, .string n.fName, .int .i64 n.fArgs, .int .i64 n.fDepth]

def nodeOfX (x : DExpr) (d : Nat) : ENode := ⟨x.fKind, x.fN, x.fPos, x.fType, x.fSymbol, x.fName, x.fArgs.length, d⟩

mutual
def nodesX : DExpr → Nat → List ENode
  | ⟨k, n, p, t, s, m, args⟩, d => ⟨k, n, p, t, s, m, args.length, d⟩ :: nodesL args (d + 1)
def nodesL : List DExpr → Nat → List ENode
  | [], _ => []
  | e :: es, d => nodesX e d ++ nodesL es d
end

theorem nodesX_eq (x : DExpr) (d : Nat) : nodesX x d = nodeOfX x d :: nodesL x.fArgs (d + 1) := by cases x; rfl
/-- How many nodes there are. -/
def cntX (x : DExpr) : Nat := (nodesX x 0).length
theorem lenL (P : DExpr → Prop) (hP : ∀ x, P x → ∀ d, (nodesX x d).length = cntX x) (d : Nat) : ∀ l : List DExpr, (∀ a ∈ l, P a) → (nodesL l d).length = (l.map cntX).sum
  | [], _ => rfl
  | e :: es, h => by
    show (nodesX e d ++ nodesL es d).length = _
    rw [List.length_append, hP e (h e (List.mem_cons_self ..)), lenL P hP d es fun a ha => h a (List.mem_cons_of_mem _ ha), List.map_cons, List.sum_cons]
theorem len_nodesX : ∀ (x : DExpr) (d : Nat), (nodesX x d).length = cntX x := by
  intro x
  refine DExpr.ind (P := fun x => ∀ d, (nodesX x d).length = cntX x) (fun x ih d => ?_) x
  unfold cntX
  rw [nodesX_eq, nodesX_eq, List.length_cons, List.length_cons, lenL (fun a => ∀ d, (nodesX a d).length = cntX a) (fun _ h => h) _ _ ih, lenL (fun a => ∀ d, (nodesX a d).length = cntX a) (fun _ h => h) _ _ ih]
theorem len_nodesL (l : List DExpr) (d : Nat) : (nodesL l d).length = (l.map cntX).sum := lenL (fun _ => True) (fun x _ => len_nodesX x) d l fun _ _ => trivial
theorem cntX_eq (x : DExpr) : cntX x = (x.fArgs.map cntX).sum + 1 := by
  unfold cntX
  rw [nodesX_eq, List.length_cons, len_nodesL]
  rfl
theorem cntX_pos (x : DExpr) : 1 ≤ cntX x := by rw [cntX_eq]; omega
theorem sum_le {α : Type} (f g : α → Nat) : ∀ l : List α, (∀ a ∈ l, f a ≤ g a + 1) → (l.map f).sum ≤ l.length + (l.map g).sum
  | [], _ => Nat.le_refl _
  | a :: l, h => by
    have h1 := h a (List.mem_cons_self ..)
    have h2 := sum_le f g l fun b hb => h b (List.mem_cons_of_mem _ hb)
    rw [List.map_cons, List.map_cons, List.sum_cons, List.sum_cons, List.length_cons]
    omega
theorem cntX_le : ∀ x : DExpr, cntX x ≤ x.sz + 1 := DExpr.ind fun x ih => by
  rw [cntX_eq, DExpr.sz_eq]
  have := sum_le cntX DExpr.sz x.fArgs ih
  unfold lsz
  omega

/-! The stack of steps, the last step first. -/
structure Stp where
  b : Nat
  off : Nat
  x : DExpr
  d : Nat
  leaving : Bool

def Stp.vals (s : Stp) : List Value := [.pointer (some ⟨s.b, s.off, none⟩), .int .i64 s.d, .bool s.leaving]
def Stp.nodes (s : Stp) : List ENode := if s.leaving then [] else nodesX s.x s.d
def Stp.work (s : Stp) : Nat := if s.leaving then 1 else 2 * cntX s.x
def workOf (T : List Stp) : Nat := (T.map Stp.work).sum
def nodesOfT (T : List Stp) : List ENode := T.flatMap Stp.nodes
/-- The addresses that are to be left, the first entered one first. -/
def insideOf (T : List Stp) : List (Nat × Nat) := (T.reverse.filter Stp.leaving).map fun s => (s.b, s.off)
/-- The steps into the args of x whose row begins at off in the block b. -/
def enters (b off : Nat) (d : Nat) : Nat → List DExpr → List Stp
  | _, [] => []
  | i, e :: es => ⟨b, off + i * 7, e, d, false⟩ :: enters b off d (i + 1) es
theorem enters_len (b off d : Nat) : ∀ (l : List DExpr) (i : Nat), (enters b off d i l).length = l.length
  | [], _ => rfl
  | e :: es, i => by unfold enters; rw [List.length_cons, enters_len b off d es, List.length_cons]
theorem enters_nodes (b off d : Nat) : ∀ (l : List DExpr) (i : Nat), nodesOfT (enters b off d i l) = nodesL l d
  | [], _ => rfl
  | e :: es, i => by
    show (Stp.nodes _ ++ nodesOfT (enters b off d (i + 1) es)) = _
    rw [enters_nodes b off d es]; rfl
theorem enters_work (b off d : Nat) : ∀ (l : List DExpr) (i : Nat), workOf (enters b off d i l) = 2 * (l.map cntX).sum
  | [], _ => rfl
  | e :: es, i => by
    have h := enters_work b off d es (i + 1)
    unfold workOf at h ⊢
    unfold enters
    rw [List.map_cons, List.sum_cons, h, List.map_cons, List.sum_cons, Nat.mul_add]
    rfl
theorem enters_at (b off d : Nat) : ∀ (l : List DExpr) (i k : Nat), k < l.length → (enters b off d i l)[k]? = some ⟨b, off + (i + k) * 7, l.getD k default, d, false⟩
  | [], _, _, h => absurd h (Nat.not_lt_zero _)
  | e :: es, i, 0, _ => rfl
  | e :: es, i, k + 1, h => by
    unfold enters
    rw [List.getElem?_cons_succ, enters_at b off d es (i + 1) k (Nat.lt_of_succ_lt_succ h), show i + 1 + k = i + (k + 1) by omega]
    rfl
theorem enters_mem {b off d : Nat} {l : List DExpr} {i : Nat} {s : Stp} (h : s ∈ enters b off d i l) : ∃ k, k < l.length ∧ s = ⟨b, off + (i + k) * 7, l.getD k default, d, false⟩ := by
  obtain ⟨k, hk, hs⟩ := List.getElem_of_mem h
  rw [enters_len] at hk
  have h2 := enters_at b off d l i k hk
  rw [List.getElem?_eq_getElem (by rw [enters_len]; exact hk), hs] at h2
  exact ⟨k, hk, Option.some.inj h2⟩
theorem workOf_cons (s : Stp) (T : List Stp) : workOf (s :: T) = s.work + workOf T := by unfold workOf; rw [List.map_cons, List.sum_cons]
theorem workOf_append (S T : List Stp) : workOf (S ++ T) = workOf S + workOf T := by unfold workOf; rw [List.map_append, List.sum_append]
theorem nodesOfT_append (S T : List Stp) : nodesOfT (S ++ T) = nodesOfT S ++ nodesOfT T := by unfold nodesOfT; rw [List.flatMap_append]
theorem insideOf_cons (s : Stp) (T : List Stp) : insideOf (s :: T) = if s.leaving then insideOf T ++ [(s.b, s.off)] else insideOf T := by
  unfold insideOf
  rw [List.reverse_cons, List.filter_append, List.map_append]
  cases h : s.leaving <;> simp [h]
theorem insideOf_enters (b off d : Nat) (T : List Stp) : ∀ (l : List DExpr) (i : Nat), insideOf (enters b off d i l ++ T) = insideOf T
  | [], _ => rfl
  | e :: es, i => by
    unfold enters
    rw [List.cons_append, insideOf_cons, insideOf_enters b off d T es]
    rfl
theorem le_sum_map {α : Type} (f : α → Nat) : ∀ {l : List α} {a : α}, a ∈ l → f a ≤ (l.map f).sum
  | b :: l, a, h => by
    rw [List.map_cons, List.sum_cons]
    rcases List.mem_cons.1 h with rfl | h
    · omega
    · have := le_sum_map f h
      omega
/-- The number of nodes falls on each way down. -/
theorem sizeOf_arg {x a : DExpr} (h : a ∈ x.fArgs) : cntX a < cntX x := by
  rw [cntX_eq x]
  have := le_sum_map cntX h
  omega
end Go.Proofs.YtnmepemmpeboeaaGreat
