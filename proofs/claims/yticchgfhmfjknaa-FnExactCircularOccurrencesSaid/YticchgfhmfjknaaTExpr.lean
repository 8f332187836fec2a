/-
  The type Expr of the laws: its data, and the contracts of the laws' own helpers on it.
-/
import Derived.Test.YticchgfhmfjknaaTSz
import Derived.WalkSpells
import Derived.WalkSmall
import Derived.WalkLawsBesides
import Derived.SliceStrings
import Derived.Deep.QuietTactic
import Derived.Deep.RegionWith
import Derived.BigQuiet
import Derived.Outline
import Derived.Laws.Rows
namespace Go.Proofs.Yticchgfhmfjknaa
open Go.ChangeShapes Go.WideShapes Go.ChangeAt Go.RowKit Go.Deep

structure DExpr where
  fKind : Int
  fN : Int
  fPos : Int
  fType : Int
  fSymbol : ByteArray
  fName : ByteArray
  fArgs : List DExpr

instance : Inhabited DExpr := ⟨⟨0, 0, 0, 0, ⟨#[]⟩, ⟨#[]⟩, []⟩⟩

theorem DExpr.ind {P : DExpr → Prop} (h : ∀ x : DExpr, (∀ a ∈ x.fArgs, P a) → P x) : ∀ x, P x := fun x =>
  DExpr.rec (motive_1 := P) (motive_2 := fun l => ∀ a ∈ l, P a) (fun k n p t s m args ih => h ⟨k, n, p, t, s, m, args⟩ ih) (fun a ha => by cases ha)
    (fun e es he hes a ha => by
      rcases List.mem_cons.1 ha with rfl | ha
      · exact he
      · exact hes a ha) x

mutual
def ctX : DExpr → Nat → Ct
  | ⟨k, n, p, t, s, m, args⟩ => fun j => match j with
    | 0 => .lit (.int .i64 k)
    | 1 => .lit (.int .i64 n)
    | 2 => .lit (.int .i64 p)
    | 3 => .lit (.int .i64 t)
    | 4 => .lit (.string s)
    | 5 => .lit (.string m)
    | 6 => .sl 7 args.length (ctE args)
    | _ => .lit .nilFunc
def ctE : List DExpr → Nat → Nat → Ct
  | [] => fun _ _ => .lit .nilFunc
  | e :: es => fun k => match k with
    | 0 => ctX e
    | q + 1 => ctE es q
end

def DExpr.ct (x : DExpr) : Nat → Ct
  | 0 => .lit (.int .i64 x.fKind)
  | 1 => .lit (.int .i64 x.fN)
  | 2 => .lit (.int .i64 x.fPos)
  | 3 => .lit (.int .i64 x.fType)
  | 4 => .lit (.string x.fSymbol)
  | 5 => .lit (.string x.fName)
  | 6 => .sl 7 x.fArgs.length (ctE x.fArgs)
  | _ => .lit .nilFunc

theorem ctX_eq (x : DExpr) : ctX x = x.ct := by
  cases x
  funext j
  match j with
  | 0 => rfl
  | 1 => rfl
  | 2 => rfl
  | 3 => rfl
  | 4 => rfl
  | 5 => rfl
  | 6 => rfl
  | _ + 7 => rfl
theorem ctE_at : ∀ {l : List DExpr} {k : Nat}, k < l.length → ctE l k = (l.getD k default).ct
  | [], _, h => absurd h (Nat.not_lt_zero _)
  | e :: _, 0, _ => ctX_eq e
  | _ :: es, _ + 1, h => ctE_at (l := es) (Nat.lt_of_succ_lt_succ h)

mutual
def szX : DExpr → Nat
  | ⟨_, _, _, _, s, m, args⟩ => s.size + m.size + (args.length + szE args)
def szE : List DExpr → Nat
  | [] => 0
  | e :: es => szX e + szE es
end

def DExpr.sz (x : DExpr) : Nat := szX x
theorem szE_eq : ∀ l : List DExpr, szE l = (l.map DExpr.sz).sum
  | [] => rfl
  | e :: es => by rw [List.map_cons, List.sum_cons, ← szE_eq es]; rfl
theorem DExpr.sz_eq (x : DExpr) : x.sz = x.fSymbol.size + x.fName.size + lsz DExpr.sz x.fArgs := by
  have h : x.sz = x.fSymbol.size + x.fName.size + (x.fArgs.length + szE x.fArgs) := by cases x; rfl
  rw [h, szE_eq]
  rfl

mutual
def okX : DExpr → Prop
  | ⟨k, n, p, t, s, m, args⟩ => okI k ∧ okI n ∧ okI p ∧ okI t ∧ okS s ∧ okS m ∧ args.length ≤ 9223372036854775807 ∧ okE args
def okE : List DExpr → Prop
  | [] => True
  | e :: es => okX e ∧ okE es
end

def DExpr.ok (x : DExpr) : Prop := okX x
theorem okE_iff : ∀ l : List DExpr, okE l ↔ ∀ a ∈ l, a.ok
  | [] => ⟨fun _ a ha => (by cases ha), fun _ => trivial⟩
  | e :: es => by
    have ih := okE_iff es
    constructor
    · intro h a ha
      rcases List.mem_cons.1 ha with rfl | ha
      · exact h.1
      · exact ih.1 h.2 a ha
    · intro h
      exact ⟨h e (List.mem_cons_self ..), ih.2 fun a ha => h a (List.mem_cons_of_mem _ ha)⟩
theorem DExpr.ok_iff (x : DExpr) : x.ok ↔ okI x.fKind ∧ okI x.fN ∧ okI x.fPos ∧ okI x.fType ∧ okS x.fSymbol ∧ okS x.fName ∧ okL DExpr.ok x.fArgs := by
  have h : x.ok ↔ okI x.fKind ∧ okI x.fN ∧ okI x.fPos ∧ okI x.fType ∧ okS x.fSymbol ∧ okS x.fName ∧ x.fArgs.length ≤ 9223372036854775807 ∧ okE x.fArgs := by cases x; exact Iff.rfl
  rw [h, okE_iff]
  exact Iff.rfl
theorem getD_mem {α : Type} [Inhabited α] {l : List α} {k : Nat} (h : k < l.length) : l.getD k default ∈ l := by
  rw [List.getD_eq_getElem?_getD, List.getElem?_eq_getElem h]; exact List.getElem_mem _

theorem DExpr.open {lo hi b o : Nat} {w : World} {x : DExpr} (h : ∀ j, j < 7 → ∃ u, w.cell? ⟨b, o + j, none⟩ = some u ∧ Lies lo hi w (x.ct j) u) :
    ∃ a6 c6, w.cell? ⟨b, o, none⟩ = some (.int .i64 x.fKind) ∧ w.cell? ⟨b, o + 1, none⟩ = some (.int .i64 x.fN) ∧ w.cell? ⟨b, o + 2, none⟩ = some (.int .i64 x.fPos) ∧ w.cell? ⟨b, o + 3, none⟩ = some (.int .i64 x.fType) ∧ w.cell? ⟨b, o + 4, none⟩ = some (.string x.fSymbol) ∧ w.cell? ⟨b, o + 5, none⟩ = some (.string x.fName) ∧ w.cell? ⟨b, o + 6, none⟩ = some (.slice a6 x.fArgs.length c6) ∧ Sl lo hi w 7 x.fArgs.length (ctE x.fArgs) a6 := by
  obtain ⟨u0, hc0, hl0⟩ := h 0 (by decide)
  obtain rfl := lies_lit hl0
  obtain ⟨u1, hc1, hl1⟩ := h 1 (by decide)
  obtain rfl := lies_lit hl1
  obtain ⟨u2, hc2, hl2⟩ := h 2 (by decide)
  obtain rfl := lies_lit hl2
  obtain ⟨u3, hc3, hl3⟩ := h 3 (by decide)
  obtain rfl := lies_lit hl3
  obtain ⟨u4, hc4, hl4⟩ := h 4 (by decide)
  obtain rfl := lies_lit hl4
  obtain ⟨u5, hc5, hl5⟩ := h 5 (by decide)
  obtain rfl := lies_lit hl5
  obtain ⟨u6, hc6, hl6⟩ := h 6 (by decide)
  obtain ⟨a6, c6, rfl, hs6⟩ := lies_sl hl6
  exact ⟨a6, c6, hc0, hc1, hc2, hc3, hc4, hc5, hc6, hs6⟩


theorem opens_expr {H : Type} {enc : TypeId × Value → H} {w : World} (fuel : Nat) : Opens enc Try.prog w 94 7 DExpr.ct DExpr.ok fuel := by
  induction fuel using Nat.strongRecOn with | ind fuel ihf => ?_
  intro cs x h
  have hl := opens_len Try.underlying94 h
  obtain ⟨y0, k0, q0⟩ := opens_field Try.underlying94 h 0 _ rfl (ft := 3) (o := 0) (n := 1) rfl rfl (fun m _ => opens_int Try.underlying3 m) (by kernel_rfl)
  obtain ⟨y1, k1, q1⟩ := opens_field Try.underlying94 h 1 _ rfl (ft := 3) (o := 1) (n := 1) rfl rfl (fun m _ => opens_int Try.underlying3 m) (by kernel_rfl)
  obtain ⟨y2, k2, q2⟩ := opens_field Try.underlying94 h 2 _ rfl (ft := 3) (o := 2) (n := 1) rfl rfl (fun m _ => opens_int Try.underlying3 m) (by kernel_rfl)
  obtain ⟨y3, k3, q3⟩ := opens_field Try.underlying94 h 3 _ rfl (ft := 3) (o := 3) (n := 1) rfl rfl (fun m _ => opens_int Try.underlying3 m) (by kernel_rfl)
  obtain ⟨y4, k4, q4⟩ := opens_field Try.underlying94 h 4 _ rfl (ft := 9) (o := 4) (n := 1) rfl rfl (fun m _ => opens_string Try.underlying9 m) (by kernel_rfl)
  obtain ⟨y5, k5, q5⟩ := opens_field Try.underlying94 h 5 _ rfl (ft := 9) (o := 5) (n := 1) rfl rfl (fun m _ => opens_string Try.underlying9 m) (by kernel_rfl)
  obtain ⟨y6, k6, q6⟩ := opens_field Try.underlying94 h 6 _ rfl (ft := 92) (o := 6) (n := 1) rfl rfl (fun m hm => opens_slice Try.underlying92 (e := 94) (n := 7) (by kernel_rfl) (by decide) m (fun m2 hm2 => ihf m2 (by omega))) (by kernel_rfl)
  refine ⟨⟨y0, y1, y2, y3, y4, y5, y6⟩, (DExpr.ok_iff _).2 ⟨k0, k1, k2, k3, k4, k5, k6⟩, hl.trans (by kernel_rfl), fun j hj => ?_⟩
  match j, hj with
  | 0, _ => exact q0 0 (by decide)
  | 1, _ => exact q1 0 (by decide)
  | 2, _ => exact q2 0 (by decide)
  | 3, _ => exact q3 0 (by decide)
  | 4, _ => exact q4 0 (by decide)
  | 5, _ => exact q5 0 (by decide)
  | 6, _ => exact (q6 0 (by decide)).imp fun v h => ⟨h.1, h.2.congr fun k hk j _ => by rw [ctE_at hk]⟩

open Go.WideElems Go.WideMaps in
set_option maxRecDepth 100000 in
theorem arg_expr {H : Type} {enc : TypeId × Value → H} {W : World} {base : Nat} {v : Value} {d : DataW H} {p : List MemPlace} (hv : Value.okWide Try.prog W .any base 94 v) (h : DataW.Trod enc Try.prog W 0 (fun _ => true) true 94 v d p) :
    ∃ (x : DExpr) (a6 : Option Addr) (c6 : Nat), v = .agg #[.int .i64 x.fKind, .int .i64 x.fN, .int .i64 x.fPos, .int .i64 x.fType, .string x.fSymbol, .string x.fName, .slice a6 x.fArgs.length c6] ∧ x.ok ∧ Sl 0 W.heap.size W 7 x.fArgs.length (ctE x.fArgs) a6 := by
  obtain ⟨cs, rfl, hsz⟩ := okWide_struct Try.underlying94 hv
  obtain ⟨fuel, hf⟩ := h
  obtain ⟨x, hx, hl, hj⟩ := opens_expr fuel _ _ hf
  obtain ⟨l⟩ := cs
  match l, hl, hj with
  | [e0, e1, e2, e3, e4, e5, e6], _, hj =>
    obtain ⟨u0, hu0, hl0⟩ := hj 0 (by decide)
    obtain rfl := lies_lit hl0
    obtain rfl : e0 = _ := Option.some.inj hu0
    obtain ⟨u1, hu1, hl1⟩ := hj 1 (by decide)
    obtain rfl := lies_lit hl1
    obtain rfl : e1 = _ := Option.some.inj hu1
    obtain ⟨u2, hu2, hl2⟩ := hj 2 (by decide)
    obtain rfl := lies_lit hl2
    obtain rfl : e2 = _ := Option.some.inj hu2
    obtain ⟨u3, hu3, hl3⟩ := hj 3 (by decide)
    obtain rfl := lies_lit hl3
    obtain rfl : e3 = _ := Option.some.inj hu3
    obtain ⟨u4, hu4, hl4⟩ := hj 4 (by decide)
    obtain rfl := lies_lit hl4
    obtain rfl : e4 = _ := Option.some.inj hu4
    obtain ⟨u5, hu5, hl5⟩ := hj 5 (by decide)
    obtain rfl := lies_lit hl5
    obtain rfl : e5 = _ := Option.some.inj hu5
    obtain ⟨u6, hu6, hl6⟩ := hj 6 (by decide)
    obtain ⟨a6, c6, rfl, hs6⟩ := lies_sl hl6
    obtain rfl : e6 = _ := Option.some.inj hu6
    exact ⟨x, a6, c6, rfl, hx, hs6⟩

open Go.WideElems Go.WideMaps in
theorem arg_exprS {H : Type} {enc : TypeId × Value → H} {W : World} {v : Value} {d : DataW H} {p : List MemPlace} {a0 : Option Addr} {len cap : Nat} (hv : v = .slice a0 len cap) (h : DataW.Trod enc Try.prog W 0 (fun _ => true) true 92 v d p) :
    ∃ (l : List DExpr) (a : Option Addr) (cap : Nat), v = .slice a l.length cap ∧ okL DExpr.ok l ∧ Sl 0 W.heap.size W 7 l.length (ctE l) a := by
  subst hv
  obtain ⟨fuel, hf⟩ := h
  obtain ⟨x, hx, hl, hj⟩ := opens_slice Try.underlying92 (e := 94) (n := 7) (by kernel_rfl) (by decide) fuel (fun m _ => opens_expr m) _ _ hf
  obtain ⟨u0, hu0, hl0⟩ := hj 0 (by decide)
  obtain ⟨a, c, rfl, hs⟩ := lies_sl hl0
  exact ⟨x, a, c, Option.some.inj hu0, hx, hs.congr fun k hk j _ => by rw [ctE_at hk]⟩

def SzOf1 (x : DExpr) : Prop := ∀ {lo hi : Nat} {a6 : Option Addr} {c6 : Nat} (L : Int) (_hL0 : 0 ≤ L) (_hL1 : L ≤ 1048576) (_hx : x.ok) (w : World) (_hhi : hi ≤ w.heap.size) (_hs6 : Sl lo hi w 7 x.fArgs.length (ctE x.fArgs) a6), Calls Try.prog 66 #[.agg #[.int .i64 x.fKind, .int .i64 x.fN, .int .i64 x.fPos, .int .i64 x.fType, .string x.fSymbol, .string x.fName, .slice a6 x.fArgs.length c6], .int .i64 L] w fun e w' => e = .returned (.int .i64 (szR L x.sz)) ∧ Below w.heap.size w w'

def SzOfS (l : List DExpr) : Prop := ∀ {lo hi : Nat} {a : Option Addr} {cap : Nat} (L : Int) (_hL0 : 0 ≤ L) (_hL1 : L ≤ 1048576) (_hok : okL DExpr.ok l) (w : World) (_hhi : hi ≤ w.heap.size) (_hs : Sl lo hi w 7 l.length (ctE l) a), Calls Try.prog 75 #[.slice a l.length cap, .int .i64 L] w fun e w' => e = .returned (.int .i64 (szR L (lsz DExpr.sz l))) ∧ Below w.heap.size w w'

set_option maxHeartbeats 1600000 in
set_option maxRecDepth 100000 in
theorem laws_szExpr_of {lo hi : Nat} {a6 : Option Addr} {c6 : Nat} (x : DExpr) (HA : SzOfS x.fArgs) (L : Int) (hL0 : 0 ≤ L) (hL1 : L ≤ 1048576) (hx : x.ok) (w : World) (hhi : hi ≤ w.heap.size) (hs6 : Sl lo hi w 7 x.fArgs.length (ctE x.fArgs) a6) :
    Calls Try.prog 66 #[.agg #[.int .i64 x.fKind, .int .i64 x.fN, .int .i64 x.fPos, .int .i64 x.fType, .string x.fSymbol, .string x.fName, .slice a6 x.fArgs.length c6], .int .i64 L] w fun e w' => e = .returned (.int .i64 (szR L x.sz)) ∧ Below w.heap.size w w' := by
  have HS6 := Lib.hid hs6
  clear hs6
  have HX := Lib.hid ((DExpr.ok_iff x).1 hx)
  clear hx
  have okSymbol : x.fSymbol.size ≤ 9223372036854775807 := HX.out.2.2.2.2.1
  have okName : x.fName.size ≤ 9223372036854775807 := HX.out.2.2.2.2.2.1
  have HB0 := Lib.hid ((Below.refl w.heap.size w).alloc (Nat.le_refl _) (.cells #[.int .i64 x.fKind, .int .i64 x.fN, .int .i64 x.fPos, .int .i64 x.fType, .string x.fSymbol, .string x.fName, .slice a6 x.fArgs.length c6] 94))
  by_cases h0 : L < ((x.fSymbol.size : Nat) : Int)
  · skip
    have fin := Lib.hid (szR_gt (n := x.sz) (L := L) (by rw [DExpr.sz_eq]; omega))
    go_enter Try.func66, Try.ntmps66
    go_wp2
    go_ret
    exact ⟨ret_i (by rw [fin.out]), HB0.out⟩
  · skip
    by_cases h1 : (L - (x.fSymbol.size : Nat)) < ((x.fName.size : Nat) : Int)
    · skip
      have fin := Lib.hid (szR_gt (n := x.sz) (L := L) (by rw [DExpr.sz_eq]; omega))
      go_enter Try.func66, Try.ntmps66
      go_wp2
      go_ret
      exact ⟨ret_i (by rw [fin.out]), HB0.out⟩
    · skip
      by_cases h2 : ((L - (x.fSymbol.size : Nat)) - (x.fName.size : Nat)) < (((lsz DExpr.sz) x.fArgs : Nat) : Int)
      · skip
        have hz0 := fun (w' : World) (hhi : hi ≤ w'.heap.size) (hs6 : Sl lo hi w' 7 x.fArgs.length (ctE x.fArgs) a6) => HA (cap := c6) ((L - (x.fSymbol.size : Nat)) - (x.fName.size : Nat)) (by omega) (by omega) HX.out.2.2.2.2.2.2 w' hhi hs6
        rw [szR_gt (by omega)] at hz0
        have HZ0 := Lib.hid hz0
        clear hz0
        have fin := Lib.hid (szR_gt (n := x.sz) (L := L) (by rw [DExpr.sz_eq]; omega))
        go_enter Try.func66, Try.ntmps66
        go_wp2_with fail
        refine (HZ0.out _ (Nat.le_trans hhi HB0.out.size) (HS6.out.later HB0.out hhi)).mono ?_
        rintro e w1 ⟨rfl, hb1⟩
        have hsz1 : w.heap.size < w1.heap.size := Nat.lt_of_lt_of_le (by first | omega | (simp; done) | (simp; omega)) hb1.size
        have HB1 := Lib.hid (HB0.out.trans (hb1.mono HB0.out.size))
        clear hb1
        go_wp2
        go_ret
        exact ⟨ret_i (by rw [fin.out]), HB1.out⟩
      · skip
        have hz0 := fun (w' : World) (hhi : hi ≤ w'.heap.size) (hs6 : Sl lo hi w' 7 x.fArgs.length (ctE x.fArgs) a6) => HA (cap := c6) ((L - (x.fSymbol.size : Nat)) - (x.fName.size : Nat)) (by omega) (by omega) HX.out.2.2.2.2.2.2 w' hhi hs6
        rw [szR_le (by omega)] at hz0
        have HZ0 := Lib.hid hz0
        clear hz0
        have fin := Lib.hid (szR_le (n := x.sz) (L := L) (by rw [DExpr.sz_eq]; omega))
        go_enter Try.func66, Try.ntmps66
        go_wp2_with fail
        refine (HZ0.out _ (Nat.le_trans hhi HB0.out.size) (HS6.out.later HB0.out hhi)).mono ?_
        rintro e w1 ⟨rfl, hb1⟩
        have hsz1 : w.heap.size < w1.heap.size := Nat.lt_of_lt_of_le (by first | omega | (simp; done) | (simp; omega)) hb1.size
        have HB1 := Lib.hid (HB0.out.trans (hb1.mono HB0.out.size))
        clear hb1
        go_wp2
        go_ret
        exact ⟨ret_i (by rw [fin.out]; rw [DExpr.sz_eq]; omega), HB1.out⟩

theorem laws_szExpr_all (x : DExpr) (HA : SzOfS x.fArgs) : SzOf1 x := by
  intro lo hi a6 c6 L hL0 hL1 hx w hhi hs6
  exact laws_szExpr_of x HA (lo := lo) (hi := hi) (a6 := a6) (c6 := c6) L hL0 hL1 hx w hhi hs6

set_option maxHeartbeats 1600000 in
set_option maxRecDepth 100000 in
theorem laws_szExprS_of {lo hi : Nat} {a : Option Addr} {cap : Nat} (l : List DExpr) (HE : ∀ x ∈ l, SzOf1 x) (L : Int) (hL0 : 0 ≤ L) (hL1 : L ≤ 1048576) (hok : okL DExpr.ok l) (w : World) (hhi : hi ≤ w.heap.size) (hs : Sl lo hi w 7 l.length (ctE l) a) :
    Calls Try.prog 75 #[.slice a l.length cap, .int .i64 L] w fun e w' => e = .returned (.int .i64 (szR L (lsz DExpr.sz l))) ∧ Below w.heap.size w w' := by
  have HEH := Lib.hid HE
  clear HE
  have HS := Lib.hid hs
  have HK := Lib.hid hok
  have hn : l.length ≤ 9223372036854775807 := hok.1
  clear hs hok
  by_cases hlong : L < ((l.length : Nat) : Int)
  · have fin := Lib.hid (szR_gt (n := lsz DExpr.sz l) (L := L) (by unfold lsz; omega))
    go_enter Try.func75, Try.ntmps75
    go_wp2
    go_ret
    exact ⟨ret_i fin.out.symm, Below.refl _ _⟩
  · go_enter Try.func75, Try.ntmps75
    go_wp2
    go_loopw [1, 5] (fun q i wr => ∃ k : Nat, k ≤ l.length ∧ i = .int .i64 (k : Int) ∧ q = .int .i64 (L - l.length - psz DExpr.sz l k) ∧ (l.length : Int) + psz DExpr.sz l k ≤ L ∧ Below w.heap.size w wr) (fun _ i _ => l.length - (intOf i).toNat)
    case atStart => exact ⟨0, Nat.zero_le _, rfl, by rw [psz_zero]; go_num, by rw [psz_zero]; omega, Below.refl _ _⟩
    case round =>
      obtain ⟨k, hk, rfl, rfl, hle, hb⟩ := hrel
      have HB := Lib.hid hb
      by_cases hlt : k < l.length
      · have hsu := Lib.hid (psz_succ DExpr.sz l k hlt)
        have hle2 := Lib.hid (psz_le DExpr.sz l (k + 1))
        have hE : SzOf1 (l.getD k default) := @Hid.out _ HEH _ (getD_mem hlt)
        have hokk := HK.out.at hlt
        have hhr : hi ≤ wr.heap.size := Nat.le_trans hhi hb.size
        obtain ⟨b, off, rfl, hlo, hhi', hc⟩ := (HS.out.later (hb.mono hhi) (Nat.le_refl _)).at k hlt
        clear hb
        obtain ⟨a6, c6, hc0_, hc1_, hc2_, hc3_, hc4_, hc5_, hc6_, hs6⟩ := DExpr.open (by rw [ctE_at hlt] at hc; exact hc)
        clear hc
        generalize l.getD k default = x at *
        generalize psz DExpr.sz l k = S at *
        have hZ := hE (c6 := c6) (L - l.length - S) (by omega) (by omega) hokk wr hhr hs6
        by_cases hf : ((x.sz : Nat) : Int) ≤ L - l.length - S
        · rw [szR_le hf] at hZ
          have HZ := Lib.hid hZ
          clear hZ hokk hs6
          go_wp2_with fail
          refine HZ.out.mono ?_
          rintro e w1 ⟨rfl, hb1⟩
          have HB1 := Lib.hid hb1
          clear hb1
          go_wp2
          go_roundw
          case rel => exact ⟨k + 1, by omega, by go_num, by rw [hsu.out]; go_num, by rw [hsu.out]; omega, HB.out.trans (HB1.out.mono HB.out.size)⟩
          case measure => simp [intOf]; omega
        · have fin := Lib.hid (szR_gt (n := lsz DExpr.sz l) (L := L) (by have h1 := hsu.out; have h2 := hle2.out; omega))
          rw [szR_gt (by omega)] at hZ
          have HZ := Lib.hid hZ
          clear hZ hokk hs6
          go_wp2_with fail
          refine HZ.out.mono ?_
          rintro e w1 ⟨rfl, hb1⟩
          have HB1 := Lib.hid hb1
          clear hb1
          go_wp2
          go_ret
          exact ⟨ret_i fin.out.symm, HB.out.trans (HB1.out.mono HB.out.size)⟩
      · obtain rfl : k = l.length := by omega
        have fin := Lib.hid (szR_le (n := lsz DExpr.sz l) (L := L) (by unfold lsz; rw [psz_all] at hle; omega))
        have fin2 := Lib.hid (psz_all DExpr.sz l)
        go_wp2
        go_ret
        exact ⟨ret_i (by rw [fin.out, fin2.out]; unfold lsz; omega), HB.out⟩

theorem laws_szExprS_all (l : List DExpr) (HE : ∀ x ∈ l, SzOf1 x) : SzOfS l := by
  intro lo hi a cap L hL0 hL1 hok w hhi hs
  exact laws_szExprS_of l HE (lo := lo) (hi := hi) (a := a) (cap := cap) L hL0 hL1 hok w hhi hs

theorem laws_szExpr_each : ∀ x : DExpr, SzOf1 x := DExpr.ind fun x ih => laws_szExpr_all x (laws_szExprS_all x.fArgs ih)

theorem laws_szExpr {lo hi : Nat} {a6 : Option Addr} {c6 : Nat} (x : DExpr) (L : Int) (hL0 : 0 ≤ L) (hL1 : L ≤ 1048576) (hx : x.ok) (w : World) (hhi : hi ≤ w.heap.size) (hs6 : Sl lo hi w 7 x.fArgs.length (ctE x.fArgs) a6) :
    Calls Try.prog 66 #[.agg #[.int .i64 x.fKind, .int .i64 x.fN, .int .i64 x.fPos, .int .i64 x.fType, .string x.fSymbol, .string x.fName, .slice a6 x.fArgs.length c6], .int .i64 L] w fun e w' => e = .returned (.int .i64 (szR L x.sz)) ∧ Below w.heap.size w w' := laws_szExpr_each x (lo := lo) (hi := hi) (a6 := a6) (c6 := c6) L hL0 hL1 hx w hhi hs6

theorem laws_szExprS {lo hi : Nat} {a : Option Addr} {cap : Nat} (l : List DExpr) (L : Int) (hL0 : 0 ≤ L) (hL1 : L ≤ 1048576) (hok : okL DExpr.ok l) (w : World) (hhi : hi ≤ w.heap.size) (hs : Sl lo hi w 7 l.length (ctE l) a) :
    Calls Try.prog 75 #[.slice a l.length cap, .int .i64 L] w fun e w' => e = .returned (.int .i64 (szR L (lsz DExpr.sz l))) ∧ Below w.heap.size w w' := laws_szExprS_all l (fun x _ => laws_szExpr_each x) (lo := lo) (hi := hi) (a := a) (cap := cap) L hL0 hL1 hok w hhi hs

def ToOf1 (x : DExpr) : Prop := ∀ {lo hi : Nat} {a6 : Option Addr} {c6 : Nat} (_hsz : x.sz ≤ 1048576) (w : World) (_hhi : hi ≤ w.heap.size) (_hs6 : Sl lo hi w 7 x.fArgs.length (ctE x.fArgs) a6), Calls Try.prog 69 #[.agg #[.int .i64 x.fKind, .int .i64 x.fN, .int .i64 x.fPos, .int .i64 x.fType, .string x.fSymbol, .string x.fName, .slice a6 x.fArgs.length c6]] w fun e w' => ∃ a6r c6r, e = .returned (.agg #[.int .i64 x.fKind, .int .i64 x.fN, .int .i64 x.fPos, .int .i64 x.fType, .string x.fSymbol, .string x.fName, .slice a6r x.fArgs.length c6r]) ∧ OwnR w' (fun y => w.heap.size ≤ y ∧ y < w'.heap.size) 7 x.ct (fun j => [.int .i64 x.fKind, .int .i64 x.fN, .int .i64 x.fPos, .int .i64 x.fType, .string x.fSymbol, .string x.fName, .slice a6r x.fArgs.length c6r].getD j .nilFunc) ∧ Below w.heap.size w w'

def ToOfS (l : List DExpr) : Prop := ∀ {lo hi : Nat} {a : Option Addr} {cap : Nat} (_hsz : lsz DExpr.sz l ≤ 1048576) (w : World) (_hhi : hi ≤ w.heap.size) (_hs : Sl lo hi w 7 l.length (ctE l) a), Calls Try.prog 77 #[.slice a l.length cap] w fun e w' => ∃ a' cap', e = .returned (.slice a' l.length cap') ∧ Own w' (fun x => w.heap.size ≤ x ∧ x < w'.heap.size) (.sl 7 l.length (ctE l)) (.slice a' l.length cap') ∧ Below w.heap.size w w'

set_option maxHeartbeats 1600000 in
set_option maxRecDepth 100000 in
theorem laws_toExpr_of {lo hi : Nat} {a6 : Option Addr} {c6 : Nat} (x : DExpr) (HA : ToOfS x.fArgs) (hsz : x.sz ≤ 1048576) (w : World) (hhi : hi ≤ w.heap.size) (hs6 : Sl lo hi w 7 x.fArgs.length (ctE x.fArgs) a6) :
    Calls Try.prog 69 #[.agg #[.int .i64 x.fKind, .int .i64 x.fN, .int .i64 x.fPos, .int .i64 x.fType, .string x.fSymbol, .string x.fName, .slice a6 x.fArgs.length c6]] w fun e w' => ∃ a6r c6r, e = .returned (.agg #[.int .i64 x.fKind, .int .i64 x.fN, .int .i64 x.fPos, .int .i64 x.fType, .string x.fSymbol, .string x.fName, .slice a6r x.fArgs.length c6r]) ∧ OwnR w' (fun y => w.heap.size ≤ y ∧ y < w'.heap.size) 7 x.ct (fun j => [.int .i64 x.fKind, .int .i64 x.fN, .int .i64 x.fPos, .int .i64 x.fType, .string x.fSymbol, .string x.fName, .slice a6r x.fArgs.length c6r].getD j .nilFunc) ∧ Below w.heap.size w w' := by
  have HS6 := Lib.hid hs6
  clear hs6
  have HW := Lib.hid hsz
  clear hsz
  have HB0 := Lib.hid (((((Below.refl w.heap.size w).alloc (Nat.le_refl _) (.cells #[.int .i64 x.fKind, .int .i64 x.fN, .int .i64 x.fPos, .int .i64 x.fType, .string x.fSymbol, .string x.fName, .slice a6 x.fArgs.length c6] 94)).alloc (by simp <;> omega) (.cells #[.int .i64 0, .int .i64 0, .int .i64 0, .int .i64 0, .string ⟨#[]⟩, .string ⟨#[]⟩, .slice none 0 0] 106))).alloc (by simp <;> omega) (.cells #[.int .i64 0, .int .i64 0, .int .i64 0, .int .i64 0, .string ⟨#[]⟩, .string ⟨#[]⟩, .slice none 0 0] 106))
  have HSZ0 := Lib.hid (show w.heap.size + 2 < (((w.alloc (.cells #[.int .i64 x.fKind, .int .i64 x.fN, .int .i64 x.fPos, .int .i64 x.fType, .string x.fSymbol, .string x.fName, .slice a6 x.fArgs.length c6] 94)).alloc (.cells #[.int .i64 0, .int .i64 0, .int .i64 0, .int .i64 0, .string ⟨#[]⟩, .string ⟨#[]⟩, .slice none 0 0] 106)).alloc (.cells #[.int .i64 0, .int .i64 0, .int .i64 0, .int .i64 0, .string ⟨#[]⟩, .string ⟨#[]⟩, .slice none 0 0] 106)).heap.size by simp)
  have ht0 := fun (w' : World) (hhi : hi ≤ w'.heap.size) (hs : Sl lo hi w' 7 x.fArgs.length (ctE x.fArgs) a6) => HA (cap := c6) (by have h := HW.out; rw [DExpr.sz_eq] at h; omega) w' hhi hs
  have HT0 := Lib.hid ht0
  clear ht0
  go_enter Try.func69, Try.ntmps69
  go_wp2_with fail
  refine (HT0.out _ (Nat.le_trans hhi (Below.size ((by repeat (first | (with_reducible exact HB0.out) | (with_reducible exact Below.refl _ _) | (refine Below.setCell ?_ (by simp <;> omega) _) | (refine Below.alloc ?_ (by simp <;> omega) _)) : Below w.heap.size w _)))) (HS6.out.later ((by repeat (first | (with_reducible exact HB0.out) | (with_reducible exact Below.refl _ _) | (refine Below.setCell ?_ (by simp <;> omega) _) | (refine Below.alloc ?_ (by simp <;> omega) _)) : Below w.heap.size w _)) hhi)).mono ?_
  rintro e w1 ⟨a6r, c6r, rfl, ho1, hb1⟩
  have hsz1 : w.heap.size + 2 < w1.heap.size := Nat.lt_of_lt_of_le (by have h := HSZ0.out; first | (with_reducible exact h) | (simp; done) | (simp; omega) | (simp [World.setCell]; omega)) hb1.size
  have hlo1 : w.heap.size + 3 ≤ w1.heap.size := Nat.le_trans (by first | (with_reducible exact Nat.le_refl _) | (simp; done) | (simp; omega) | (simp [World.setCell]; omega)) hb1.size
  have hbw1 : Below w.heap.size w w1 := Below.trans ((by repeat (first | (with_reducible exact HB0.out) | (with_reducible exact Below.refl _ _) | (refine Below.setCell ?_ (by simp <;> omega) _) | (refine Below.alloc ?_ (by simp <;> omega) _)) : Below w.heap.size w _)) (hb1.mono (Below.size ((by repeat (first | (with_reducible exact HB0.out) | (with_reducible exact Below.refl _ _) | (refine Below.setCell ?_ (by simp <;> omega) _) | (refine Below.alloc ?_ (by simp <;> omega) _)) : Below w.heap.size w _))))
  have HO1_1 := Lib.hid (ho1.sub (F' := fun y => w.heap.size + 3 ≤ y ∧ y < w1.heap.size) (fun y hy => ⟨Nat.le_trans (by first | (with_reducible exact Nat.le_refl _) | (simp; done) | (simp; omega) | (simp [World.setCell]; done) | (simp [World.setCell]; omega)) hy.1, hy.2⟩))
  clear ho1
  have x1_1_0 : w1.cell? ⟨w.heap.size + 1, 0, none⟩ = some (.int .i64 0) := (hb1.cell (p := ⟨w.heap.size + 1, 0, none⟩) (by first | omega | (simp; done) | (simp; omega) | (simp [World.setCell]; omega))).trans (by go_simp)
  have z1_1_0 : w1.frozen? ⟨w.heap.size + 1, 0, none⟩ = false := (hb1.frozen (p := ⟨w.heap.size + 1, 0, none⟩) (by first | omega | (simp; done) | (simp; omega) | (simp [World.setCell]; omega))).trans (by go_simp)
  have x1_1_1 : w1.cell? ⟨w.heap.size + 1, 1, none⟩ = some (.int .i64 0) := (hb1.cell (p := ⟨w.heap.size + 1, 1, none⟩) (by first | omega | (simp; done) | (simp; omega) | (simp [World.setCell]; omega))).trans (by go_simp)
  have z1_1_1 : w1.frozen? ⟨w.heap.size + 1, 1, none⟩ = false := (hb1.frozen (p := ⟨w.heap.size + 1, 1, none⟩) (by first | omega | (simp; done) | (simp; omega) | (simp [World.setCell]; omega))).trans (by go_simp)
  have x1_1_2 : w1.cell? ⟨w.heap.size + 1, 2, none⟩ = some (.int .i64 0) := (hb1.cell (p := ⟨w.heap.size + 1, 2, none⟩) (by first | omega | (simp; done) | (simp; omega) | (simp [World.setCell]; omega))).trans (by go_simp)
  have z1_1_2 : w1.frozen? ⟨w.heap.size + 1, 2, none⟩ = false := (hb1.frozen (p := ⟨w.heap.size + 1, 2, none⟩) (by first | omega | (simp; done) | (simp; omega) | (simp [World.setCell]; omega))).trans (by go_simp)
  have x1_1_3 : w1.cell? ⟨w.heap.size + 1, 3, none⟩ = some (.int .i64 0) := (hb1.cell (p := ⟨w.heap.size + 1, 3, none⟩) (by first | omega | (simp; done) | (simp; omega) | (simp [World.setCell]; omega))).trans (by go_simp)
  have z1_1_3 : w1.frozen? ⟨w.heap.size + 1, 3, none⟩ = false := (hb1.frozen (p := ⟨w.heap.size + 1, 3, none⟩) (by first | omega | (simp; done) | (simp; omega) | (simp [World.setCell]; omega))).trans (by go_simp)
  have x1_1_4 : w1.cell? ⟨w.heap.size + 1, 4, none⟩ = some (.string ⟨#[]⟩) := (hb1.cell (p := ⟨w.heap.size + 1, 4, none⟩) (by first | omega | (simp; done) | (simp; omega) | (simp [World.setCell]; omega))).trans (by go_simp)
  have z1_1_4 : w1.frozen? ⟨w.heap.size + 1, 4, none⟩ = false := (hb1.frozen (p := ⟨w.heap.size + 1, 4, none⟩) (by first | omega | (simp; done) | (simp; omega) | (simp [World.setCell]; omega))).trans (by go_simp)
  have x1_1_5 : w1.cell? ⟨w.heap.size + 1, 5, none⟩ = some (.string ⟨#[]⟩) := (hb1.cell (p := ⟨w.heap.size + 1, 5, none⟩) (by first | omega | (simp; done) | (simp; omega) | (simp [World.setCell]; omega))).trans (by go_simp)
  have z1_1_5 : w1.frozen? ⟨w.heap.size + 1, 5, none⟩ = false := (hb1.frozen (p := ⟨w.heap.size + 1, 5, none⟩) (by first | omega | (simp; done) | (simp; omega) | (simp [World.setCell]; omega))).trans (by go_simp)
  have x1_1_6 : w1.cell? ⟨w.heap.size + 1, 6, none⟩ = some (.slice none 0 0) := (hb1.cell (p := ⟨w.heap.size + 1, 6, none⟩) (by first | omega | (simp; done) | (simp; omega) | (simp [World.setCell]; omega))).trans (by go_simp)
  have z1_1_6 : w1.frozen? ⟨w.heap.size + 1, 6, none⟩ = false := (hb1.frozen (p := ⟨w.heap.size + 1, 6, none⟩) (by first | omega | (simp; done) | (simp; omega) | (simp [World.setCell]; omega))).trans (by go_simp)
  have x1_2_0 : w1.cell? ⟨w.heap.size + 2, 0, none⟩ = some (.int .i64 x.fKind) := (hb1.cell (p := ⟨w.heap.size + 2, 0, none⟩) (by first | omega | (simp; done) | (simp; omega) | (simp [World.setCell]; omega))).trans (by go_simp)
  have z1_2_0 : w1.frozen? ⟨w.heap.size + 2, 0, none⟩ = false := (hb1.frozen (p := ⟨w.heap.size + 2, 0, none⟩) (by first | omega | (simp; done) | (simp; omega) | (simp [World.setCell]; omega))).trans (by go_simp)
  have x1_2_1 : w1.cell? ⟨w.heap.size + 2, 1, none⟩ = some (.int .i64 x.fN) := (hb1.cell (p := ⟨w.heap.size + 2, 1, none⟩) (by first | omega | (simp; done) | (simp; omega) | (simp [World.setCell]; omega))).trans (by go_simp)
  have z1_2_1 : w1.frozen? ⟨w.heap.size + 2, 1, none⟩ = false := (hb1.frozen (p := ⟨w.heap.size + 2, 1, none⟩) (by first | omega | (simp; done) | (simp; omega) | (simp [World.setCell]; omega))).trans (by go_simp)
  have x1_2_2 : w1.cell? ⟨w.heap.size + 2, 2, none⟩ = some (.int .i64 x.fPos) := (hb1.cell (p := ⟨w.heap.size + 2, 2, none⟩) (by first | omega | (simp; done) | (simp; omega) | (simp [World.setCell]; omega))).trans (by go_simp)
  have z1_2_2 : w1.frozen? ⟨w.heap.size + 2, 2, none⟩ = false := (hb1.frozen (p := ⟨w.heap.size + 2, 2, none⟩) (by first | omega | (simp; done) | (simp; omega) | (simp [World.setCell]; omega))).trans (by go_simp)
  have x1_2_3 : w1.cell? ⟨w.heap.size + 2, 3, none⟩ = some (.int .i64 x.fType) := (hb1.cell (p := ⟨w.heap.size + 2, 3, none⟩) (by first | omega | (simp; done) | (simp; omega) | (simp [World.setCell]; omega))).trans (by go_simp)
  have z1_2_3 : w1.frozen? ⟨w.heap.size + 2, 3, none⟩ = false := (hb1.frozen (p := ⟨w.heap.size + 2, 3, none⟩) (by first | omega | (simp; done) | (simp; omega) | (simp [World.setCell]; omega))).trans (by go_simp)
  have x1_2_4 : w1.cell? ⟨w.heap.size + 2, 4, none⟩ = some (.string x.fSymbol) := (hb1.cell (p := ⟨w.heap.size + 2, 4, none⟩) (by first | omega | (simp; done) | (simp; omega) | (simp [World.setCell]; omega))).trans (by go_simp)
  have z1_2_4 : w1.frozen? ⟨w.heap.size + 2, 4, none⟩ = false := (hb1.frozen (p := ⟨w.heap.size + 2, 4, none⟩) (by first | omega | (simp; done) | (simp; omega) | (simp [World.setCell]; omega))).trans (by go_simp)
  have x1_2_5 : w1.cell? ⟨w.heap.size + 2, 5, none⟩ = some (.string x.fName) := (hb1.cell (p := ⟨w.heap.size + 2, 5, none⟩) (by first | omega | (simp; done) | (simp; omega) | (simp [World.setCell]; omega))).trans (by go_simp)
  have z1_2_5 : w1.frozen? ⟨w.heap.size + 2, 5, none⟩ = false := (hb1.frozen (p := ⟨w.heap.size + 2, 5, none⟩) (by first | omega | (simp; done) | (simp; omega) | (simp [World.setCell]; omega))).trans (by go_simp)
  have x1_2_6 : w1.cell? ⟨w.heap.size + 2, 6, none⟩ = some (.slice none 0 0) := (hb1.cell (p := ⟨w.heap.size + 2, 6, none⟩) (by first | omega | (simp; done) | (simp; omega) | (simp [World.setCell]; omega))).trans (by go_simp)
  have z1_2_6 : w1.frozen? ⟨w.heap.size + 2, 6, none⟩ = false := (hb1.frozen (p := ⟨w.heap.size + 2, 6, none⟩) (by first | omega | (simp; done) | (simp; omega) | (simp [World.setCell]; omega))).trans (by go_simp)
  have HG1 := Lib.hid (show w1.heap[w.heap.size + 1]? = some (.cells #[.int .i64 0, .int .i64 0, .int .i64 0, .int .i64 0, .string ⟨#[]⟩, .string ⟨#[]⟩, .slice none 0 0] 106) from (hb1.block _ (by first | omega | (simp; done) | (simp; omega) | (simp [World.setCell]; omega))).trans (by (repeat (refine blk_other (by simp) ?_)); exact blk_alloc (by simp) (blk_new (by simp))))
  have HB1 := Lib.hid hbw1
  have HSZ1 := Lib.hid hsz1
  have HLO1 := Lib.hid hlo1
  clear hb1 hbw1 hsz1 hlo1
  go_wp2
  refine bodyPost_ret (v := .agg #[.int .i64 x.fKind, .int .i64 x.fN, .int .i64 x.fPos, .int .i64 x.fType, .string x.fSymbol, .string x.fName, .slice a6r x.fArgs.length c6r]) (results_cell_row Try.results69 _ _ (w.heap.size + 1) 106 #[.int .i64 x.fKind, .int .i64 x.fN, .int .i64 x.fPos, .int .i64 x.fType, .string x.fSymbol, .string x.fName, .slice a6r x.fArgs.length c6r] (0, 0) _ rfl (by refine Eq.trans (blk_set (cs := #[.int .i64 x.fKind, .int .i64 x.fN, .int .i64 x.fPos, .int .i64 x.fType, .string x.fSymbol, .string x.fName, .slice none 0 0]) (t := 106) (fr := (0, 0)) ?_) rfl; refine Eq.trans (blk_set (cs := #[.int .i64 x.fKind, .int .i64 x.fN, .int .i64 x.fPos, .int .i64 x.fType, .string x.fSymbol, .string ⟨#[]⟩, .slice none 0 0]) (t := 106) (fr := (0, 0)) ?_) rfl; refine Eq.trans (blk_set (cs := #[.int .i64 x.fKind, .int .i64 x.fN, .int .i64 x.fPos, .int .i64 x.fType, .string ⟨#[]⟩, .string ⟨#[]⟩, .slice none 0 0]) (t := 106) (fr := (0, 0)) ?_) rfl; refine Eq.trans (blk_set (cs := #[.int .i64 x.fKind, .int .i64 x.fN, .int .i64 x.fPos, .int .i64 0, .string ⟨#[]⟩, .string ⟨#[]⟩, .slice none 0 0]) (t := 106) (fr := (0, 0)) ?_) rfl; refine Eq.trans (blk_set (cs := #[.int .i64 x.fKind, .int .i64 x.fN, .int .i64 0, .int .i64 0, .string ⟨#[]⟩, .string ⟨#[]⟩, .slice none 0 0]) (t := 106) (fr := (0, 0)) ?_) rfl; refine Eq.trans (blk_set (cs := #[.int .i64 x.fKind, .int .i64 0, .int .i64 0, .int .i64 0, .string ⟨#[]⟩, .string ⟨#[]⟩, .slice none 0 0]) (t := 106) (fr := (0, 0)) ?_) rfl; refine Eq.trans (blk_set (cs := #[.int .i64 0, .int .i64 0, .int .i64 0, .int .i64 0, .string ⟨#[]⟩, .string ⟨#[]⟩, .slice none 0 0]) (t := 106) (fr := (0, 0)) ?_) rfl; repeat (first | (with_reducible exact HG1.out) | (refine blk_other (by simp) ?_))) Try.underlying106 rfl rfl) rfl ⟨a6r, c6r, rfl, ?_, (by repeat (first | (with_reducible exact HB1.out) | (with_reducible exact Below.refl _ _) | (refine Below.setCell ?_ (by simp <;> omega) _) | (refine Below.alloc ?_ (by simp <;> omega) _)) : Below w.heap.size w _)⟩
  have ho1 := HO1_1.out
  clear HO1_1
  have q1 := HLO1.out
  skip
  have hkk : ∀ w9 : World, Kept (fun y => w.heap.size + 3 ≤ y) w1 w9 → OwnR w9 (fun y => w.heap.size ≤ y ∧ y < w1.heap.size) 7 x.ct (fun j => [.int .i64 x.fKind, .int .i64 x.fN, .int .i64 x.fPos, .int .i64 x.fType, .string x.fSymbol, .string x.fName, .slice a6r x.fArgs.length c6r].getD j .nilFunc) := fun w9 hk => by
    refine OwnR.append (F1 := fun _ => False) (F2 := fun y => w.heap.size + 3 ≤ y ∧ y < w1.heap.size) (m := 6) (n := 1) ?_ ?_ (by intro y h1 h2; first | exact h1.elim | exact h2.elim | (have h3 := h1.2; have h4 := h2.1; omega)) (by intro y h1; first | exact h1.elim | (have h3 := h1.1; have h4 := h1.2; exact ⟨by omega, by omega⟩)) (by intro y h1; first | exact h1.elim | (have h3 := h1.1; have h4 := h1.2; exact ⟨by omega, by omega⟩))
    · skip
      refine OwnR.lits (F := fun _ => False) fun j hj => ?_
      match j, hj with
      | 0, _ => rfl
      | 1, _ => rfl
      | 2, _ => rfl
      | 3, _ => rfl
      | 4, _ => rfl
      | 5, _ => rfl
    · skip
      exact OwnR.one (ho1.kept (hk.sub fun y hy => by have h := hy.1; omega))
  refine (hkk _ (by repeat (first | (with_reducible exact Kept.refl) | (refine Kept.put ?_ (by intro h1; dsimp only at h1; omega))))).sub (fun y hy => ⟨hy.1, Nat.lt_of_lt_of_le hy.2 (by simp)⟩)

theorem laws_toExpr_all (x : DExpr) (HA : ToOfS x.fArgs) : ToOf1 x := by
  intro lo hi a6 c6 hsz w hhi hs6
  exact laws_toExpr_of x HA (lo := lo) (hi := hi) (a6 := a6) (c6 := c6) hsz w hhi hs6

theorem info_Expr : (Try.prog.info? 106).map (fun i => (i.zero, i.size, i.bytes)) = some (some (.agg #[.int .i64 0, .int .i64 0, .int .i64 0, .int .i64 0, .string ⟨#[]⟩, .string ⟨#[]⟩, .slice none 0 0]), 7, 88) := by kernel_rfl

set_option maxHeartbeats 1600000 in
set_option maxRecDepth 100000 in
theorem laws_toExprS_of {lo hi : Nat} {a : Option Addr} {cap : Nat} (l : List DExpr) (HE : ∀ x ∈ l, ToOf1 x) (hsz : lsz DExpr.sz l ≤ 1048576) (w : World) (hhi : hi ≤ w.heap.size) (hs : Sl lo hi w 7 l.length (ctE l) a) :
    Calls Try.prog 77 #[.slice a l.length cap] w fun e w' => ∃ a' cap', e = .returned (.slice a' l.length cap') ∧ Own w' (fun x => w.heap.size ≤ x ∧ x < w'.heap.size) (.sl 7 l.length (ctE l)) (.slice a' l.length cap') ∧ Below w.heap.size w w' := by
  have HEH := Lib.hid HE
  clear HE
  have HS := Lib.hid hs
  clear hs
  have HW := Lib.hid hsz
  have hn : l.length ≤ 1048576 := by unfold lsz at hsz; omega
  clear hsz
  obtain ⟨i0, hi', hz0, hz1, hz2⟩ := info_parts info_Expr
  go_enter Try.func77, Try.ntmps77
  go_wp2_with (at_make; refine wpList_make_full _ rfl (.tmp 6) (.tmp 6) 104 rfl w.heap.size 106 i0 (.agg #[.int .i64 0, .int .i64 0, .int .i64 0, .int .i64 0, .string ⟨#[]⟩, .string ⟨#[]⟩, .slice none 0 0]) 7 Try.underlying104 hi' hz0 hz1 .i64 .i64 (l.length : Int) (l.length : Int) l.length rfl rfl rfl rfl (by rw [hz2]; omega) (by unfold maxLen; omega) (Nat.le_refl _) ?_; intro w1 hown hgrow)
  have hb1 : Below w.heap.size w w1 := (Below.refl _ w).grown hgrow (Nat.le_refl _) (fun k hk => by cases hk)
  clear hgrow
  have hblk := (ownsRow_block hown).1
  go_loopw [4] (fun i wr => ∃ (k : Nat) (xs : List Value), k ≤ l.length ∧ i = .int .i64 (k : Int) ∧ wr.ownsRow w.heap.size 106 7 (.slice (some ⟨w.heap.size, 0, none⟩) l.length l.length) l.length xs ∧ Filled w.heap.size wr 7 k (ctE l) xs ∧ Below w.heap.size w wr) (fun i _ => l.length - (intOf i).toNat)
  case atStart => exact ⟨0, _, Nat.zero_le _, rfl, hown, Filled.zero hblk, hb1⟩
  case round =>
    clear hown hb1 hblk
    obtain ⟨k, xs, hk, rfl, hown, hfill, hb⟩ := hrel
    have hblk := ownsRow_block hown
    have HO := Lib.hid hown
    have HF := Lib.hid hfill
    have HB := Lib.hid hb
    clear hown hfill
    by_cases hlt : k < l.length
    · have hE : ToOf1 (l.getD k default) := @Hid.out _ HEH _ (getD_mem hlt)
      have hhr : hi ≤ wr.heap.size := Nat.le_trans hhi hb.size
      obtain ⟨b, off, rfl, hlo, hhi', hc⟩ := (HS.out.later (hb.mono hhi) (Nat.le_refl _)).at k hlt
      obtain ⟨a6, c6, hc0_, hc1_, hc2_, hc3_, hc4_, hc5_, hc6_, hs6⟩ := DExpr.open (by rw [ctE_at hlt] at hc; exact hc)
      have hkn : k * 7 + 7 ≤ l.length * 7 := by omega
      have d0 := hblk.2.2.1 (k * 7) (by omega)
      have z0 := hblk.2.2.2 (k * 7)
      have d1 := hblk.2.2.1 (k * 7 + 1) (by omega)
      have z1 := hblk.2.2.2 (k * 7 + 1)
      have d2 := hblk.2.2.1 (k * 7 + 2) (by omega)
      have z2 := hblk.2.2.2 (k * 7 + 2)
      have d3 := hblk.2.2.1 (k * 7 + 3) (by omega)
      have z3 := hblk.2.2.2 (k * 7 + 3)
      have d4 := hblk.2.2.1 (k * 7 + 4) (by omega)
      have z4 := hblk.2.2.2 (k * 7 + 4)
      have d5 := hblk.2.2.1 (k * 7 + 5) (by omega)
      have z5 := hblk.2.2.2 (k * 7 + 5)
      have d6 := hblk.2.2.1 (k * 7 + 6) (by omega)
      have z6 := hblk.2.2.2 (k * 7 + 6)
      have hsz := hblk.1
      clear hblk hb hc
      have hxs := szle_at (f := DExpr.sz) l k hlt
      generalize hx : l.getD k default = x at *
      have HX := Lib.hid hx
      clear hx
      generalize xs.getD (k * 7) Value.nilFunc = v0 at d0
      generalize xs.getD (k * 7 + 1) Value.nilFunc = v1 at d1
      generalize xs.getD (k * 7 + 2) Value.nilFunc = v2 at d2
      generalize xs.getD (k * 7 + 3) Value.nilFunc = v3 at d3
      generalize xs.getD (k * 7 + 4) Value.nilFunc = v4 at d4
      generalize xs.getD (k * 7 + 5) Value.nilFunc = v5 at d5
      generalize xs.getD (k * 7 + 6) Value.nilFunc = v6 at d6
      have HT := Lib.hid (hE (c6 := c6) (by have h1 := HW.out; omega) wr hhr hs6)
      clear hxs hs6
      go_wp2_with fail
      refine HT.out.mono ?_
      rintro e w1 ⟨a6r, c6r, rfl, ho1, hb1⟩
      have HOR := Lib.hid ho1
      clear ho1
      have e0 := (hb1.cell (p := ⟨w.heap.size, k * 7, none⟩) hsz).trans d0
      have y0 := (hb1.frozen (p := ⟨w.heap.size, k * 7, none⟩) hsz).trans z0
      have e1 := (hb1.cell (p := ⟨w.heap.size, k * 7 + 1, none⟩) hsz).trans d1
      have y1 := (hb1.frozen (p := ⟨w.heap.size, k * 7 + 1, none⟩) hsz).trans z1
      have e2 := (hb1.cell (p := ⟨w.heap.size, k * 7 + 2, none⟩) hsz).trans d2
      have y2 := (hb1.frozen (p := ⟨w.heap.size, k * 7 + 2, none⟩) hsz).trans z2
      have e3 := (hb1.cell (p := ⟨w.heap.size, k * 7 + 3, none⟩) hsz).trans d3
      have y3 := (hb1.frozen (p := ⟨w.heap.size, k * 7 + 3, none⟩) hsz).trans z3
      have e4 := (hb1.cell (p := ⟨w.heap.size, k * 7 + 4, none⟩) hsz).trans d4
      have y4 := (hb1.frozen (p := ⟨w.heap.size, k * 7 + 4, none⟩) hsz).trans z4
      have e5 := (hb1.cell (p := ⟨w.heap.size, k * 7 + 5, none⟩) hsz).trans d5
      have y5 := (hb1.frozen (p := ⟨w.heap.size, k * 7 + 5, none⟩) hsz).trans z5
      have e6 := (hb1.cell (p := ⟨w.heap.size, k * 7 + 6, none⟩) hsz).trans d6
      have y6 := (hb1.frozen (p := ⟨w.heap.size, k * 7 + 6, none⟩) hsz).trans z6
      have HB1 := Lib.hid hb1
      clear hb1 d0 z0 d1 z1 d2 z2 d3 z3 d4 z4 d5 z5 d6 z6
      go_wp2
      go_roundw
      case rel =>
        have hst := HF.out.stored HB1.out hsz (ownsRow_below HO.out HB1.out) hlt [.int .i64 x.fKind, .int .i64 x.fN, .int .i64 x.fPos, .int .i64 x.fType, .string x.fSymbol, .string x.fName, .slice a6r x.fArgs.length c6r] rfl ((by rw [ctE_at hlt, HX.out]; exact HOR.out))
        exact ⟨k + 1, _, by omega, by go_num, hst.1, hst.2, setCells_below (Nat.le_refl _) [_, _, _, _, _, _, _] _ (HB.out.trans (HB1.out.mono HB.out.size))⟩
      case measure => simp [intOf]; omega
    · obtain rfl : k = l.length := by omega
      go_wp2
      go_ret
      exact ⟨_, _, rfl, HF.out.own hblk.1 hblk.2.2.1 hblk.2.2.2, hb⟩

theorem laws_toExprS_all (l : List DExpr) (HE : ∀ x ∈ l, ToOf1 x) : ToOfS l := by
  intro lo hi a cap hsz w hhi hs
  exact laws_toExprS_of l HE (lo := lo) (hi := hi) (a := a) (cap := cap) hsz w hhi hs

theorem laws_toExpr_each : ∀ x : DExpr, ToOf1 x := DExpr.ind fun x ih => laws_toExpr_all x (laws_toExprS_all x.fArgs ih)

theorem laws_toExpr {lo hi : Nat} {a6 : Option Addr} {c6 : Nat} (x : DExpr) (hsz : x.sz ≤ 1048576) (w : World) (hhi : hi ≤ w.heap.size) (hs6 : Sl lo hi w 7 x.fArgs.length (ctE x.fArgs) a6) :
    Calls Try.prog 69 #[.agg #[.int .i64 x.fKind, .int .i64 x.fN, .int .i64 x.fPos, .int .i64 x.fType, .string x.fSymbol, .string x.fName, .slice a6 x.fArgs.length c6]] w fun e w' => ∃ a6r c6r, e = .returned (.agg #[.int .i64 x.fKind, .int .i64 x.fN, .int .i64 x.fPos, .int .i64 x.fType, .string x.fSymbol, .string x.fName, .slice a6r x.fArgs.length c6r]) ∧ OwnR w' (fun y => w.heap.size ≤ y ∧ y < w'.heap.size) 7 x.ct (fun j => [.int .i64 x.fKind, .int .i64 x.fN, .int .i64 x.fPos, .int .i64 x.fType, .string x.fSymbol, .string x.fName, .slice a6r x.fArgs.length c6r].getD j .nilFunc) ∧ Below w.heap.size w w' := laws_toExpr_each x (lo := lo) (hi := hi) (a6 := a6) (c6 := c6) hsz w hhi hs6

theorem laws_toExprS {lo hi : Nat} {a : Option Addr} {cap : Nat} (l : List DExpr) (hsz : lsz DExpr.sz l ≤ 1048576) (w : World) (hhi : hi ≤ w.heap.size) (hs : Sl lo hi w 7 l.length (ctE l) a) :
    Calls Try.prog 77 #[.slice a l.length cap] w fun e w' => ∃ a' cap', e = .returned (.slice a' l.length cap') ∧ Own w' (fun x => w.heap.size ≤ x ∧ x < w'.heap.size) (.sl 7 l.length (ctE l)) (.slice a' l.length cap') ∧ Below w.heap.size w w' := laws_toExprS_all l (fun x _ => laws_toExpr_each x) (lo := lo) (hi := hi) (a := a) (cap := cap) hsz w hhi hs

def EqOf1 (x : DExpr) : Prop := ∀ {lo hi lo2 hi2 : Nat} {a6 : Option Addr} {c6 : Nat} {a6q : Option Addr} {c6q : Nat} (_hsz : x.sz ≤ 1048576) (w : World) (_hhi : hi ≤ w.heap.size) (_hhi2 : hi2 ≤ w.heap.size) (_hs6 : Sl lo hi w 7 x.fArgs.length (ctE x.fArgs) a6) (_hs6q : Sl lo2 hi2 w 7 x.fArgs.length (ctE x.fArgs) a6q), Calls Try.prog 73 #[.agg #[.int .i64 x.fKind, .int .i64 x.fN, .int .i64 x.fPos, .int .i64 x.fType, .string x.fSymbol, .string x.fName, .slice a6 x.fArgs.length c6], .agg #[.int .i64 x.fKind, .int .i64 x.fN, .int .i64 x.fPos, .int .i64 x.fType, .string x.fSymbol, .string x.fName, .slice a6q x.fArgs.length c6q]] w fun e w' => e = .returned (.bool true) ∧ Below w.heap.size w w'

def EqOfS (l : List DExpr) : Prop := ∀ {lo hi lo2 hi2 : Nat} {a a2 : Option Addr} {cap cap2 : Nat} (_hsz : lsz DExpr.sz l ≤ 1048576) (w : World) (_hhi : hi ≤ w.heap.size) (_hhi2 : hi2 ≤ w.heap.size) (_hs : Sl lo hi w 7 l.length (ctE l) a) (_hs2 : Sl lo2 hi2 w 7 l.length (ctE l) a2), Calls Try.prog 79 #[.slice a l.length cap, .slice a2 l.length cap2] w fun e w' => e = .returned (.bool true) ∧ Below w.heap.size w w'

set_option maxHeartbeats 1600000 in
set_option maxRecDepth 100000 in
theorem laws_eqExpr_of {lo hi lo2 hi2 : Nat} {a6 : Option Addr} {c6 : Nat} {a6q : Option Addr} {c6q : Nat} (x : DExpr) (HA : EqOfS x.fArgs) (hsz : x.sz ≤ 1048576) (w : World) (hhi : hi ≤ w.heap.size) (hhi2 : hi2 ≤ w.heap.size) (hs6 : Sl lo hi w 7 x.fArgs.length (ctE x.fArgs) a6) (hs6q : Sl lo2 hi2 w 7 x.fArgs.length (ctE x.fArgs) a6q) :
    Calls Try.prog 73 #[.agg #[.int .i64 x.fKind, .int .i64 x.fN, .int .i64 x.fPos, .int .i64 x.fType, .string x.fSymbol, .string x.fName, .slice a6 x.fArgs.length c6], .agg #[.int .i64 x.fKind, .int .i64 x.fN, .int .i64 x.fPos, .int .i64 x.fType, .string x.fSymbol, .string x.fName, .slice a6q x.fArgs.length c6q]] w fun e w' => e = .returned (.bool true) ∧ Below w.heap.size w w' := by
  have HS6 := Lib.hid hs6
  have HS6q := Lib.hid hs6q
  clear hs6 hs6q
  have HW := Lib.hid hsz
  clear hsz
  have HB0 := Lib.hid (((Below.refl w.heap.size w).alloc (Nat.le_refl _) (.cells #[.int .i64 x.fKind, .int .i64 x.fN, .int .i64 x.fPos, .int .i64 x.fType, .string x.fSymbol, .string x.fName, .slice a6 x.fArgs.length c6] 106)).alloc (by simp <;> omega) (.cells #[.int .i64 x.fKind, .int .i64 x.fN, .int .i64 x.fPos, .int .i64 x.fType, .string x.fSymbol, .string x.fName, .slice a6q x.fArgs.length c6q] 106))
  have ht0 := fun (w' : World) (hhi : hi ≤ w'.heap.size) (hhi2 : hi2 ≤ w'.heap.size) (hs : Sl lo hi w' 7 x.fArgs.length (ctE x.fArgs) a6) (hs2 : Sl lo2 hi2 w' 7 x.fArgs.length (ctE x.fArgs) a6q) => HA (cap := c6) (cap2 := c6q) (by have h := HW.out; rw [DExpr.sz_eq] at h; omega) w' hhi hhi2 hs hs2
  have HT0 := Lib.hid ht0
  clear ht0
  go_enter Try.func73, Try.ntmps73
  go_wp2_with fail
  refine (HT0.out _ (Nat.le_trans hhi (HB0.out.size)) (Nat.le_trans hhi2 (HB0.out.size)) (HS6.out.later HB0.out hhi) (HS6q.out.later HB0.out hhi2)).mono ?_
  rintro e w1 ⟨rfl, hb1⟩
  have HB1 := Lib.hid (HB0.out.trans (hb1.mono HB0.out.size))
  clear hb1
  go_wp2
  go_ret
  exact ⟨rfl, HB1.out⟩

theorem laws_eqExpr_all (x : DExpr) (HA : EqOfS x.fArgs) : EqOf1 x := by
  intro lo hi lo2 hi2 a6 c6 a6q c6q hsz w hhi hhi2 hs6 hs6q
  exact laws_eqExpr_of x HA (lo := lo) (hi := hi) (lo2 := lo2) (hi2 := hi2) (a6 := a6) (c6 := c6) (a6q := a6q) (c6q := c6q) hsz w hhi hhi2 hs6 hs6q

set_option maxHeartbeats 1600000 in
set_option maxRecDepth 100000 in
theorem laws_eqExprS_of {lo hi lo2 hi2 : Nat} {a a2 : Option Addr} {cap cap2 : Nat} (l : List DExpr) (HE : ∀ x ∈ l, EqOf1 x) (hsz : lsz DExpr.sz l ≤ 1048576) (w : World) (hhi : hi ≤ w.heap.size) (hhi2 : hi2 ≤ w.heap.size) (hs : Sl lo hi w 7 l.length (ctE l) a) (hs2 : Sl lo2 hi2 w 7 l.length (ctE l) a2) :
    Calls Try.prog 79 #[.slice a l.length cap, .slice a2 l.length cap2] w fun e w' => e = .returned (.bool true) ∧ Below w.heap.size w w' := by
  have HEH := Lib.hid HE
  clear HE
  have HS := Lib.hid hs
  have HS2 := Lib.hid hs2
  have HW := Lib.hid hsz
  have hn : l.length ≤ 1048576 := by unfold lsz at hsz; omega
  clear hs hs2 hsz
  go_enter Try.func79, Try.ntmps79
  go_wp2
  go_loopw [5] (fun i wr => ∃ k : Nat, k ≤ l.length ∧ i = .int .i64 (k : Int) ∧ Below w.heap.size w wr) (fun i _ => l.length - (intOf i).toNat)
  case atStart => exact ⟨0, Nat.zero_le _, rfl, Below.refl _ _⟩
  case round =>
    obtain ⟨k, hk, rfl, hb⟩ := hrel
    have HB := Lib.hid hb
    by_cases hlt : k < l.length
    · have hE : EqOf1 (l.getD k default) := @Hid.out _ HEH _ (getD_mem hlt)
      have hhr : hi ≤ wr.heap.size := Nat.le_trans hhi hb.size
      have hhr2 : hi2 ≤ wr.heap.size := Nat.le_trans hhi2 hb.size
      obtain ⟨b, off, rfl, _, hhi', hc⟩ := (HS.out.later (hb.mono hhi) (Nat.le_refl _)).at k hlt
      obtain ⟨b2, off2, rfl, _, hhi2', hc2⟩ := (HS2.out.later (hb.mono hhi2) (Nat.le_refl _)).at k hlt
      obtain ⟨a6, c6, hc0_, hc1_, hc2_, hc3_, hc4_, hc5_, hc6_, hs6⟩ := DExpr.open (by rw [ctE_at hlt] at hc; exact hc)
      obtain ⟨a6q, c6q, hc0q_, hc1q_, hc2q_, hc3q_, hc4q_, hc5q_, hc6q_, hs6q⟩ := DExpr.open (by rw [ctE_at hlt] at hc2; exact hc2)
      have hxs := szle_at (f := DExpr.sz) l k hlt
      clear hb hc hc2
      generalize l.getD k default = x at *
      have HT := Lib.hid (fun (w' : World) (hw : Below wr.heap.size wr w') => hE (c6 := c6) (c6q := c6q) (by have h1 := HW.out; omega) w' (Nat.le_trans hhr hw.size) (Nat.le_trans hhr2 hw.size) (hs6.later hw hhr) (hs6q.later hw hhr2))
      clear hxs hs6 hs6q
      go_wp2_with fail
      go_region_with ((go_at_call 73; refine (HT.out _ (by first | exact Below.refl _ _ | exact (Below.refl _ _).drew | exact below_drewN (Below.refl _ _) _)).mono ?_; rintro e w1 ⟨rfl, hb1⟩))
      all_goals
        go_wp2
        go_roundw
        case rel =>
          refine ⟨k + 1, by omega, by go_num, ?_⟩
          have hb2 : Below wr.heap.size wr w1 := ⟨hb1.os, hb1.tape, hb1.output, hb1.size, hb1.block⟩
          repeat (first | exact HB.out.trans (hb2.mono HB.out.size) | apply Below.drew | refine below_drewN ?_ _)
        case measure => simp [intOf]; omega
    · go_wp2
      go_ret
      exact ⟨rfl, HB.out⟩

theorem laws_eqExprS_all (l : List DExpr) (HE : ∀ x ∈ l, EqOf1 x) : EqOfS l := by
  intro lo hi lo2 hi2 a a2 cap cap2 hsz w hhi hhi2 hs hs2
  exact laws_eqExprS_of l HE (lo := lo) (hi := hi) (lo2 := lo2) (hi2 := hi2) (a := a) (a2 := a2) (cap := cap) (cap2 := cap2) hsz w hhi hhi2 hs hs2

theorem laws_eqExpr_each : ∀ x : DExpr, EqOf1 x := DExpr.ind fun x ih => laws_eqExpr_all x (laws_eqExprS_all x.fArgs ih)

theorem laws_eqExpr {lo hi lo2 hi2 : Nat} {a6 : Option Addr} {c6 : Nat} {a6q : Option Addr} {c6q : Nat} (x : DExpr) (hsz : x.sz ≤ 1048576) (w : World) (hhi : hi ≤ w.heap.size) (hhi2 : hi2 ≤ w.heap.size) (hs6 : Sl lo hi w 7 x.fArgs.length (ctE x.fArgs) a6) (hs6q : Sl lo2 hi2 w 7 x.fArgs.length (ctE x.fArgs) a6q) :
    Calls Try.prog 73 #[.agg #[.int .i64 x.fKind, .int .i64 x.fN, .int .i64 x.fPos, .int .i64 x.fType, .string x.fSymbol, .string x.fName, .slice a6 x.fArgs.length c6], .agg #[.int .i64 x.fKind, .int .i64 x.fN, .int .i64 x.fPos, .int .i64 x.fType, .string x.fSymbol, .string x.fName, .slice a6q x.fArgs.length c6q]] w fun e w' => e = .returned (.bool true) ∧ Below w.heap.size w w' := laws_eqExpr_each x (lo := lo) (hi := hi) (lo2 := lo2) (hi2 := hi2) (a6 := a6) (c6 := c6) (a6q := a6q) (c6q := c6q) hsz w hhi hhi2 hs6 hs6q

theorem laws_eqExprS {lo hi lo2 hi2 : Nat} {a a2 : Option Addr} {cap cap2 : Nat} (l : List DExpr) (hsz : lsz DExpr.sz l ≤ 1048576) (w : World) (hhi : hi ≤ w.heap.size) (hhi2 : hi2 ≤ w.heap.size) (hs : Sl lo hi w 7 l.length (ctE l) a) (hs2 : Sl lo2 hi2 w 7 l.length (ctE l) a2) :
    Calls Try.prog 79 #[.slice a l.length cap, .slice a2 l.length cap2] w fun e w' => e = .returned (.bool true) ∧ Below w.heap.size w w' := laws_eqExprS_all l (fun x _ => laws_eqExpr_each x) (lo := lo) (hi := hi) (lo2 := lo2) (hi2 := hi2) (a := a) (a2 := a2) (cap := cap) (cap2 := cap2) hsz w hhi hhi2 hs hs2
end Go.Proofs.Yticchgfhmfjknaa
