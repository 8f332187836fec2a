/-
  Stores: what makes one valid; the keys of cells.
-/
import Derived.Test.YtjlcbbaicengbaaDoorTStore
import Derived.Test.YtjlcbbaicengbaaDoorNum
import Derived.Test.YtjlcbbaicengbaaDoorSp
import Derived.Test.YtjlcbbaicengbaaDoorIdx
import Derived.Test.YtjlcbbaicengbaaDoorInR
import Derived.Test.YtjlcbbaicengbaaDoorMapF
import Derived.Lib.ItoaLen
namespace Go.Proofs.YtjlcbbaicengbaaDoor
open Go.ChangeShapes Go.WideShapes Go.ChangeAt Go.RowKit Go.Deep
open Go.Lib
open Go.Proofs.YtjlcbbaicengbaaDoor.Sp Go.Proofs.YtjlcbbaicengbaaDoor.Num

instance decCell : DecidableEq DCell := fun a b =>
  if h : a.fRule = b.fRule ∧ a.fLiteral = b.fLiteral ∧ a.fChildren = b.fChildren then isTrue (by cases a; cases b; simp only at h; rw [h.1, h.2.1, h.2.2]) else isFalse (fun e => h (by rw [e]; exact ⟨rfl, rfl, rfl⟩))
def PCell (x y : DCell) : Bool := decide (y = x)
theorem PCell_self (x : DCell) : PCell x x = true := decide_eq_true rfl
/-- All children lie below i. -/
def kidsB (i : Nat) (l : List Int) : Bool := l.all fun c => decide (0 ≤ c) && decide (c < (i : Int))
def cellOk (l : List DCell) (i : Nat) : Bool := (idxI (PCell (l.getD i default)) l == (i : Int)) && kidsB i (l.getD i default).fChildren
def storeOk (l : List DCell) : Bool := (List.range l.length).all (cellOk l)
theorem storeOk_yes {l : List DCell} (h : ∀ j, j < l.length → cellOk l j = true) : storeOk l = true := by
  unfold storeOk
  rw [List.all_eq_true]
  exact fun j hj => h j (List.mem_range.1 hj)
theorem storeOk_no {l : List DCell} {k : Nat} (hk : k < l.length) (h : cellOk l k = false) : storeOk l = false := by
  unfold storeOk
  rw [List.all_eq_false]
  exact ⟨k, List.mem_range.2 hk, by rw [h]; decide⟩
theorem cellOk_dup {l : List DCell} {i : Nat} (h : idxI (PCell (l.getD i default)) l ≠ (i : Int)) : cellOk l i = false := by
  unfold cellOk
  rw [beq_eq_false_iff_ne.2 h, Bool.false_and]
theorem cellOk_kids {l : List DCell} {i : Nat} (h : idxI (PCell (l.getD i default)) l = (i : Int)) : cellOk l i = kidsB i (l.getD i default).fChildren := by
  unfold cellOk
  rw [h, beq_self_eq_true, Bool.true_and]
theorem kidsB_yes {i : Nat} {l : List Int} (h : ∀ j, j < l.length → inR (l.getD j default) 0 ((i : Int) - 1) = true) : kidsB i l = true := by
  unfold kidsB
  rw [List.all_eq_true]
  intro c hc
  obtain ⟨j, hj, rfl⟩ := List.getElem_of_mem hc
  have := inR_iff.1 (h j hj)
  rw [List.getD_eq_getElem?_getD, List.getElem?_eq_getElem hj, Option.getD_some] at this
  rw [Bool.and_eq_true, decide_eq_true_eq, decide_eq_true_eq]
  omega
theorem kidsB_no {i j : Nat} {l : List Int} (hj : j < l.length) (h : inR (l.getD j default) 0 ((i : Int) - 1) = false) : kidsB i l = false := by
  unfold kidsB
  rw [List.all_eq_false]
  refine ⟨l[j], List.getElem_mem _, fun hc => ?_⟩
  rw [Bool.and_eq_true, decide_eq_true_eq, decide_eq_true_eq] at hc
  rw [List.getD_eq_getElem?_getD, List.getElem?_eq_getElem hj, Option.getD_some, inR_yes hc.1 (by omega)] at h
  cases h
/-- Whether an equal cell stands ahead of i. -/
theorem idx_self {l : List DCell} {i : Nat} (hi : i < l.length) : idxI (PCell (l.getD i default)) l = (i : Int) ↔ ∀ j, j < i → l.getD j default ≠ l.getD i default := by
  refine ⟨fun h j hj e => ?_, fun h => idxI_at hi (PCell_self _) fun j hj => decide_eq_false (h j hj)⟩
  unfold idxI at h
  cases hf : l.findIdx? (PCell (l.getD i default)) with
  | none => rw [hf] at h; simp only at h; omega
  | some k =>
    rw [hf] at h
    simp only at h
    obtain rfl : k = i := by omega
    obtain ⟨hk, _, hno⟩ := List.findIdx?_eq_some_iff_getElem.1 hf
    have := hno j hj
    rw [List.getD_eq_getElem?_getD, List.getElem?_eq_getElem (by omega), Option.getD_some] at e
    rw [e] at this
    exact this (PCell_self _)

/-! Keys. -/
structure DKey where
  kRule : ByteArray
  kLiteral : Int
  kKids : ByteArray
instance decKey : DecidableEq DKey := fun a b =>
  if h : a.kRule = b.kRule ∧ a.kLiteral = b.kLiteral ∧ a.kKids = b.kKids then isTrue (by cases a; cases b; simp only at h; rw [h.1, h.2.1, h.2.2]) else isFalse (fun e => h (by rw [e]; exact ⟨rfl, rfl, rfl⟩))
def numT (l : List Int) : List ByteArray := l.map fun n => ⟨(itoa n).toArray⟩
def kidsT (l : List Int) : ByteArray := ⟨(join ((numT l).map (·.data.toList)) [32]).toArray⟩
def keyC (x : DCell) : DKey := ⟨x.fRule, x.fLiteral, kidsT x.fChildren⟩
theorem numT_data (l : List Int) : (numT l).map (·.data.toList) = l.map itoa := by
  unfold numT
  rw [List.map_map]
  exact List.map_congr_left fun n _ => rfl
theorem dig_ne {c : UInt8} (h : dig c = true) : c ≠ 32 := by
  intro e
  subst e
  revert h
  decide
theorem itoa_nosp (n : Int) : (32 : UInt8) ∉ itoa n := by
  have hd : ∀ u, (32 : UInt8) ∉ decDigits u := fun u hm => dig_ne (List.all_eq_true.1 (digits_dig u) _ hm) rfl
  unfold itoa
  split
  · intro h
    rcases List.mem_cons.1 h with h | h
    · revert h; decide
    · exact hd _ h
  · exact hd _
theorem sp_join_of (c : UInt8) : ∀ (x : List UInt8) (r : List (List UInt8)), (∀ y ∈ x :: r, c ∉ y) → sp c (join (x :: r) [c]) = x :: r
  | x, [], h => by rw [join_one]; exact sp_none c x (h x (List.mem_cons_self ..))
  | x, y :: r, h => by
    have ih := sp_join_of c y r fun z hz => h z (List.mem_cons_of_mem _ hz)
    have e : join (x :: y :: r) [c] = x ++ c :: join (y :: r) [c] := by
      rw [join_cons, join_cons]
      unfold joinTail
      simp
    rw [e, sp_seg c _ x (h x (List.mem_cons_self ..)), ih]
theorem itoa_ne (n : Int) : itoa n ≠ [] := by
  unfold itoa
  split
  · exact List.cons_ne_nil _ _
  · exact digits_ne _
theorem join_nums_inj {l m : List Int} (hl : ∀ x ∈ l, okI x) (hm : ∀ x ∈ m, okI x) (h : join (l.map itoa) [32] = join (m.map itoa) [32]) : l = m := by
  have hin : ∀ {l m : List Int}, (∀ x ∈ l, okI x) → (∀ x ∈ m, okI x) → l.map itoa = m.map itoa → l = m := by
    intro l
    induction l with
    | nil => intro m _ _ h; cases m with
      | nil => rfl
      | cons b m => simp at h
    | cons a l ih =>
      intro m hl hm h
      cases m with
      | nil => simp at h
      | cons b m =>
        simp only [List.map_cons, List.cons.injEq] at h
        have ha := hl a (List.mem_cons_self ..)
        have hb := hm b (List.mem_cons_self ..)
        rw [itoa_inj ha.1 ha.2 hb.1 hb.2 h.1, ih (fun x hx => hl x (List.mem_cons_of_mem _ hx)) (fun x hx => hm x (List.mem_cons_of_mem _ hx)) h.2]
  have hns : ∀ (l : List Int), ∀ y ∈ l.map itoa, (32 : UInt8) ∉ y := fun l y hy => by
    obtain ⟨n, _, rfl⟩ := List.mem_map.1 hy
    exact itoa_nosp n
  have hne : ∀ (a : Int) (l : List Int), join ((a :: l).map itoa) [32] ≠ [] := fun a l e => by
    rw [List.map_cons, join_cons] at e
    exact itoa_ne a (List.append_eq_nil_iff.1 e).1
  cases l with
  | nil => cases m with
    | nil => rfl
    | cons b m => exact absurd h.symm (hne b m)
  | cons a l => cases m with
    | nil => exact absurd h (hne a l)
    | cons b m =>
      refine hin hl hm ?_
      have e1 := sp_join_of 32 (itoa a) (l.map itoa) (hns (a :: l))
      have e2 := sp_join_of 32 (itoa b) (m.map itoa) (hns (b :: m))
      rw [List.map_cons, List.map_cons] at h
      rw [h] at e1
      exact e1.symm.trans e2
theorem kidsT_inj {l m : List Int} (hl : okL okI l) (hm : okL okI m) (h : kidsT l = kidsT m) : l = m := by
  refine join_nums_inj hl.2 hm.2 ?_
  have := congrArg (fun x : ByteArray => x.data.toList) h
  simp only [kidsT, numT_data] at this
  simpa using this
theorem key_inj {x y : DCell} (hx : x.ok) (hy : y.ok) (h : keyC x = keyC y) : x = y := by
  have h1 : x.fRule = y.fRule := congrArg DKey.kRule h
  have h2 : x.fLiteral = y.fLiteral := congrArg DKey.kLiteral h
  have h3 := kidsT_inj hx.2.2 hy.2.2 (congrArg DKey.kKids h)
  cases x; cases y
  dsimp only at h1 h2 h3
  rw [h1, h2, h3]
/-- The keys of the first k cells. -/
def foundK (l : List DCell) (k : Nat) (x : DKey) : Bool := (List.range k).any fun j => decide (keyC (l.getD j default) = x)
theorem foundK_zero (l : List DCell) : foundK l 0 = fun _ => false := rfl
theorem foundK_iff {l : List DCell} {k : Nat} {x : DKey} : foundK l k x = true ↔ ∃ j, j < k ∧ keyC (l.getD j default) = x := by
  unfold foundK
  rw [List.any_eq_true]
  exact ⟨fun ⟨j, hj, h⟩ => ⟨j, List.mem_range.1 hj, of_decide_eq_true h⟩, fun ⟨j, hj, h⟩ => ⟨j, List.mem_range.2 hj, decide_eq_true h⟩⟩
theorem foundK_put (l : List DCell) (k : Nat) : foundK l (k + 1) (keyC (l.getD k default)) = true := foundK_iff.2 ⟨k, Nat.lt_succ_self _, rfl⟩
theorem foundK_other {l : List DCell} {k : Nat} {x : DKey} (h : x ≠ keyC (l.getD k default)) : foundK l (k + 1) x = foundK l k x := by
  rw [Bool.eq_iff_iff, foundK_iff, foundK_iff]
  refine ⟨fun ⟨j, hj, e⟩ => ?_, fun ⟨j, hj, e⟩ => ⟨j, Nat.lt_succ_of_lt hj, e⟩⟩
  by_cases hjk : j = k
  · subst hjk; exact absurd e.symm h
  · exact ⟨j, by omega, e⟩
theorem found_no {l : List DCell} {k : Nat} (hk : k < l.length) (h : foundK l k (keyC (l.getD k default)) = false) : idxI (PCell (l.getD k default)) l = (k : Int) :=
  (idx_self hk).2 fun j hj e => by
    have : foundK l k (keyC (l.getD k default)) = true := foundK_iff.2 ⟨j, hj, by rw [e]⟩
    rw [h] at this
    cases this
theorem found_yes {l : List DCell} (hok : okL DCell.ok l) {k : Nat} (hk : k < l.length) (h : foundK l k (keyC (l.getD k default)) = true) : idxI (PCell (l.getD k default)) l ≠ (k : Int) := fun e => by
  obtain ⟨j, hj, hkey⟩ := foundK_iff.1 h
  exact (idx_self hk).1 e j hj (key_inj (hok.at (by omega)) (hok.at hk) hkey)

/-! The map keyed by a cell's key. -/
def embK (x : DKey) : Value := .agg #[.string x.kRule, .int .i64 x.kLiteral, .string x.kKids]
def okMK (x : DKey) : Prop := okMS x.kRule ∧ okMI x.kLiteral ∧ okMS x.kKids
theorem rowKey : (44 : TypeId) < Tryd.prog.types.size := of_decide_eq_true (by kernel_rfl)
theorem wideKey : (match Tryd.prog.underlying 44 with | some (.array _ _) | some (.struct _) => true | _ => false) = true := by kernel_rfl
set_option maxRecDepth 100000 in
theorem keyedKey : Maps.Keyed Tryd.prog 44 := Maps.Keyed.of_law (deep_law_laid laidOut (m := 3) (by omega) rowKey (by kernel_rfl) wideKey)
theorem keyKey (x : DKey) (h : okMK x) : ∃ l, keyOf Tryd.prog 44 (embK x) = some l := by
  obtain ⟨r, n, s⟩ := x
  have hn : (Lit.int .i64 n).wf = true := WalkArith.wf_i64 h.2.1
  have hr : r.size ≤ maxLen := h.1
  have hs : s.size ≤ maxLen := h.2.2
  have h1 : Tryd.prog.keyType 44 = true := by kernel_rfl
  have hc : Tryd.prog.cellsOf 44 = 3 := by kernel_rfl
  have hci : Tryd.prog.cellsOf 3 = 1 := by kernel_rfl
  have hcs : Tryd.prog.cellsOf 9 = 1 := by kernel_rfl
  have h2 : (embK ⟨r, n, s⟩).formed Tryd.prog 44 = true := by
    unfold embK Value.formed
    simp [Tryd.underlying44, hc]
  have h3 : ∀ d, Tryd.prog.keyLits (d + 2) 44 [.string r, .int .i64 n, .string s] = some [.string r.data.toList, .int .i64 n, .string s.data.toList] := by
    intro d
    simp [Program.keyLits, Tryd.underlying44, Tryd.underlying3, Tryd.underlying9, hn, hs, hr, hc, hci, hcs]
  obtain ⟨d, hd⟩ : ∃ d, Tryd.prog.types.size + 1 = d + 2 := ⟨_, show Tryd.prog.types.size + 1 = (Tryd.prog.types.size - 1) + 2 by have : 0 < Tryd.prog.types.size := Nat.lt_of_le_of_lt (Nat.zero_le _) rowKey; omega⟩
  refine ⟨.string (keyBytes [.string r.data.toList, .int .i64 n, .string s.data.toList]), ?_⟩
  unfold keyOf
  rw [Tryd.underlying44]
  simp only [h1, h2, Bool.and_self, if_true]
  rw [hd]
  show Option.map _ (Tryd.prog.keyLits (d + 2) 44 [.string r, .int .i64 n, .string s]) = _
  rw [h3]
  rfl
theorem mapK_KB : MapK Tryd.prog 42 44 4 okMK embK (fun _ => True) valB litB false :=
  ⟨keyedKey, Tryd.underlying42, keyKey, fun x y _ _ h => by cases x; cases y; simp only [embK, Value.agg.injEq] at h; simp at h; rw [h.1, h.2.1, h.2.2], fun v _ => plainElem_bool Tryd.underlying4 v, valB_back Tryd.underlying4, fun w => by kernel_rfl, trivial⟩
end Go.Proofs.YtjlcbbaicengbaaDoor
