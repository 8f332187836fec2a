/-
  isValidNode, kind by kind.
-/
import Derived.Test.YthpnghbhfbiljaaEValid
namespace Go.Proofs.Ythpnghbhfbiljaa
open Go.ChangeShapes Go.WideShapes Go.ChangeAt Go.RowKit Go.Deep

set_option maxHeartbeats 6400000 in
set_option maxRecDepth 100000 in
theorem impl_isValidNode_1 (n : ENode) (hk : n.fKind = 1) (hs1 : n.fSymbol.size ≤ 1048576) (hs2 : n.fName.size ≤ 1048576) (w : World) :
    Calls Try.prog 44 #[.agg #[.int .i64 n.fKind, .int .i64 n.fN, .int .i64 n.fPos, .int .i64 n.fType, .string n.fSymbol, .string n.fName, .int .i64 (n.fArgs : Int), .int .i64 (n.fDepth : Int)]] w fun e w' => e = .returned (.bool (validN n)) ∧ Below w.heap.size w w' := by
  have HO := Lib.hid (okN_1 hk)
  have HKR := Lib.hid (show inR n.fKind 1 8 = true by rw [hk]; decide)
  have HY := Lib.hid (show n.fPos = 0 → n.fSymbol.toList = [] → n.fName.toList = [] → n.fArgs = 0 → validN n = okN n from fun g2 g4 g5 g6 => validN_of HKR.out ⟨(by rw [hk]; exact g6), Or.inr (Or.inr (g2)), Or.inr (Or.inr (g5)), Or.inl hk, Or.inl hk, Or.inr (g4)⟩)
  have N2 := Lib.hid (show ¬ n.fPos = 0 → validN n = false from fun g => validN_bare fun hb => by rcases hb.2.1 with h | h | h <;> first | exact g h | omega)
  have N4 := Lib.hid (show ¬ n.fSymbol.toList = [] → validN n = false from fun g => validN_bare fun hb => by rcases hb.2.2.2.2.2 with h | h <;> first | exact g h | omega)
  have N5 := Lib.hid (show ¬ n.fName.toList = [] → validN n = false from fun g => validN_bare fun hb => by rcases hb.2.2.1 with h | h | h <;> first | exact g h | omega)
  have N6 := Lib.hid (show ¬ n.fArgs = 0 → validN n = false from fun g => validN_bare fun hb => by have h := hb.1; rw [hk] at h; exact g h)
  have NO := Lib.hid (show okN n = false → validN n = false from validN_ok)
  have HC := Lib.hid (fun W => impl_isConstant n.fN n.fType W)
  rw [← okN_1 hk] at HC
  rw [hk]
  clear hk HKR
  generalize validN n = v at *
  generalize okN n = q at *
  generalize n.fN = a1 at *
  generalize n.fPos = a2 at *
  generalize n.fType = a3 at *
  generalize n.fSymbol = a4 at *
  generalize n.fName = a5 at *
  generalize n.fArgs = a6 at *
  generalize n.fDepth = a7 at *
  have HB := Lib.hid (((Below.refl w.heap.size w).alloc (Nat.le_refl _) (.cells #[.int .i64 1, .int .i64 a1, .int .i64 a2, .int .i64 a3, .string a4, .string a5, .int .i64 (a6 : Int), .int .i64 (a7 : Int)] 71)).alloc (by simp) (.cells #[.int .i64 1, .int .i64 a1, .int .i64 0, .int .i64 a3, .string ⟨#[]⟩, .string ⟨#[]⟩] 69))
  have HBD := Lib.hid (HB.out.drew)
  cases hq : q
  · have QV := Lib.hid hq
    rw [hq] at HC
    clear hq
    go_enter Try.func44, Try.ntmps44
    go_wp2_with fail
    go_region
    all_goals go_wp2_with fail
    all_goals (refine (HC.out _).mono ?_; rintro e w1 ⟨rfl, rfl⟩)
    all_goals go_wp2
    all_goals go_ret
    all_goals
      exact ⟨ret_b (NO.out QV.out).symm, (by repeat (first | (with_reducible exact Below.refl _ _) | (with_reducible apply Below.drew) | (refine Below.alloc ?_ (by simp <;> omega) _)) : Below w.heap.size w _)⟩
  · have QV := Lib.hid hq
    rw [hq] at HC
    clear hq
    have HF := Lib.hid (show a2 = 0 → a4.toList = [] → a5.toList = [] → (((a6 : Nat) : Int) == 0) = v from fun g2 g4 g5 => by
      by_cases g6 : a6 = 0
      · rw [HY.out g2 g4 g5 g6, QV.out, g6]; rfl
      · rw [N6.out g6]; exact beq_eq_false_iff_ne.2 (by omega))
    go_enter Try.func44, Try.ntmps44
    go_wp2_with fail
    go_region
    all_goals go_wp2_with fail
    all_goals (refine (HC.out _).mono ?_; rintro e w1 ⟨rfl, rfl⟩)
    all_goals go_wp2
    all_goals go_ret
    all_goals
      first
        | (exact ⟨ret_b (N2.out (by assumption)).symm, (by repeat (first | (with_reducible exact Below.refl _ _) | (with_reducible apply Below.drew) | (refine Below.alloc ?_ (by simp <;> omega) _)) : Below w.heap.size w _)⟩)
        | (exact ⟨ret_b (N4.out (by assumption)).symm, (by repeat (first | (with_reducible exact Below.refl _ _) | (with_reducible apply Below.drew) | (refine Below.alloc ?_ (by simp <;> omega) _)) : Below w.heap.size w _)⟩)
        | (exact ⟨ret_b (N5.out (by assumption)).symm, (by repeat (first | (with_reducible exact Below.refl _ _) | (with_reducible apply Below.drew) | (refine Below.alloc ?_ (by simp <;> omega) _)) : Below w.heap.size w _)⟩)
        | (exact ⟨ret_b (HF.out (by assumption) (by assumption) (by assumption)), (by repeat (first | (with_reducible exact Below.refl _ _) | (with_reducible apply Below.drew) | (refine Below.alloc ?_ (by simp <;> omega) _)) : Below w.heap.size w _)⟩)

set_option maxHeartbeats 6400000 in
set_option maxRecDepth 100000 in
theorem impl_isValidNode_2 (n : ENode) (hk : n.fKind = 2) (hs1 : n.fSymbol.size ≤ 1048576) (hs2 : n.fName.size ≤ 1048576) (w : World) :
    Calls Try.prog 44 #[.agg #[.int .i64 n.fKind, .int .i64 n.fN, .int .i64 n.fPos, .int .i64 n.fType, .string n.fSymbol, .string n.fName, .int .i64 (n.fArgs : Int), .int .i64 (n.fDepth : Int)]] w fun e w' => e = .returned (.bool (validN n)) ∧ Below w.heap.size w w' := by
  have HO := Lib.hid (okN_2 hk)
  have HKR := Lib.hid (show inR n.fKind 1 8 = true by rw [hk]; decide)
  have HY := Lib.hid (show n.fN = 0 → n.fPos = 0 → n.fType = 0 → n.fSymbol.toList = [] → n.fName.toList = [] → n.fArgs = 0 → validN n = okN n from fun g1 g2 g3 g4 g5 g6 => validN_of HKR.out ⟨(by rw [hk]; exact g6), Or.inr (Or.inr (g2)), Or.inr (Or.inr (g5)), Or.inr (Or.inr (g1)), Or.inr (g3), Or.inr (g4)⟩)
  have N1 := Lib.hid (show ¬ n.fN = 0 → validN n = false from fun g => validN_bare fun hb => by rcases hb.2.2.2.1 with h | h | h <;> first | exact g h | omega)
  have N2 := Lib.hid (show ¬ n.fPos = 0 → validN n = false from fun g => validN_bare fun hb => by rcases hb.2.1 with h | h | h <;> first | exact g h | omega)
  have N3 := Lib.hid (show ¬ n.fType = 0 → validN n = false from fun g => validN_bare fun hb => by rcases hb.2.2.2.2.1 with h | h <;> first | exact g h | omega)
  have N4 := Lib.hid (show ¬ n.fSymbol.toList = [] → validN n = false from fun g => validN_bare fun hb => by rcases hb.2.2.2.2.2 with h | h <;> first | exact g h | omega)
  have N5 := Lib.hid (show ¬ n.fName.toList = [] → validN n = false from fun g => validN_bare fun hb => by rcases hb.2.2.1 with h | h | h <;> first | exact g h | omega)
  have N6 := Lib.hid (show ¬ n.fArgs = 0 → validN n = false from fun g => validN_bare fun hb => by have h := hb.1; rw [hk] at h; exact g h)
  have NO := Lib.hid (show okN n = false → validN n = false from validN_ok)
  rw [hk]
  clear hk HKR
  generalize validN n = v at *
  generalize okN n = q at *
  generalize n.fN = a1 at *
  generalize n.fPos = a2 at *
  generalize n.fType = a3 at *
  generalize n.fSymbol = a4 at *
  generalize n.fName = a5 at *
  generalize n.fArgs = a6 at *
  generalize n.fDepth = a7 at *
  have QV := Lib.hid (show q = true from HO.out)
  have HB := Lib.hid (((Below.refl w.heap.size w).alloc (Nat.le_refl _) (.cells #[.int .i64 2, .int .i64 a1, .int .i64 a2, .int .i64 a3, .string a4, .string a5, .int .i64 (a6 : Int), .int .i64 (a7 : Int)] 71)).alloc (by simp) (.cells #[.int .i64 2, .int .i64 0, .int .i64 0, .int .i64 0, .string ⟨#[]⟩, .string ⟨#[]⟩] 69))
  have HBD := Lib.hid (HB.out.drew)
  have HF := Lib.hid (show a1 = 0 → a2 = 0 → a3 = 0 → a4.toList = [] → a5.toList = [] → (((a6 : Nat) : Int) == 0) = v from fun g1 g2 g3 g4 g5 => by
    by_cases g6 : a6 = 0
    · rw [HY.out g1 g2 g3 g4 g5 g6, QV.out, g6]; rfl
    · rw [N6.out g6]; exact beq_eq_false_iff_ne.2 (by omega))
  go_enter Try.func44, Try.ntmps44
  go_wp2
  all_goals go_ret
  all_goals
    first
      | (exact ⟨ret_b (N1.out (by assumption)).symm, (by repeat (first | (with_reducible exact Below.refl _ _) | (with_reducible apply Below.drew) | (refine Below.alloc ?_ (by simp <;> omega) _)) : Below w.heap.size w _)⟩)
      | (exact ⟨ret_b (N2.out (by assumption)).symm, (by repeat (first | (with_reducible exact Below.refl _ _) | (with_reducible apply Below.drew) | (refine Below.alloc ?_ (by simp <;> omega) _)) : Below w.heap.size w _)⟩)
      | (exact ⟨ret_b (N3.out (by assumption)).symm, (by repeat (first | (with_reducible exact Below.refl _ _) | (with_reducible apply Below.drew) | (refine Below.alloc ?_ (by simp <;> omega) _)) : Below w.heap.size w _)⟩)
      | (exact ⟨ret_b (N4.out (by assumption)).symm, (by repeat (first | (with_reducible exact Below.refl _ _) | (with_reducible apply Below.drew) | (refine Below.alloc ?_ (by simp <;> omega) _)) : Below w.heap.size w _)⟩)
      | (exact ⟨ret_b (N5.out (by assumption)).symm, (by repeat (first | (with_reducible exact Below.refl _ _) | (with_reducible apply Below.drew) | (refine Below.alloc ?_ (by simp <;> omega) _)) : Below w.heap.size w _)⟩)
      | (exact ⟨ret_b (HF.out (by assumption) (by assumption) (by assumption) (by assumption) (by assumption)), (by repeat (first | (with_reducible exact Below.refl _ _) | (with_reducible apply Below.drew) | (refine Below.alloc ?_ (by simp <;> omega) _)) : Below w.heap.size w _)⟩)

set_option maxHeartbeats 6400000 in
set_option maxRecDepth 100000 in
theorem impl_isValidNode_3 (n : ENode) (hk : n.fKind = 3) (hs1 : n.fSymbol.size ≤ 1048576) (hs2 : n.fName.size ≤ 1048576) (w : World) :
    Calls Try.prog 44 #[.agg #[.int .i64 n.fKind, .int .i64 n.fN, .int .i64 n.fPos, .int .i64 n.fType, .string n.fSymbol, .string n.fName, .int .i64 (n.fArgs : Int), .int .i64 (n.fDepth : Int)]] w fun e w' => e = .returned (.bool (validN n)) ∧ Below w.heap.size w w' := by
  have HO := Lib.hid (okN_3 hk)
  have HKR := Lib.hid (show inR n.fKind 1 8 = true by rw [hk]; decide)
  have HY := Lib.hid (show n.fN = 0 → n.fType = 0 → n.fSymbol.toList = [] → n.fArgs = 0 → validN n = okN n from fun g1 g3 g4 g6 => validN_of HKR.out ⟨(by rw [hk]; exact g6), Or.inl hk, Or.inl hk, Or.inr (Or.inr (g1)), Or.inr (g3), Or.inr (g4)⟩)
  have N1 := Lib.hid (show ¬ n.fN = 0 → validN n = false from fun g => validN_bare fun hb => by rcases hb.2.2.2.1 with h | h | h <;> first | exact g h | omega)
  have N3 := Lib.hid (show ¬ n.fType = 0 → validN n = false from fun g => validN_bare fun hb => by rcases hb.2.2.2.2.1 with h | h <;> first | exact g h | omega)
  have N4 := Lib.hid (show ¬ n.fSymbol.toList = [] → validN n = false from fun g => validN_bare fun hb => by rcases hb.2.2.2.2.2 with h | h <;> first | exact g h | omega)
  have N6 := Lib.hid (show ¬ n.fArgs = 0 → validN n = false from fun g => validN_bare fun hb => by have h := hb.1; rw [hk] at h; exact g h)
  have NO := Lib.hid (show okN n = false → validN n = false from validN_ok)
  have HC := Lib.hid (fun W => impl_isPosition n.fPos W)
  have HD := Lib.hid (fun W => impl_IsValidName n.fName hs2 W)
  obtain ⟨q1, hq1⟩ : ∃ q1, inR n.fPos 0 3 = q1 := ⟨_, rfl⟩
  obtain ⟨q2, hq2⟩ : ∃ q2, validName n.fName = q2 := ⟨_, rfl⟩
  rw [hq1] at HC HO
  rw [hq2] at HD HO
  clear hq1 hq2
  rw [hk]
  clear hk HKR
  generalize validN n = v at *
  generalize okN n = q at *
  generalize n.fN = a1 at *
  generalize n.fPos = a2 at *
  generalize n.fType = a3 at *
  generalize n.fSymbol = a4 at *
  generalize n.fName = a5 at *
  generalize n.fArgs = a6 at *
  generalize n.fDepth = a7 at *
  have HB := Lib.hid (((Below.refl w.heap.size w).alloc (Nat.le_refl _) (.cells #[.int .i64 3, .int .i64 a1, .int .i64 a2, .int .i64 a3, .string a4, .string a5, .int .i64 (a6 : Int), .int .i64 (a7 : Int)] 71)).alloc (by simp) (.cells #[.int .i64 3, .int .i64 0, .int .i64 a2, .int .i64 0, .string ⟨#[]⟩, .string a5] 69))
  have HBD := Lib.hid (HB.out.drew)
  cases q1
  · have QV := Lib.hid (show q = false from HO.out.trans rfl)
    go_enter Try.func44, Try.ntmps44
    go_wp2_with fail
    go_region
    all_goals go_wp2_with fail
    all_goals (refine (HC.out _).mono ?_; rintro e w1 ⟨rfl, rfl⟩)
    all_goals go_wp2
    all_goals go_ret
    all_goals exact ⟨ret_b (NO.out QV.out).symm, HBD.out⟩
  · cases q2
    · have QV := Lib.hid (show q = false from HO.out.trans rfl)
      go_enter Try.func44, Try.ntmps44
      go_wp2_with fail
      go_region
      all_goals go_wp2_with fail
      all_goals (refine (HC.out _).mono ?_; rintro e w1 ⟨rfl, rfl⟩)
      all_goals go_wp2_with fail
      refine (HD.out _).mono ?_
      rintro e w2 ⟨rfl, hb1⟩
      have cw2_0 : w2.cell? ⟨w.heap.size, 0, none⟩ = some (.int .i64 3) := (hb1.cell (p := ⟨w.heap.size, 0, none⟩) (by first | (simp; done) | (simp [World.drew]; done) | (simp; omega))).trans (by go_simp)
      have cw2_1 : w2.cell? ⟨w.heap.size, 1, none⟩ = some (.int .i64 a1) := (hb1.cell (p := ⟨w.heap.size, 1, none⟩) (by first | (simp; done) | (simp [World.drew]; done) | (simp; omega))).trans (by go_simp)
      have cw2_2 : w2.cell? ⟨w.heap.size, 2, none⟩ = some (.int .i64 a2) := (hb1.cell (p := ⟨w.heap.size, 2, none⟩) (by first | (simp; done) | (simp [World.drew]; done) | (simp; omega))).trans (by go_simp)
      have cw2_3 : w2.cell? ⟨w.heap.size, 3, none⟩ = some (.int .i64 a3) := (hb1.cell (p := ⟨w.heap.size, 3, none⟩) (by first | (simp; done) | (simp [World.drew]; done) | (simp; omega))).trans (by go_simp)
      have cw2_4 : w2.cell? ⟨w.heap.size, 4, none⟩ = some (.string a4) := (hb1.cell (p := ⟨w.heap.size, 4, none⟩) (by first | (simp; done) | (simp [World.drew]; done) | (simp; omega))).trans (by go_simp)
      have cw2_5 : w2.cell? ⟨w.heap.size, 5, none⟩ = some (.string a5) := (hb1.cell (p := ⟨w.heap.size, 5, none⟩) (by first | (simp; done) | (simp [World.drew]; done) | (simp; omega))).trans (by go_simp)
      have cw2_6 : w2.cell? ⟨w.heap.size, 6, none⟩ = some (.int .i64 (a6 : Int)) := (hb1.cell (p := ⟨w.heap.size, 6, none⟩) (by first | (simp; done) | (simp [World.drew]; done) | (simp; omega))).trans (by go_simp)
      have cw2_7 : w2.cell? ⟨w.heap.size, 7, none⟩ = some (.int .i64 (a7 : Int)) := (hb1.cell (p := ⟨w.heap.size, 7, none⟩) (by first | (simp; done) | (simp [World.drew]; done) | (simp; omega))).trans (by go_simp)
      have cw2_8 : w2.cell? ⟨w.heap.size + 1, 0, none⟩ = some (.int .i64 3) := (hb1.cell (p := ⟨w.heap.size + 1, 0, none⟩) (by first | (simp; done) | (simp [World.drew]; done) | (simp; omega))).trans (by go_simp)
      have cw2_9 : w2.cell? ⟨w.heap.size + 1, 1, none⟩ = some (.int .i64 0) := (hb1.cell (p := ⟨w.heap.size + 1, 1, none⟩) (by first | (simp; done) | (simp [World.drew]; done) | (simp; omega))).trans (by go_simp)
      have cw2_10 : w2.cell? ⟨w.heap.size + 1, 2, none⟩ = some (.int .i64 a2) := (hb1.cell (p := ⟨w.heap.size + 1, 2, none⟩) (by first | (simp; done) | (simp [World.drew]; done) | (simp; omega))).trans (by go_simp)
      have cw2_11 : w2.cell? ⟨w.heap.size + 1, 3, none⟩ = some (.int .i64 0) := (hb1.cell (p := ⟨w.heap.size + 1, 3, none⟩) (by first | (simp; done) | (simp [World.drew]; done) | (simp; omega))).trans (by go_simp)
      have cw2_12 : w2.cell? ⟨w.heap.size + 1, 4, none⟩ = some (.string ⟨#[]⟩) := (hb1.cell (p := ⟨w.heap.size + 1, 4, none⟩) (by first | (simp; done) | (simp [World.drew]; done) | (simp; omega))).trans (by go_simp)
      have cw2_13 : w2.cell? ⟨w.heap.size + 1, 5, none⟩ = some (.string a5) := (hb1.cell (p := ⟨w.heap.size + 1, 5, none⟩) (by first | (simp; done) | (simp [World.drew]; done) | (simp; omega))).trans (by go_simp)
      have HB1 := Lib.hid (HBD.out.trans (hb1.mono HBD.out.size))
      clear hb1
      go_wp2
      all_goals go_ret
      all_goals
        exact ⟨ret_b (NO.out QV.out).symm, HB1.out⟩
    · have QV := Lib.hid (show q = true from HO.out.trans rfl)
      have HF := Lib.hid (show a1 = 0 → a3 = 0 → a4.toList = [] → (((a6 : Nat) : Int) == 0) = v from fun g1 g3 g4 => by
        by_cases g6 : a6 = 0
        · rw [HY.out g1 g3 g4 g6, QV.out, g6]; rfl
        · rw [N6.out g6]; exact beq_eq_false_iff_ne.2 (by omega))
      go_enter Try.func44, Try.ntmps44
      go_wp2_with fail
      go_region
      all_goals go_wp2_with fail
      all_goals (refine (HC.out _).mono ?_; rintro e w1 ⟨rfl, rfl⟩)
      all_goals go_wp2_with fail
      refine (HD.out _).mono ?_
      rintro e w2 ⟨rfl, hb1⟩
      have cw2_0 : w2.cell? ⟨w.heap.size, 0, none⟩ = some (.int .i64 3) := (hb1.cell (p := ⟨w.heap.size, 0, none⟩) (by first | (simp; done) | (simp [World.drew]; done) | (simp; omega))).trans (by go_simp)
      have cw2_1 : w2.cell? ⟨w.heap.size, 1, none⟩ = some (.int .i64 a1) := (hb1.cell (p := ⟨w.heap.size, 1, none⟩) (by first | (simp; done) | (simp [World.drew]; done) | (simp; omega))).trans (by go_simp)
      have cw2_2 : w2.cell? ⟨w.heap.size, 2, none⟩ = some (.int .i64 a2) := (hb1.cell (p := ⟨w.heap.size, 2, none⟩) (by first | (simp; done) | (simp [World.drew]; done) | (simp; omega))).trans (by go_simp)
      have cw2_3 : w2.cell? ⟨w.heap.size, 3, none⟩ = some (.int .i64 a3) := (hb1.cell (p := ⟨w.heap.size, 3, none⟩) (by first | (simp; done) | (simp [World.drew]; done) | (simp; omega))).trans (by go_simp)
      have cw2_4 : w2.cell? ⟨w.heap.size, 4, none⟩ = some (.string a4) := (hb1.cell (p := ⟨w.heap.size, 4, none⟩) (by first | (simp; done) | (simp [World.drew]; done) | (simp; omega))).trans (by go_simp)
      have cw2_5 : w2.cell? ⟨w.heap.size, 5, none⟩ = some (.string a5) := (hb1.cell (p := ⟨w.heap.size, 5, none⟩) (by first | (simp; done) | (simp [World.drew]; done) | (simp; omega))).trans (by go_simp)
      have cw2_6 : w2.cell? ⟨w.heap.size, 6, none⟩ = some (.int .i64 (a6 : Int)) := (hb1.cell (p := ⟨w.heap.size, 6, none⟩) (by first | (simp; done) | (simp [World.drew]; done) | (simp; omega))).trans (by go_simp)
      have cw2_7 : w2.cell? ⟨w.heap.size, 7, none⟩ = some (.int .i64 (a7 : Int)) := (hb1.cell (p := ⟨w.heap.size, 7, none⟩) (by first | (simp; done) | (simp [World.drew]; done) | (simp; omega))).trans (by go_simp)
      have cw2_8 : w2.cell? ⟨w.heap.size + 1, 0, none⟩ = some (.int .i64 3) := (hb1.cell (p := ⟨w.heap.size + 1, 0, none⟩) (by first | (simp; done) | (simp [World.drew]; done) | (simp; omega))).trans (by go_simp)
      have cw2_9 : w2.cell? ⟨w.heap.size + 1, 1, none⟩ = some (.int .i64 0) := (hb1.cell (p := ⟨w.heap.size + 1, 1, none⟩) (by first | (simp; done) | (simp [World.drew]; done) | (simp; omega))).trans (by go_simp)
      have cw2_10 : w2.cell? ⟨w.heap.size + 1, 2, none⟩ = some (.int .i64 a2) := (hb1.cell (p := ⟨w.heap.size + 1, 2, none⟩) (by first | (simp; done) | (simp [World.drew]; done) | (simp; omega))).trans (by go_simp)
      have cw2_11 : w2.cell? ⟨w.heap.size + 1, 3, none⟩ = some (.int .i64 0) := (hb1.cell (p := ⟨w.heap.size + 1, 3, none⟩) (by first | (simp; done) | (simp [World.drew]; done) | (simp; omega))).trans (by go_simp)
      have cw2_12 : w2.cell? ⟨w.heap.size + 1, 4, none⟩ = some (.string ⟨#[]⟩) := (hb1.cell (p := ⟨w.heap.size + 1, 4, none⟩) (by first | (simp; done) | (simp [World.drew]; done) | (simp; omega))).trans (by go_simp)
      have cw2_13 : w2.cell? ⟨w.heap.size + 1, 5, none⟩ = some (.string a5) := (hb1.cell (p := ⟨w.heap.size + 1, 5, none⟩) (by first | (simp; done) | (simp [World.drew]; done) | (simp; omega))).trans (by go_simp)
      have HB1 := Lib.hid (HBD.out.trans (hb1.mono HBD.out.size))
      clear hb1
      go_wp2
      all_goals go_ret
      all_goals
        first
          | (exact ⟨ret_b (N1.out (by assumption)).symm, HB1.out⟩)
          | (exact ⟨ret_b (N3.out (by assumption)).symm, HB1.out⟩)
          | (exact ⟨ret_b (N4.out (by assumption)).symm, HB1.out⟩)
          | (exact ⟨ret_b (HF.out (by assumption) (by assumption) (by assumption)), HB1.out⟩)

set_option maxHeartbeats 6400000 in
set_option maxRecDepth 100000 in
theorem impl_isValidNode_4 (n : ENode) (hk : n.fKind = 4) (hs1 : n.fSymbol.size ≤ 1048576) (hs2 : n.fName.size ≤ 1048576) (w : World) :
    Calls Try.prog 44 #[.agg #[.int .i64 n.fKind, .int .i64 n.fN, .int .i64 n.fPos, .int .i64 n.fType, .string n.fSymbol, .string n.fName, .int .i64 (n.fArgs : Int), .int .i64 (n.fDepth : Int)]] w fun e w' => e = .returned (.bool (validN n)) ∧ Below w.heap.size w w' := by
  have HO := Lib.hid (okN_4 hk)
  have HKR := Lib.hid (show inR n.fKind 1 8 = true by rw [hk]; decide)
  have HY := Lib.hid (show n.fPos = 0 → n.fType = 0 → n.fSymbol.toList = [] → n.fName.toList = [] → n.fArgs = 2 → validN n = okN n from fun g2 g3 g4 g5 g6 => validN_of HKR.out ⟨(by rw [hk]; exact g6), Or.inr (Or.inr (g2)), Or.inr (Or.inr (g5)), Or.inr (Or.inl hk), Or.inr (g3), Or.inr (g4)⟩)
  have N2 := Lib.hid (show ¬ n.fPos = 0 → validN n = false from fun g => validN_bare fun hb => by rcases hb.2.1 with h | h | h <;> first | exact g h | omega)
  have N3 := Lib.hid (show ¬ n.fType = 0 → validN n = false from fun g => validN_bare fun hb => by rcases hb.2.2.2.2.1 with h | h <;> first | exact g h | omega)
  have N4 := Lib.hid (show ¬ n.fSymbol.toList = [] → validN n = false from fun g => validN_bare fun hb => by rcases hb.2.2.2.2.2 with h | h <;> first | exact g h | omega)
  have N5 := Lib.hid (show ¬ n.fName.toList = [] → validN n = false from fun g => validN_bare fun hb => by rcases hb.2.2.1 with h | h | h <;> first | exact g h | omega)
  have N6 := Lib.hid (show ¬ n.fArgs = 2 → validN n = false from fun g => validN_bare fun hb => by have h := hb.1; rw [hk] at h; exact g h)
  have NO := Lib.hid (show okN n = false → validN n = false from validN_ok)
  have HC := Lib.hid (show okN n = true → ∃ (l r o : Int) (f : Nat), ∀ W, Calls Try.prog 65 #[.int .i64 n.fN] W fun e w' => e = .returned (.agg #[.int .i64 l, .int .i64 r, .int .i64 o, .func (.func f) #[] #[]]) ∧ Below W.heap.size W w' from fun h => operatorOf_yes (by rw [okN_4 hk] at h; exact h))
  have HC0 := Lib.hid (show okN n = false → ∀ W, Calls Try.prog 65 #[.int .i64 n.fN] W fun e w' => e = .returned (.agg #[.int .i64 0, .int .i64 0, .int .i64 0, .nilFunc]) ∧ Below W.heap.size W w' from fun h => operatorOf_no (by rw [okN_4 hk] at h; exact h))
  rw [hk]
  clear hk HKR
  generalize validN n = v at *
  generalize okN n = q at *
  generalize n.fN = a1 at *
  generalize n.fPos = a2 at *
  generalize n.fType = a3 at *
  generalize n.fSymbol = a4 at *
  generalize n.fName = a5 at *
  generalize n.fArgs = a6 at *
  generalize n.fDepth = a7 at *
  have HB := Lib.hid (((Below.refl w.heap.size w).alloc (Nat.le_refl _) (.cells #[.int .i64 4, .int .i64 a1, .int .i64 a2, .int .i64 a3, .string a4, .string a5, .int .i64 (a6 : Int), .int .i64 (a7 : Int)] 71)).alloc (by simp) (.cells #[.int .i64 4, .int .i64 a1, .int .i64 0, .int .i64 0, .string ⟨#[]⟩, .string ⟨#[]⟩] 69))
  have HBD := Lib.hid (HB.out.drew)
  cases hq : q
  · have QV := Lib.hid hq
    have hn0 := fun w => neq_nil_nil w
    have hf0 := fun w => field_nil w
    have HC1 := Lib.hid (HC0.out hq)
    clear hq
    go_enter Try.func44, Try.ntmps44
    go_wp2_with fail
    refine (HC1.out _).mono ?_
    rintro e w1 ⟨rfl, hb1⟩
    have cw1_0 : w1.cell? ⟨w.heap.size, 0, none⟩ = some (.int .i64 4) := (hb1.cell (p := ⟨w.heap.size, 0, none⟩) (by first | (simp; done) | (simp [World.drew]; done) | (simp; omega))).trans (by go_simp)
    have cw1_1 : w1.cell? ⟨w.heap.size, 1, none⟩ = some (.int .i64 a1) := (hb1.cell (p := ⟨w.heap.size, 1, none⟩) (by first | (simp; done) | (simp [World.drew]; done) | (simp; omega))).trans (by go_simp)
    have cw1_2 : w1.cell? ⟨w.heap.size, 2, none⟩ = some (.int .i64 a2) := (hb1.cell (p := ⟨w.heap.size, 2, none⟩) (by first | (simp; done) | (simp [World.drew]; done) | (simp; omega))).trans (by go_simp)
    have cw1_3 : w1.cell? ⟨w.heap.size, 3, none⟩ = some (.int .i64 a3) := (hb1.cell (p := ⟨w.heap.size, 3, none⟩) (by first | (simp; done) | (simp [World.drew]; done) | (simp; omega))).trans (by go_simp)
    have cw1_4 : w1.cell? ⟨w.heap.size, 4, none⟩ = some (.string a4) := (hb1.cell (p := ⟨w.heap.size, 4, none⟩) (by first | (simp; done) | (simp [World.drew]; done) | (simp; omega))).trans (by go_simp)
    have cw1_5 : w1.cell? ⟨w.heap.size, 5, none⟩ = some (.string a5) := (hb1.cell (p := ⟨w.heap.size, 5, none⟩) (by first | (simp; done) | (simp [World.drew]; done) | (simp; omega))).trans (by go_simp)
    have cw1_6 : w1.cell? ⟨w.heap.size, 6, none⟩ = some (.int .i64 (a6 : Int)) := (hb1.cell (p := ⟨w.heap.size, 6, none⟩) (by first | (simp; done) | (simp [World.drew]; done) | (simp; omega))).trans (by go_simp)
    have cw1_7 : w1.cell? ⟨w.heap.size, 7, none⟩ = some (.int .i64 (a7 : Int)) := (hb1.cell (p := ⟨w.heap.size, 7, none⟩) (by first | (simp; done) | (simp [World.drew]; done) | (simp; omega))).trans (by go_simp)
    have cw1_8 : w1.cell? ⟨w.heap.size + 1, 0, none⟩ = some (.int .i64 4) := (hb1.cell (p := ⟨w.heap.size + 1, 0, none⟩) (by first | (simp; done) | (simp [World.drew]; done) | (simp; omega))).trans (by go_simp)
    have cw1_9 : w1.cell? ⟨w.heap.size + 1, 1, none⟩ = some (.int .i64 a1) := (hb1.cell (p := ⟨w.heap.size + 1, 1, none⟩) (by first | (simp; done) | (simp [World.drew]; done) | (simp; omega))).trans (by go_simp)
    have cw1_10 : w1.cell? ⟨w.heap.size + 1, 2, none⟩ = some (.int .i64 0) := (hb1.cell (p := ⟨w.heap.size + 1, 2, none⟩) (by first | (simp; done) | (simp [World.drew]; done) | (simp; omega))).trans (by go_simp)
    have cw1_11 : w1.cell? ⟨w.heap.size + 1, 3, none⟩ = some (.int .i64 0) := (hb1.cell (p := ⟨w.heap.size + 1, 3, none⟩) (by first | (simp; done) | (simp [World.drew]; done) | (simp; omega))).trans (by go_simp)
    have cw1_12 : w1.cell? ⟨w.heap.size + 1, 4, none⟩ = some (.string ⟨#[]⟩) := (hb1.cell (p := ⟨w.heap.size + 1, 4, none⟩) (by first | (simp; done) | (simp [World.drew]; done) | (simp; omega))).trans (by go_simp)
    have cw1_13 : w1.cell? ⟨w.heap.size + 1, 5, none⟩ = some (.string ⟨#[]⟩) := (hb1.cell (p := ⟨w.heap.size + 1, 5, none⟩) (by first | (simp; done) | (simp [World.drew]; done) | (simp; omega))).trans (by go_simp)
    have HB1 := Lib.hid (HB.out.trans (hb1.mono HB.out.size))
    clear hb1
    go_wp2
    all_goals go_ret
    all_goals
      exact ⟨ret_b (NO.out QV.out).symm, HB1.out⟩
  · have QV := Lib.hid hq
    obtain ⟨l1, r1, o1, f1, hC⟩ := HC.out hq
    have HC1 := Lib.hid hC
    clear hC
    have hn0 := fun w => neq_fn_nil f1 w
    have hf0 := fun w => field_fn l1 r1 o1 f1 w
    clear hq
    have HF := Lib.hid (show a2 = 0 → a3 = 0 → a4.toList = [] → a5.toList = [] → (((a6 : Nat) : Int) == 2) = v from fun g2 g3 g4 g5 => by
      by_cases g6 : a6 = 2
      · rw [HY.out g2 g3 g4 g5 g6, QV.out, g6]; rfl
      · rw [N6.out g6]; exact beq_eq_false_iff_ne.2 (by omega))
    go_enter Try.func44, Try.ntmps44
    go_wp2_with fail
    refine (HC1.out _).mono ?_
    rintro e w1 ⟨rfl, hb1⟩
    have cw1_0 : w1.cell? ⟨w.heap.size, 0, none⟩ = some (.int .i64 4) := (hb1.cell (p := ⟨w.heap.size, 0, none⟩) (by first | (simp; done) | (simp [World.drew]; done) | (simp; omega))).trans (by go_simp)
    have cw1_1 : w1.cell? ⟨w.heap.size, 1, none⟩ = some (.int .i64 a1) := (hb1.cell (p := ⟨w.heap.size, 1, none⟩) (by first | (simp; done) | (simp [World.drew]; done) | (simp; omega))).trans (by go_simp)
    have cw1_2 : w1.cell? ⟨w.heap.size, 2, none⟩ = some (.int .i64 a2) := (hb1.cell (p := ⟨w.heap.size, 2, none⟩) (by first | (simp; done) | (simp [World.drew]; done) | (simp; omega))).trans (by go_simp)
    have cw1_3 : w1.cell? ⟨w.heap.size, 3, none⟩ = some (.int .i64 a3) := (hb1.cell (p := ⟨w.heap.size, 3, none⟩) (by first | (simp; done) | (simp [World.drew]; done) | (simp; omega))).trans (by go_simp)
    have cw1_4 : w1.cell? ⟨w.heap.size, 4, none⟩ = some (.string a4) := (hb1.cell (p := ⟨w.heap.size, 4, none⟩) (by first | (simp; done) | (simp [World.drew]; done) | (simp; omega))).trans (by go_simp)
    have cw1_5 : w1.cell? ⟨w.heap.size, 5, none⟩ = some (.string a5) := (hb1.cell (p := ⟨w.heap.size, 5, none⟩) (by first | (simp; done) | (simp [World.drew]; done) | (simp; omega))).trans (by go_simp)
    have cw1_6 : w1.cell? ⟨w.heap.size, 6, none⟩ = some (.int .i64 (a6 : Int)) := (hb1.cell (p := ⟨w.heap.size, 6, none⟩) (by first | (simp; done) | (simp [World.drew]; done) | (simp; omega))).trans (by go_simp)
    have cw1_7 : w1.cell? ⟨w.heap.size, 7, none⟩ = some (.int .i64 (a7 : Int)) := (hb1.cell (p := ⟨w.heap.size, 7, none⟩) (by first | (simp; done) | (simp [World.drew]; done) | (simp; omega))).trans (by go_simp)
    have cw1_8 : w1.cell? ⟨w.heap.size + 1, 0, none⟩ = some (.int .i64 4) := (hb1.cell (p := ⟨w.heap.size + 1, 0, none⟩) (by first | (simp; done) | (simp [World.drew]; done) | (simp; omega))).trans (by go_simp)
    have cw1_9 : w1.cell? ⟨w.heap.size + 1, 1, none⟩ = some (.int .i64 a1) := (hb1.cell (p := ⟨w.heap.size + 1, 1, none⟩) (by first | (simp; done) | (simp [World.drew]; done) | (simp; omega))).trans (by go_simp)
    have cw1_10 : w1.cell? ⟨w.heap.size + 1, 2, none⟩ = some (.int .i64 0) := (hb1.cell (p := ⟨w.heap.size + 1, 2, none⟩) (by first | (simp; done) | (simp [World.drew]; done) | (simp; omega))).trans (by go_simp)
    have cw1_11 : w1.cell? ⟨w.heap.size + 1, 3, none⟩ = some (.int .i64 0) := (hb1.cell (p := ⟨w.heap.size + 1, 3, none⟩) (by first | (simp; done) | (simp [World.drew]; done) | (simp; omega))).trans (by go_simp)
    have cw1_12 : w1.cell? ⟨w.heap.size + 1, 4, none⟩ = some (.string ⟨#[]⟩) := (hb1.cell (p := ⟨w.heap.size + 1, 4, none⟩) (by first | (simp; done) | (simp [World.drew]; done) | (simp; omega))).trans (by go_simp)
    have cw1_13 : w1.cell? ⟨w.heap.size + 1, 5, none⟩ = some (.string ⟨#[]⟩) := (hb1.cell (p := ⟨w.heap.size + 1, 5, none⟩) (by first | (simp; done) | (simp [World.drew]; done) | (simp; omega))).trans (by go_simp)
    have HB1 := Lib.hid (HB.out.trans (hb1.mono HB.out.size))
    clear hb1
    go_wp2
    all_goals go_ret
    all_goals
      first
        | (exact ⟨ret_b (N2.out (by assumption)).symm, HB1.out⟩)
        | (exact ⟨ret_b (N3.out (by assumption)).symm, HB1.out⟩)
        | (exact ⟨ret_b (N4.out (by assumption)).symm, HB1.out⟩)
        | (exact ⟨ret_b (N5.out (by assumption)).symm, HB1.out⟩)
        | (exact ⟨ret_b (HF.out (by assumption) (by assumption) (by assumption) (by assumption)), HB1.out⟩)

set_option maxHeartbeats 6400000 in
set_option maxRecDepth 100000 in
theorem impl_isValidNode_5 (n : ENode) (hk : n.fKind = 5) (hs1 : n.fSymbol.size ≤ 1048576) (hs2 : n.fName.size ≤ 1048576) (w : World) :
    Calls Try.prog 44 #[.agg #[.int .i64 n.fKind, .int .i64 n.fN, .int .i64 n.fPos, .int .i64 n.fType, .string n.fSymbol, .string n.fName, .int .i64 (n.fArgs : Int), .int .i64 (n.fDepth : Int)]] w fun e w' => e = .returned (.bool (validN n)) ∧ Below w.heap.size w w' := by
  have HO := Lib.hid (okN_5 hk)
  have HKR := Lib.hid (show inR n.fKind 1 8 = true by rw [hk]; decide)
  have HY := Lib.hid (show n.fN = 0 → n.fPos = 0 → n.fType = 0 → n.fSymbol.toList = [] → n.fName.toList = [] → n.fArgs = 3 → validN n = okN n from fun g1 g2 g3 g4 g5 g6 => validN_of HKR.out ⟨(by rw [hk]; exact g6), Or.inr (Or.inr (g2)), Or.inr (Or.inr (g5)), Or.inr (Or.inr (g1)), Or.inr (g3), Or.inr (g4)⟩)
  have N1 := Lib.hid (show ¬ n.fN = 0 → validN n = false from fun g => validN_bare fun hb => by rcases hb.2.2.2.1 with h | h | h <;> first | exact g h | omega)
  have N2 := Lib.hid (show ¬ n.fPos = 0 → validN n = false from fun g => validN_bare fun hb => by rcases hb.2.1 with h | h | h <;> first | exact g h | omega)
  have N3 := Lib.hid (show ¬ n.fType = 0 → validN n = false from fun g => validN_bare fun hb => by rcases hb.2.2.2.2.1 with h | h <;> first | exact g h | omega)
  have N4 := Lib.hid (show ¬ n.fSymbol.toList = [] → validN n = false from fun g => validN_bare fun hb => by rcases hb.2.2.2.2.2 with h | h <;> first | exact g h | omega)
  have N5 := Lib.hid (show ¬ n.fName.toList = [] → validN n = false from fun g => validN_bare fun hb => by rcases hb.2.2.1 with h | h | h <;> first | exact g h | omega)
  have N6 := Lib.hid (show ¬ n.fArgs = 3 → validN n = false from fun g => validN_bare fun hb => by have h := hb.1; rw [hk] at h; exact g h)
  have NO := Lib.hid (show okN n = false → validN n = false from validN_ok)
  rw [hk]
  clear hk HKR
  generalize validN n = v at *
  generalize okN n = q at *
  generalize n.fN = a1 at *
  generalize n.fPos = a2 at *
  generalize n.fType = a3 at *
  generalize n.fSymbol = a4 at *
  generalize n.fName = a5 at *
  generalize n.fArgs = a6 at *
  generalize n.fDepth = a7 at *
  have QV := Lib.hid (show q = true from HO.out)
  have HB := Lib.hid (((Below.refl w.heap.size w).alloc (Nat.le_refl _) (.cells #[.int .i64 5, .int .i64 a1, .int .i64 a2, .int .i64 a3, .string a4, .string a5, .int .i64 (a6 : Int), .int .i64 (a7 : Int)] 71)).alloc (by simp) (.cells #[.int .i64 5, .int .i64 0, .int .i64 0, .int .i64 0, .string ⟨#[]⟩, .string ⟨#[]⟩] 69))
  have HBD := Lib.hid (HB.out.drew)
  have HF := Lib.hid (show a1 = 0 → a2 = 0 → a3 = 0 → a4.toList = [] → a5.toList = [] → (((a6 : Nat) : Int) == 3) = v from fun g1 g2 g3 g4 g5 => by
    by_cases g6 : a6 = 3
    · rw [HY.out g1 g2 g3 g4 g5 g6, QV.out, g6]; rfl
    · rw [N6.out g6]; exact beq_eq_false_iff_ne.2 (by omega))
  go_enter Try.func44, Try.ntmps44
  go_wp2
  all_goals go_ret
  all_goals
    first
      | (exact ⟨ret_b (N1.out (by assumption)).symm, (by repeat (first | (with_reducible exact Below.refl _ _) | (with_reducible apply Below.drew) | (refine Below.alloc ?_ (by simp <;> omega) _)) : Below w.heap.size w _)⟩)
      | (exact ⟨ret_b (N2.out (by assumption)).symm, (by repeat (first | (with_reducible exact Below.refl _ _) | (with_reducible apply Below.drew) | (refine Below.alloc ?_ (by simp <;> omega) _)) : Below w.heap.size w _)⟩)
      | (exact ⟨ret_b (N3.out (by assumption)).symm, (by repeat (first | (with_reducible exact Below.refl _ _) | (with_reducible apply Below.drew) | (refine Below.alloc ?_ (by simp <;> omega) _)) : Below w.heap.size w _)⟩)
      | (exact ⟨ret_b (N4.out (by assumption)).symm, (by repeat (first | (with_reducible exact Below.refl _ _) | (with_reducible apply Below.drew) | (refine Below.alloc ?_ (by simp <;> omega) _)) : Below w.heap.size w _)⟩)
      | (exact ⟨ret_b (N5.out (by assumption)).symm, (by repeat (first | (with_reducible exact Below.refl _ _) | (with_reducible apply Below.drew) | (refine Below.alloc ?_ (by simp <;> omega) _)) : Below w.heap.size w _)⟩)
      | (exact ⟨ret_b (HF.out (by assumption) (by assumption) (by assumption) (by assumption) (by assumption)), (by repeat (first | (with_reducible exact Below.refl _ _) | (with_reducible apply Below.drew) | (refine Below.alloc ?_ (by simp <;> omega) _)) : Below w.heap.size w _)⟩)

set_option maxHeartbeats 6400000 in
set_option maxRecDepth 100000 in
theorem impl_isValidNode_6 (n : ENode) (hk : n.fKind = 6) (hs1 : n.fSymbol.size ≤ 1048576) (hs2 : n.fName.size ≤ 1048576) (w : World) :
    Calls Try.prog 44 #[.agg #[.int .i64 n.fKind, .int .i64 n.fN, .int .i64 n.fPos, .int .i64 n.fType, .string n.fSymbol, .string n.fName, .int .i64 (n.fArgs : Int), .int .i64 (n.fDepth : Int)]] w fun e w' => e = .returned (.bool (validN n)) ∧ Below w.heap.size w w' := by
  have HO := Lib.hid (okN_6 hk)
  have HKR := Lib.hid (show inR n.fKind 1 8 = true by rw [hk]; decide)
  have HY := Lib.hid (show n.fN = 0 → n.fType = 0 → n.fSymbol.toList = [] → n.fName.toList = [] → n.fArgs = 0 → validN n = okN n from fun g1 g3 g4 g5 g6 => validN_of HKR.out ⟨(by rw [hk]; exact g6), Or.inr (Or.inl hk), Or.inr (Or.inr (g5)), Or.inr (Or.inr (g1)), Or.inr (g3), Or.inr (g4)⟩)
  have N1 := Lib.hid (show ¬ n.fN = 0 → validN n = false from fun g => validN_bare fun hb => by rcases hb.2.2.2.1 with h | h | h <;> first | exact g h | omega)
  have N3 := Lib.hid (show ¬ n.fType = 0 → validN n = false from fun g => validN_bare fun hb => by rcases hb.2.2.2.2.1 with h | h <;> first | exact g h | omega)
  have N4 := Lib.hid (show ¬ n.fSymbol.toList = [] → validN n = false from fun g => validN_bare fun hb => by rcases hb.2.2.2.2.2 with h | h <;> first | exact g h | omega)
  have N5 := Lib.hid (show ¬ n.fName.toList = [] → validN n = false from fun g => validN_bare fun hb => by rcases hb.2.2.1 with h | h | h <;> first | exact g h | omega)
  have N6 := Lib.hid (show ¬ n.fArgs = 0 → validN n = false from fun g => validN_bare fun hb => by have h := hb.1; rw [hk] at h; exact g h)
  have NO := Lib.hid (show okN n = false → validN n = false from validN_ok)
  have HC := Lib.hid (fun W => impl_isPosition n.fPos W)
  rw [← okN_6 hk] at HC
  rw [hk]
  clear hk HKR
  generalize validN n = v at *
  generalize okN n = q at *
  generalize n.fN = a1 at *
  generalize n.fPos = a2 at *
  generalize n.fType = a3 at *
  generalize n.fSymbol = a4 at *
  generalize n.fName = a5 at *
  generalize n.fArgs = a6 at *
  generalize n.fDepth = a7 at *
  have HB := Lib.hid (((Below.refl w.heap.size w).alloc (Nat.le_refl _) (.cells #[.int .i64 6, .int .i64 a1, .int .i64 a2, .int .i64 a3, .string a4, .string a5, .int .i64 (a6 : Int), .int .i64 (a7 : Int)] 71)).alloc (by simp) (.cells #[.int .i64 6, .int .i64 0, .int .i64 a2, .int .i64 0, .string ⟨#[]⟩, .string ⟨#[]⟩] 69))
  have HBD := Lib.hid (HB.out.drew)
  cases hq : q
  · have QV := Lib.hid hq
    rw [hq] at HC
    clear hq
    go_enter Try.func44, Try.ntmps44
    go_wp2_with fail
    refine (HC.out _).mono ?_
    rintro e w1 ⟨rfl, rfl⟩
    go_wp2
    all_goals go_ret
    all_goals
      exact ⟨ret_b (NO.out QV.out).symm, (by repeat (first | (with_reducible exact Below.refl _ _) | (with_reducible apply Below.drew) | (refine Below.alloc ?_ (by simp <;> omega) _)) : Below w.heap.size w _)⟩
  · have QV := Lib.hid hq
    rw [hq] at HC
    clear hq
    have HF := Lib.hid (show a1 = 0 → a3 = 0 → a4.toList = [] → a5.toList = [] → (((a6 : Nat) : Int) == 0) = v from fun g1 g3 g4 g5 => by
      by_cases g6 : a6 = 0
      · rw [HY.out g1 g3 g4 g5 g6, QV.out, g6]; rfl
      · rw [N6.out g6]; exact beq_eq_false_iff_ne.2 (by omega))
    go_enter Try.func44, Try.ntmps44
    go_wp2_with fail
    refine (HC.out _).mono ?_
    rintro e w1 ⟨rfl, rfl⟩
    go_wp2
    all_goals go_ret
    all_goals
      first
        | (exact ⟨ret_b (N1.out (by assumption)).symm, (by repeat (first | (with_reducible exact Below.refl _ _) | (with_reducible apply Below.drew) | (refine Below.alloc ?_ (by simp <;> omega) _)) : Below w.heap.size w _)⟩)
        | (exact ⟨ret_b (N3.out (by assumption)).symm, (by repeat (first | (with_reducible exact Below.refl _ _) | (with_reducible apply Below.drew) | (refine Below.alloc ?_ (by simp <;> omega) _)) : Below w.heap.size w _)⟩)
        | (exact ⟨ret_b (N4.out (by assumption)).symm, (by repeat (first | (with_reducible exact Below.refl _ _) | (with_reducible apply Below.drew) | (refine Below.alloc ?_ (by simp <;> omega) _)) : Below w.heap.size w _)⟩)
        | (exact ⟨ret_b (N5.out (by assumption)).symm, (by repeat (first | (with_reducible exact Below.refl _ _) | (with_reducible apply Below.drew) | (refine Below.alloc ?_ (by simp <;> omega) _)) : Below w.heap.size w _)⟩)
        | (exact ⟨ret_b (HF.out (by assumption) (by assumption) (by assumption) (by assumption)), (by repeat (first | (with_reducible exact Below.refl _ _) | (with_reducible apply Below.drew) | (refine Below.alloc ?_ (by simp <;> omega) _)) : Below w.heap.size w _)⟩)

set_option maxHeartbeats 6400000 in
set_option maxRecDepth 100000 in
theorem impl_isValidNode_7 (n : ENode) (hk : n.fKind = 7) (hs1 : n.fSymbol.size ≤ 1048576) (hs2 : n.fName.size ≤ 1048576) (w : World) :
    Calls Try.prog 44 #[.agg #[.int .i64 n.fKind, .int .i64 n.fN, .int .i64 n.fPos, .int .i64 n.fType, .string n.fSymbol, .string n.fName, .int .i64 (n.fArgs : Int), .int .i64 (n.fDepth : Int)]] w fun e w' => e = .returned (.bool (validN n)) ∧ Below w.heap.size w w' := by
  have HO := Lib.hid (okN_7 hk)
  have HKR := Lib.hid (show inR n.fKind 1 8 = true by rw [hk]; decide)
  have HY := Lib.hid (show n.fN = 0 → n.fPos = 0 → n.fType = 0 → n.fSymbol.toList = [] → n.fName.toList = [] → n.fArgs = 0 → validN n = okN n from fun g1 g2 g3 g4 g5 g6 => validN_of HKR.out ⟨(by rw [hk]; exact g6), Or.inr (Or.inr (g2)), Or.inr (Or.inr (g5)), Or.inr (Or.inr (g1)), Or.inr (g3), Or.inr (g4)⟩)
  have N1 := Lib.hid (show ¬ n.fN = 0 → validN n = false from fun g => validN_bare fun hb => by rcases hb.2.2.2.1 with h | h | h <;> first | exact g h | omega)
  have N2 := Lib.hid (show ¬ n.fPos = 0 → validN n = false from fun g => validN_bare fun hb => by rcases hb.2.1 with h | h | h <;> first | exact g h | omega)
  have N3 := Lib.hid (show ¬ n.fType = 0 → validN n = false from fun g => validN_bare fun hb => by rcases hb.2.2.2.2.1 with h | h <;> first | exact g h | omega)
  have N4 := Lib.hid (show ¬ n.fSymbol.toList = [] → validN n = false from fun g => validN_bare fun hb => by rcases hb.2.2.2.2.2 with h | h <;> first | exact g h | omega)
  have N5 := Lib.hid (show ¬ n.fName.toList = [] → validN n = false from fun g => validN_bare fun hb => by rcases hb.2.2.1 with h | h | h <;> first | exact g h | omega)
  have N6 := Lib.hid (show ¬ n.fArgs = 0 → validN n = false from fun g => validN_bare fun hb => by have h := hb.1; rw [hk] at h; exact g h)
  have NO := Lib.hid (show okN n = false → validN n = false from validN_ok)
  rw [hk]
  clear hk HKR
  generalize validN n = v at *
  generalize okN n = q at *
  generalize n.fN = a1 at *
  generalize n.fPos = a2 at *
  generalize n.fType = a3 at *
  generalize n.fSymbol = a4 at *
  generalize n.fName = a5 at *
  generalize n.fArgs = a6 at *
  generalize n.fDepth = a7 at *
  have QV := Lib.hid (show q = true from HO.out)
  have HB := Lib.hid (((Below.refl w.heap.size w).alloc (Nat.le_refl _) (.cells #[.int .i64 7, .int .i64 a1, .int .i64 a2, .int .i64 a3, .string a4, .string a5, .int .i64 (a6 : Int), .int .i64 (a7 : Int)] 71)).alloc (by simp) (.cells #[.int .i64 7, .int .i64 0, .int .i64 0, .int .i64 0, .string ⟨#[]⟩, .string ⟨#[]⟩] 69))
  have HBD := Lib.hid (HB.out.drew)
  have HF := Lib.hid (show a1 = 0 → a2 = 0 → a3 = 0 → a4.toList = [] → a5.toList = [] → (((a6 : Nat) : Int) == 0) = v from fun g1 g2 g3 g4 g5 => by
    by_cases g6 : a6 = 0
    · rw [HY.out g1 g2 g3 g4 g5 g6, QV.out, g6]; rfl
    · rw [N6.out g6]; exact beq_eq_false_iff_ne.2 (by omega))
  go_enter Try.func44, Try.ntmps44
  go_wp2
  all_goals go_ret
  all_goals
    first
      | (exact ⟨ret_b (N1.out (by assumption)).symm, (by repeat (first | (with_reducible exact Below.refl _ _) | (with_reducible apply Below.drew) | (refine Below.alloc ?_ (by simp <;> omega) _)) : Below w.heap.size w _)⟩)
      | (exact ⟨ret_b (N2.out (by assumption)).symm, (by repeat (first | (with_reducible exact Below.refl _ _) | (with_reducible apply Below.drew) | (refine Below.alloc ?_ (by simp <;> omega) _)) : Below w.heap.size w _)⟩)
      | (exact ⟨ret_b (N3.out (by assumption)).symm, (by repeat (first | (with_reducible exact Below.refl _ _) | (with_reducible apply Below.drew) | (refine Below.alloc ?_ (by simp <;> omega) _)) : Below w.heap.size w _)⟩)
      | (exact ⟨ret_b (N4.out (by assumption)).symm, (by repeat (first | (with_reducible exact Below.refl _ _) | (with_reducible apply Below.drew) | (refine Below.alloc ?_ (by simp <;> omega) _)) : Below w.heap.size w _)⟩)
      | (exact ⟨ret_b (N5.out (by assumption)).symm, (by repeat (first | (with_reducible exact Below.refl _ _) | (with_reducible apply Below.drew) | (refine Below.alloc ?_ (by simp <;> omega) _)) : Below w.heap.size w _)⟩)
      | (exact ⟨ret_b (HF.out (by assumption) (by assumption) (by assumption) (by assumption) (by assumption)), (by repeat (first | (with_reducible exact Below.refl _ _) | (with_reducible apply Below.drew) | (refine Below.alloc ?_ (by simp <;> omega) _)) : Below w.heap.size w _)⟩)

set_option maxHeartbeats 6400000 in
set_option maxRecDepth 100000 in
theorem impl_isValidNode_8 (n : ENode) (hk : n.fKind = 8) (hs1 : n.fSymbol.size ≤ 1048576) (hs2 : n.fName.size ≤ 1048576) (w : World) :
    Calls Try.prog 44 #[.agg #[.int .i64 n.fKind, .int .i64 n.fN, .int .i64 n.fPos, .int .i64 n.fType, .string n.fSymbol, .string n.fName, .int .i64 (n.fArgs : Int), .int .i64 (n.fDepth : Int)]] w fun e w' => e = .returned (.bool (validN n)) ∧ Below w.heap.size w w' := by
  have HO := Lib.hid (okN_8 hk)
  have HKR := Lib.hid (show inR n.fKind 1 8 = true by rw [hk]; decide)
  have HY := Lib.hid (show n.fN = 0 → n.fPos = 0 → n.fType = 0 → n.fArgs = 1 → validN n = okN n from fun g1 g2 g3 g6 => validN_of HKR.out ⟨(by rw [hk]; exact g6), Or.inr (Or.inr (g2)), Or.inr (Or.inl hk), Or.inr (Or.inr (g1)), Or.inr (g3), Or.inl hk⟩)
  have N1 := Lib.hid (show ¬ n.fN = 0 → validN n = false from fun g => validN_bare fun hb => by rcases hb.2.2.2.1 with h | h | h <;> first | exact g h | omega)
  have N2 := Lib.hid (show ¬ n.fPos = 0 → validN n = false from fun g => validN_bare fun hb => by rcases hb.2.1 with h | h | h <;> first | exact g h | omega)
  have N3 := Lib.hid (show ¬ n.fType = 0 → validN n = false from fun g => validN_bare fun hb => by rcases hb.2.2.2.2.1 with h | h <;> first | exact g h | omega)
  have N6 := Lib.hid (show ¬ n.fArgs = 1 → validN n = false from fun g => validN_bare fun hb => by have h := hb.1; rw [hk] at h; exact g h)
  have NO := Lib.hid (show okN n = false → validN n = false from validN_ok)
  have HC := Lib.hid (fun W => impl_IsValidName n.fSymbol hs1 W)
  have HD := Lib.hid (fun W => impl_IsValidName n.fName hs2 W)
  obtain ⟨q1, hq1⟩ : ∃ q1, validName n.fSymbol = q1 := ⟨_, rfl⟩
  obtain ⟨q2, hq2⟩ : ∃ q2, validName n.fName = q2 := ⟨_, rfl⟩
  rw [hq1] at HC HO
  rw [hq2] at HD HO
  clear hq1 hq2
  rw [hk]
  clear hk HKR
  generalize validN n = v at *
  generalize okN n = q at *
  generalize n.fN = a1 at *
  generalize n.fPos = a2 at *
  generalize n.fType = a3 at *
  generalize n.fSymbol = a4 at *
  generalize n.fName = a5 at *
  generalize n.fArgs = a6 at *
  generalize n.fDepth = a7 at *
  have HB := Lib.hid (((Below.refl w.heap.size w).alloc (Nat.le_refl _) (.cells #[.int .i64 8, .int .i64 a1, .int .i64 a2, .int .i64 a3, .string a4, .string a5, .int .i64 (a6 : Int), .int .i64 (a7 : Int)] 71)).alloc (by simp) (.cells #[.int .i64 8, .int .i64 0, .int .i64 0, .int .i64 0, .string a4, .string a5] 69))
  have HBD := Lib.hid (HB.out.drew)
  cases q1
  · have QV := Lib.hid (show q = false from HO.out.trans rfl)
    go_enter Try.func44, Try.ntmps44
    go_wp2_with fail
    go_region
    all_goals go_wp2_with fail
    refine (HC.out _).mono ?_
    rintro e w1 ⟨rfl, hb0⟩
    have cw1_0 : w1.cell? ⟨w.heap.size, 0, none⟩ = some (.int .i64 8) := (hb0.cell (p := ⟨w.heap.size, 0, none⟩) (by first | (simp; done) | (simp [World.drew]; done) | (simp; omega))).trans (by go_simp)
    have cw1_1 : w1.cell? ⟨w.heap.size, 1, none⟩ = some (.int .i64 a1) := (hb0.cell (p := ⟨w.heap.size, 1, none⟩) (by first | (simp; done) | (simp [World.drew]; done) | (simp; omega))).trans (by go_simp)
    have cw1_2 : w1.cell? ⟨w.heap.size, 2, none⟩ = some (.int .i64 a2) := (hb0.cell (p := ⟨w.heap.size, 2, none⟩) (by first | (simp; done) | (simp [World.drew]; done) | (simp; omega))).trans (by go_simp)
    have cw1_3 : w1.cell? ⟨w.heap.size, 3, none⟩ = some (.int .i64 a3) := (hb0.cell (p := ⟨w.heap.size, 3, none⟩) (by first | (simp; done) | (simp [World.drew]; done) | (simp; omega))).trans (by go_simp)
    have cw1_4 : w1.cell? ⟨w.heap.size, 4, none⟩ = some (.string a4) := (hb0.cell (p := ⟨w.heap.size, 4, none⟩) (by first | (simp; done) | (simp [World.drew]; done) | (simp; omega))).trans (by go_simp)
    have cw1_5 : w1.cell? ⟨w.heap.size, 5, none⟩ = some (.string a5) := (hb0.cell (p := ⟨w.heap.size, 5, none⟩) (by first | (simp; done) | (simp [World.drew]; done) | (simp; omega))).trans (by go_simp)
    have cw1_6 : w1.cell? ⟨w.heap.size, 6, none⟩ = some (.int .i64 (a6 : Int)) := (hb0.cell (p := ⟨w.heap.size, 6, none⟩) (by first | (simp; done) | (simp [World.drew]; done) | (simp; omega))).trans (by go_simp)
    have cw1_7 : w1.cell? ⟨w.heap.size, 7, none⟩ = some (.int .i64 (a7 : Int)) := (hb0.cell (p := ⟨w.heap.size, 7, none⟩) (by first | (simp; done) | (simp [World.drew]; done) | (simp; omega))).trans (by go_simp)
    have cw1_8 : w1.cell? ⟨w.heap.size + 1, 0, none⟩ = some (.int .i64 8) := (hb0.cell (p := ⟨w.heap.size + 1, 0, none⟩) (by first | (simp; done) | (simp [World.drew]; done) | (simp; omega))).trans (by go_simp)
    have cw1_9 : w1.cell? ⟨w.heap.size + 1, 1, none⟩ = some (.int .i64 0) := (hb0.cell (p := ⟨w.heap.size + 1, 1, none⟩) (by first | (simp; done) | (simp [World.drew]; done) | (simp; omega))).trans (by go_simp)
    have cw1_10 : w1.cell? ⟨w.heap.size + 1, 2, none⟩ = some (.int .i64 0) := (hb0.cell (p := ⟨w.heap.size + 1, 2, none⟩) (by first | (simp; done) | (simp [World.drew]; done) | (simp; omega))).trans (by go_simp)
    have cw1_11 : w1.cell? ⟨w.heap.size + 1, 3, none⟩ = some (.int .i64 0) := (hb0.cell (p := ⟨w.heap.size + 1, 3, none⟩) (by first | (simp; done) | (simp [World.drew]; done) | (simp; omega))).trans (by go_simp)
    have cw1_12 : w1.cell? ⟨w.heap.size + 1, 4, none⟩ = some (.string a4) := (hb0.cell (p := ⟨w.heap.size + 1, 4, none⟩) (by first | (simp; done) | (simp [World.drew]; done) | (simp; omega))).trans (by go_simp)
    have cw1_13 : w1.cell? ⟨w.heap.size + 1, 5, none⟩ = some (.string a5) := (hb0.cell (p := ⟨w.heap.size + 1, 5, none⟩) (by first | (simp; done) | (simp [World.drew]; done) | (simp; omega))).trans (by go_simp)
    have HB0 := Lib.hid (HBD.out.trans (hb0.mono HBD.out.size))
    have hs9 : w.heap.size + 1 < w1.heap.size := Nat.lt_of_lt_of_le (by first | (simp; done) | (simp [World.drew]; done)) hb0.size
    clear hb0
    go_wp2
    all_goals go_ret
    all_goals exact ⟨ret_b (NO.out QV.out).symm, HB0.out⟩
  · cases q2
    · have QV := Lib.hid (show q = false from HO.out.trans rfl)
      go_enter Try.func44, Try.ntmps44
      go_wp2_with fail
      go_region
      all_goals go_wp2_with fail
      refine (HC.out _).mono ?_
      rintro e w1 ⟨rfl, hb0⟩
      have cw1_0 : w1.cell? ⟨w.heap.size, 0, none⟩ = some (.int .i64 8) := (hb0.cell (p := ⟨w.heap.size, 0, none⟩) (by first | (simp; done) | (simp [World.drew]; done) | (simp; omega))).trans (by go_simp)
      have cw1_1 : w1.cell? ⟨w.heap.size, 1, none⟩ = some (.int .i64 a1) := (hb0.cell (p := ⟨w.heap.size, 1, none⟩) (by first | (simp; done) | (simp [World.drew]; done) | (simp; omega))).trans (by go_simp)
      have cw1_2 : w1.cell? ⟨w.heap.size, 2, none⟩ = some (.int .i64 a2) := (hb0.cell (p := ⟨w.heap.size, 2, none⟩) (by first | (simp; done) | (simp [World.drew]; done) | (simp; omega))).trans (by go_simp)
      have cw1_3 : w1.cell? ⟨w.heap.size, 3, none⟩ = some (.int .i64 a3) := (hb0.cell (p := ⟨w.heap.size, 3, none⟩) (by first | (simp; done) | (simp [World.drew]; done) | (simp; omega))).trans (by go_simp)
      have cw1_4 : w1.cell? ⟨w.heap.size, 4, none⟩ = some (.string a4) := (hb0.cell (p := ⟨w.heap.size, 4, none⟩) (by first | (simp; done) | (simp [World.drew]; done) | (simp; omega))).trans (by go_simp)
      have cw1_5 : w1.cell? ⟨w.heap.size, 5, none⟩ = some (.string a5) := (hb0.cell (p := ⟨w.heap.size, 5, none⟩) (by first | (simp; done) | (simp [World.drew]; done) | (simp; omega))).trans (by go_simp)
      have cw1_6 : w1.cell? ⟨w.heap.size, 6, none⟩ = some (.int .i64 (a6 : Int)) := (hb0.cell (p := ⟨w.heap.size, 6, none⟩) (by first | (simp; done) | (simp [World.drew]; done) | (simp; omega))).trans (by go_simp)
      have cw1_7 : w1.cell? ⟨w.heap.size, 7, none⟩ = some (.int .i64 (a7 : Int)) := (hb0.cell (p := ⟨w.heap.size, 7, none⟩) (by first | (simp; done) | (simp [World.drew]; done) | (simp; omega))).trans (by go_simp)
      have cw1_8 : w1.cell? ⟨w.heap.size + 1, 0, none⟩ = some (.int .i64 8) := (hb0.cell (p := ⟨w.heap.size + 1, 0, none⟩) (by first | (simp; done) | (simp [World.drew]; done) | (simp; omega))).trans (by go_simp)
      have cw1_9 : w1.cell? ⟨w.heap.size + 1, 1, none⟩ = some (.int .i64 0) := (hb0.cell (p := ⟨w.heap.size + 1, 1, none⟩) (by first | (simp; done) | (simp [World.drew]; done) | (simp; omega))).trans (by go_simp)
      have cw1_10 : w1.cell? ⟨w.heap.size + 1, 2, none⟩ = some (.int .i64 0) := (hb0.cell (p := ⟨w.heap.size + 1, 2, none⟩) (by first | (simp; done) | (simp [World.drew]; done) | (simp; omega))).trans (by go_simp)
      have cw1_11 : w1.cell? ⟨w.heap.size + 1, 3, none⟩ = some (.int .i64 0) := (hb0.cell (p := ⟨w.heap.size + 1, 3, none⟩) (by first | (simp; done) | (simp [World.drew]; done) | (simp; omega))).trans (by go_simp)
      have cw1_12 : w1.cell? ⟨w.heap.size + 1, 4, none⟩ = some (.string a4) := (hb0.cell (p := ⟨w.heap.size + 1, 4, none⟩) (by first | (simp; done) | (simp [World.drew]; done) | (simp; omega))).trans (by go_simp)
      have cw1_13 : w1.cell? ⟨w.heap.size + 1, 5, none⟩ = some (.string a5) := (hb0.cell (p := ⟨w.heap.size + 1, 5, none⟩) (by first | (simp; done) | (simp [World.drew]; done) | (simp; omega))).trans (by go_simp)
      have HB0 := Lib.hid (HBD.out.trans (hb0.mono HBD.out.size))
      have hs9 : w.heap.size + 1 < w1.heap.size := Nat.lt_of_lt_of_le (by first | (simp; done) | (simp [World.drew]; done)) hb0.size
      clear hb0
      go_wp2_with fail
      refine (HD.out _).mono ?_
      rintro e w2 ⟨rfl, hb1⟩
      have cw2_0 : w2.cell? ⟨w.heap.size, 0, none⟩ = some (.int .i64 8) := (hb1.cell (p := ⟨w.heap.size, 0, none⟩) (by first | (simp; done) | (simp [World.drew]; done) | (simp; omega))).trans (by go_simp)
      have cw2_1 : w2.cell? ⟨w.heap.size, 1, none⟩ = some (.int .i64 a1) := (hb1.cell (p := ⟨w.heap.size, 1, none⟩) (by first | (simp; done) | (simp [World.drew]; done) | (simp; omega))).trans (by go_simp)
      have cw2_2 : w2.cell? ⟨w.heap.size, 2, none⟩ = some (.int .i64 a2) := (hb1.cell (p := ⟨w.heap.size, 2, none⟩) (by first | (simp; done) | (simp [World.drew]; done) | (simp; omega))).trans (by go_simp)
      have cw2_3 : w2.cell? ⟨w.heap.size, 3, none⟩ = some (.int .i64 a3) := (hb1.cell (p := ⟨w.heap.size, 3, none⟩) (by first | (simp; done) | (simp [World.drew]; done) | (simp; omega))).trans (by go_simp)
      have cw2_4 : w2.cell? ⟨w.heap.size, 4, none⟩ = some (.string a4) := (hb1.cell (p := ⟨w.heap.size, 4, none⟩) (by first | (simp; done) | (simp [World.drew]; done) | (simp; omega))).trans (by go_simp)
      have cw2_5 : w2.cell? ⟨w.heap.size, 5, none⟩ = some (.string a5) := (hb1.cell (p := ⟨w.heap.size, 5, none⟩) (by first | (simp; done) | (simp [World.drew]; done) | (simp; omega))).trans (by go_simp)
      have cw2_6 : w2.cell? ⟨w.heap.size, 6, none⟩ = some (.int .i64 (a6 : Int)) := (hb1.cell (p := ⟨w.heap.size, 6, none⟩) (by first | (simp; done) | (simp [World.drew]; done) | (simp; omega))).trans (by go_simp)
      have cw2_7 : w2.cell? ⟨w.heap.size, 7, none⟩ = some (.int .i64 (a7 : Int)) := (hb1.cell (p := ⟨w.heap.size, 7, none⟩) (by first | (simp; done) | (simp [World.drew]; done) | (simp; omega))).trans (by go_simp)
      have cw2_8 : w2.cell? ⟨w.heap.size + 1, 0, none⟩ = some (.int .i64 8) := (hb1.cell (p := ⟨w.heap.size + 1, 0, none⟩) (by first | (simp; done) | (simp [World.drew]; done) | (simp; omega))).trans (by go_simp)
      have cw2_9 : w2.cell? ⟨w.heap.size + 1, 1, none⟩ = some (.int .i64 0) := (hb1.cell (p := ⟨w.heap.size + 1, 1, none⟩) (by first | (simp; done) | (simp [World.drew]; done) | (simp; omega))).trans (by go_simp)
      have cw2_10 : w2.cell? ⟨w.heap.size + 1, 2, none⟩ = some (.int .i64 0) := (hb1.cell (p := ⟨w.heap.size + 1, 2, none⟩) (by first | (simp; done) | (simp [World.drew]; done) | (simp; omega))).trans (by go_simp)
      have cw2_11 : w2.cell? ⟨w.heap.size + 1, 3, none⟩ = some (.int .i64 0) := (hb1.cell (p := ⟨w.heap.size + 1, 3, none⟩) (by first | (simp; done) | (simp [World.drew]; done) | (simp; omega))).trans (by go_simp)
      have cw2_12 : w2.cell? ⟨w.heap.size + 1, 4, none⟩ = some (.string a4) := (hb1.cell (p := ⟨w.heap.size + 1, 4, none⟩) (by first | (simp; done) | (simp [World.drew]; done) | (simp; omega))).trans (by go_simp)
      have cw2_13 : w2.cell? ⟨w.heap.size + 1, 5, none⟩ = some (.string a5) := (hb1.cell (p := ⟨w.heap.size + 1, 5, none⟩) (by first | (simp; done) | (simp [World.drew]; done) | (simp; omega))).trans (by go_simp)
      have HB1 := Lib.hid (HB0.out.trans (hb1.mono HB0.out.size))
      clear hb1
      go_wp2
      all_goals go_ret
      all_goals
        exact ⟨ret_b (NO.out QV.out).symm, HB1.out⟩
    · have QV := Lib.hid (show q = true from HO.out.trans rfl)
      have HF := Lib.hid (show a1 = 0 → a2 = 0 → a3 = 0 → (((a6 : Nat) : Int) == 1) = v from fun g1 g2 g3 => by
        by_cases g6 : a6 = 1
        · rw [HY.out g1 g2 g3 g6, QV.out, g6]; rfl
        · rw [N6.out g6]; exact beq_eq_false_iff_ne.2 (by omega))
      go_enter Try.func44, Try.ntmps44
      go_wp2_with fail
      go_region
      all_goals go_wp2_with fail
      refine (HC.out _).mono ?_
      rintro e w1 ⟨rfl, hb0⟩
      have cw1_0 : w1.cell? ⟨w.heap.size, 0, none⟩ = some (.int .i64 8) := (hb0.cell (p := ⟨w.heap.size, 0, none⟩) (by first | (simp; done) | (simp [World.drew]; done) | (simp; omega))).trans (by go_simp)
      have cw1_1 : w1.cell? ⟨w.heap.size, 1, none⟩ = some (.int .i64 a1) := (hb0.cell (p := ⟨w.heap.size, 1, none⟩) (by first | (simp; done) | (simp [World.drew]; done) | (simp; omega))).trans (by go_simp)
      have cw1_2 : w1.cell? ⟨w.heap.size, 2, none⟩ = some (.int .i64 a2) := (hb0.cell (p := ⟨w.heap.size, 2, none⟩) (by first | (simp; done) | (simp [World.drew]; done) | (simp; omega))).trans (by go_simp)
      have cw1_3 : w1.cell? ⟨w.heap.size, 3, none⟩ = some (.int .i64 a3) := (hb0.cell (p := ⟨w.heap.size, 3, none⟩) (by first | (simp; done) | (simp [World.drew]; done) | (simp; omega))).trans (by go_simp)
      have cw1_4 : w1.cell? ⟨w.heap.size, 4, none⟩ = some (.string a4) := (hb0.cell (p := ⟨w.heap.size, 4, none⟩) (by first | (simp; done) | (simp [World.drew]; done) | (simp; omega))).trans (by go_simp)
      have cw1_5 : w1.cell? ⟨w.heap.size, 5, none⟩ = some (.string a5) := (hb0.cell (p := ⟨w.heap.size, 5, none⟩) (by first | (simp; done) | (simp [World.drew]; done) | (simp; omega))).trans (by go_simp)
      have cw1_6 : w1.cell? ⟨w.heap.size, 6, none⟩ = some (.int .i64 (a6 : Int)) := (hb0.cell (p := ⟨w.heap.size, 6, none⟩) (by first | (simp; done) | (simp [World.drew]; done) | (simp; omega))).trans (by go_simp)
      have cw1_7 : w1.cell? ⟨w.heap.size, 7, none⟩ = some (.int .i64 (a7 : Int)) := (hb0.cell (p := ⟨w.heap.size, 7, none⟩) (by first | (simp; done) | (simp [World.drew]; done) | (simp; omega))).trans (by go_simp)
      have cw1_8 : w1.cell? ⟨w.heap.size + 1, 0, none⟩ = some (.int .i64 8) := (hb0.cell (p := ⟨w.heap.size + 1, 0, none⟩) (by first | (simp; done) | (simp [World.drew]; done) | (simp; omega))).trans (by go_simp)
      have cw1_9 : w1.cell? ⟨w.heap.size + 1, 1, none⟩ = some (.int .i64 0) := (hb0.cell (p := ⟨w.heap.size + 1, 1, none⟩) (by first | (simp; done) | (simp [World.drew]; done) | (simp; omega))).trans (by go_simp)
      have cw1_10 : w1.cell? ⟨w.heap.size + 1, 2, none⟩ = some (.int .i64 0) := (hb0.cell (p := ⟨w.heap.size + 1, 2, none⟩) (by first | (simp; done) | (simp [World.drew]; done) | (simp; omega))).trans (by go_simp)
      have cw1_11 : w1.cell? ⟨w.heap.size + 1, 3, none⟩ = some (.int .i64 0) := (hb0.cell (p := ⟨w.heap.size + 1, 3, none⟩) (by first | (simp; done) | (simp [World.drew]; done) | (simp; omega))).trans (by go_simp)
      have cw1_12 : w1.cell? ⟨w.heap.size + 1, 4, none⟩ = some (.string a4) := (hb0.cell (p := ⟨w.heap.size + 1, 4, none⟩) (by first | (simp; done) | (simp [World.drew]; done) | (simp; omega))).trans (by go_simp)
      have cw1_13 : w1.cell? ⟨w.heap.size + 1, 5, none⟩ = some (.string a5) := (hb0.cell (p := ⟨w.heap.size + 1, 5, none⟩) (by first | (simp; done) | (simp [World.drew]; done) | (simp; omega))).trans (by go_simp)
      have HB0 := Lib.hid (HBD.out.trans (hb0.mono HBD.out.size))
      have hs9 : w.heap.size + 1 < w1.heap.size := Nat.lt_of_lt_of_le (by first | (simp; done) | (simp [World.drew]; done)) hb0.size
      clear hb0
      go_wp2_with fail
      refine (HD.out _).mono ?_
      rintro e w2 ⟨rfl, hb1⟩
      have cw2_0 : w2.cell? ⟨w.heap.size, 0, none⟩ = some (.int .i64 8) := (hb1.cell (p := ⟨w.heap.size, 0, none⟩) (by first | (simp; done) | (simp [World.drew]; done) | (simp; omega))).trans (by go_simp)
      have cw2_1 : w2.cell? ⟨w.heap.size, 1, none⟩ = some (.int .i64 a1) := (hb1.cell (p := ⟨w.heap.size, 1, none⟩) (by first | (simp; done) | (simp [World.drew]; done) | (simp; omega))).trans (by go_simp)
      have cw2_2 : w2.cell? ⟨w.heap.size, 2, none⟩ = some (.int .i64 a2) := (hb1.cell (p := ⟨w.heap.size, 2, none⟩) (by first | (simp; done) | (simp [World.drew]; done) | (simp; omega))).trans (by go_simp)
      have cw2_3 : w2.cell? ⟨w.heap.size, 3, none⟩ = some (.int .i64 a3) := (hb1.cell (p := ⟨w.heap.size, 3, none⟩) (by first | (simp; done) | (simp [World.drew]; done) | (simp; omega))).trans (by go_simp)
      have cw2_4 : w2.cell? ⟨w.heap.size, 4, none⟩ = some (.string a4) := (hb1.cell (p := ⟨w.heap.size, 4, none⟩) (by first | (simp; done) | (simp [World.drew]; done) | (simp; omega))).trans (by go_simp)
      have cw2_5 : w2.cell? ⟨w.heap.size, 5, none⟩ = some (.string a5) := (hb1.cell (p := ⟨w.heap.size, 5, none⟩) (by first | (simp; done) | (simp [World.drew]; done) | (simp; omega))).trans (by go_simp)
      have cw2_6 : w2.cell? ⟨w.heap.size, 6, none⟩ = some (.int .i64 (a6 : Int)) := (hb1.cell (p := ⟨w.heap.size, 6, none⟩) (by first | (simp; done) | (simp [World.drew]; done) | (simp; omega))).trans (by go_simp)
      have cw2_7 : w2.cell? ⟨w.heap.size, 7, none⟩ = some (.int .i64 (a7 : Int)) := (hb1.cell (p := ⟨w.heap.size, 7, none⟩) (by first | (simp; done) | (simp [World.drew]; done) | (simp; omega))).trans (by go_simp)
      have cw2_8 : w2.cell? ⟨w.heap.size + 1, 0, none⟩ = some (.int .i64 8) := (hb1.cell (p := ⟨w.heap.size + 1, 0, none⟩) (by first | (simp; done) | (simp [World.drew]; done) | (simp; omega))).trans (by go_simp)
      have cw2_9 : w2.cell? ⟨w.heap.size + 1, 1, none⟩ = some (.int .i64 0) := (hb1.cell (p := ⟨w.heap.size + 1, 1, none⟩) (by first | (simp; done) | (simp [World.drew]; done) | (simp; omega))).trans (by go_simp)
      have cw2_10 : w2.cell? ⟨w.heap.size + 1, 2, none⟩ = some (.int .i64 0) := (hb1.cell (p := ⟨w.heap.size + 1, 2, none⟩) (by first | (simp; done) | (simp [World.drew]; done) | (simp; omega))).trans (by go_simp)
      have cw2_11 : w2.cell? ⟨w.heap.size + 1, 3, none⟩ = some (.int .i64 0) := (hb1.cell (p := ⟨w.heap.size + 1, 3, none⟩) (by first | (simp; done) | (simp [World.drew]; done) | (simp; omega))).trans (by go_simp)
      have cw2_12 : w2.cell? ⟨w.heap.size + 1, 4, none⟩ = some (.string a4) := (hb1.cell (p := ⟨w.heap.size + 1, 4, none⟩) (by first | (simp; done) | (simp [World.drew]; done) | (simp; omega))).trans (by go_simp)
      have cw2_13 : w2.cell? ⟨w.heap.size + 1, 5, none⟩ = some (.string a5) := (hb1.cell (p := ⟨w.heap.size + 1, 5, none⟩) (by first | (simp; done) | (simp [World.drew]; done) | (simp; omega))).trans (by go_simp)
      have HB1 := Lib.hid (HB0.out.trans (hb1.mono HB0.out.size))
      clear hb1
      go_wp2
      all_goals go_ret
      all_goals
        first
          | (exact ⟨ret_b (N1.out (by assumption)).symm, HB1.out⟩)
          | (exact ⟨ret_b (N2.out (by assumption)).symm, HB1.out⟩)
          | (exact ⟨ret_b (N3.out (by assumption)).symm, HB1.out⟩)
          | (exact ⟨ret_b (HF.out (by assumption) (by assumption) (by assumption)), HB1.out⟩)

set_option maxHeartbeats 1600000 in
set_option maxRecDepth 100000 in
theorem impl_isValidNode_0 (n : ENode) (hk : inR n.fKind 1 8 = false) (w : World) :
    Calls Try.prog 44 #[.agg #[.int .i64 n.fKind, .int .i64 n.fN, .int .i64 n.fPos, .int .i64 n.fType, .string n.fSymbol, .string n.fName, .int .i64 (n.fArgs : Int), .int .i64 (n.fDepth : Int)]] w fun e w' => e = .returned (.bool (validN n)) ∧ Below w.heap.size w w' := by
  have HV := Lib.hid (validN_kind hk)
  have hn : ∀ j : Int, 1 ≤ j → j ≤ 8 → n.fKind ≠ j := fun j h1 h2 e => by rw [e, inR_yes h1 h2] at hk; cases hk
  have k1 : (n.fKind == 1) = false := beq_eq_false_iff_ne.2 (hn 1 (by decide) (by decide))
  have k2 : (n.fKind == 2) = false := beq_eq_false_iff_ne.2 (hn 2 (by decide) (by decide))
  have k3 : (n.fKind == 3) = false := beq_eq_false_iff_ne.2 (hn 3 (by decide) (by decide))
  have k4 : (n.fKind == 4) = false := beq_eq_false_iff_ne.2 (hn 4 (by decide) (by decide))
  have k5 : (n.fKind == 5) = false := beq_eq_false_iff_ne.2 (hn 5 (by decide) (by decide))
  have k6 : (n.fKind == 6) = false := beq_eq_false_iff_ne.2 (hn 6 (by decide) (by decide))
  have k7 : (n.fKind == 7) = false := beq_eq_false_iff_ne.2 (hn 7 (by decide) (by decide))
  have k8 : (n.fKind == 8) = false := beq_eq_false_iff_ne.2 (hn 8 (by decide) (by decide))
  clear hk hn
  generalize validN n = v at *
  generalize n.fKind = a0 at *
  generalize n.fN = a1 at *
  generalize n.fPos = a2 at *
  generalize n.fType = a3 at *
  generalize n.fSymbol = a4 at *
  generalize n.fName = a5 at *
  generalize n.fArgs = a6 at *
  generalize n.fDepth = a7 at *
  have HB := Lib.hid (((Below.refl w.heap.size w).alloc (Nat.le_refl _) (.cells #[.int .i64 a0, .int .i64 a1, .int .i64 a2, .int .i64 a3, .string a4, .string a5, .int .i64 (a6 : Int), .int .i64 (a7 : Int)] 71)).alloc (by simp) (.cells #[.int .i64 a0, .int .i64 0, .int .i64 0, .int .i64 0, .string ⟨#[]⟩, .string ⟨#[]⟩] 69))
  go_enter Try.func44, Try.ntmps44
  go_wp2
  go_ret
  exact ⟨ret_b HV.out.symm, HB.out⟩

theorem impl_isValidNode (n : ENode) (hs1 : n.fSymbol.size ≤ 1048576) (hs2 : n.fName.size ≤ 1048576) (w : World) :
    Calls Try.prog 44 #[.agg #[.int .i64 n.fKind, .int .i64 n.fN, .int .i64 n.fPos, .int .i64 n.fType, .string n.fSymbol, .string n.fName, .int .i64 (n.fArgs : Int), .int .i64 (n.fDepth : Int)]] w fun e w' => e = .returned (.bool (validN n)) ∧ Below w.heap.size w w' := by
  cases hk : inR n.fKind 1 8
  · exact impl_isValidNode_0 n hk w
  · have h := inR_iff.1 hk
    rcases (by omega : n.fKind = 1 ∨ n.fKind = 2 ∨ n.fKind = 3 ∨ n.fKind = 4 ∨ n.fKind = 5 ∨ n.fKind = 6 ∨ n.fKind = 7 ∨ n.fKind = 8) with g | g | g | g | g | g | g | g
    · exact impl_isValidNode_1 n g hs1 hs2 w
    · exact impl_isValidNode_2 n g hs1 hs2 w
    · exact impl_isValidNode_3 n g hs1 hs2 w
    · exact impl_isValidNode_4 n g hs1 hs2 w
    · exact impl_isValidNode_5 n g hs1 hs2 w
    · exact impl_isValidNode_6 n g hs1 hs2 w
    · exact impl_isValidNode_7 n g hs1 hs2 w
    · exact impl_isValidNode_8 n g hs1 hs2 w
end Go.Proofs.Ythpnghbhfbiljaa
