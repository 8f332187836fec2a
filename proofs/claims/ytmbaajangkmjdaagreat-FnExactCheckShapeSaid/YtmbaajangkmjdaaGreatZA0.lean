/-
  Small helpers: proofs by one tactic, named.
-/
import Derived.ProofKit
import Derived.Lib.Hide
import Derived.WalkLawsBesides
namespace Go.Proofs.YtmbaajangkmjdaaGreat
open Go.ChangeShapes Go.WideShapes Go.ChangeAt Go.RowKit
theorem ya {p : Prop} (h : p := by repeat (first | (with_reducible exact Below.refl _ _) | (with_reducible apply Below.drew) | (with_reducible refine below_drewN ?_ _) | (refine Below.setCell ?_ (by first | omega | (simp <;> omega)) _) | (refine Below.alloc ?_ (by first | omega | (simp <;> omega)) _))) : p := h
theorem yb {p : Prop} (h : p := by repeat (first | (with_reducible exact Below.refl _ _) | (with_reducible apply Below.drew) | (with_reducible refine below_drewN ?_ _) | (refine Below.setCell ?_ (by simp <;> omega) _) | (refine Below.alloc ?_ (by simp <;> omega) _))) : p := h
theorem yc {p : Prop} (h : p := by repeat (first | (with_reducible exact Below.refl _ _) | (with_reducible apply Below.drew) | (refine Below.alloc ?_ (by simp <;> omega) _))) : p := h
theorem yd {p : Prop} (h : p := by first | omega | (simp; done) | (simp; omega) | (simp [World.setCell]; omega)) : p := h
theorem ye {p : Prop} (h : p := by simp <;> omega) : p := h
theorem yf {p : Prop} (h : p := by first | (simp; done) | (simp [World.drew]; done) | (simp; omega)) : p := h
theorem yg {p : Prop} (h : p := by first | omega | (simp; done) | (simp; omega)) : p := h
theorem yh {p : Prop} (h : p := by first | omega | (simp <;> omega)) : p := h
theorem yi {p : Prop} (h : p := by first | (simp; done) | (simp; omega)) : p := h
theorem yj {p : Prop} (h : p := by first | (with_reducible exact Nat.le_refl _) | (simp; done) | (simp; omega) | (simp [World.setCell]; done) | (simp [World.setCell]; omega)) : p := h
theorem yk {p : Prop} (h : p := by first | (with_reducible exact Nat.le_refl _) | (simp; done) | (simp; omega) | (simp [World.setCell]; omega)) : p := h
theorem yl {p : Prop} (h : p := by unfold maxLen; omega) : p := h
theorem ym {p : Prop} (h : p := by intro y h1; first | exact h1.elim | (have h3 := h1.1; have h4 := h1.2; exact ⟨by omega, by omega⟩)) : p := h
theorem yo {p : Prop} (h : p := by intro y h1 h2; first | exact h1.elim | exact h2.elim | (have h3 := h1.2; have h4 := h2.1; omega)) : p := h
theorem yq {p : Prop} (h : p) : Go.RowKit.Hid p := Lib.hid h
end Go.Proofs.YtmbaajangkmjdaaGreat
