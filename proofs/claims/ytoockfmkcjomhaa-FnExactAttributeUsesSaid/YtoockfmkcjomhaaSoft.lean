/-
  Data in memory, none of whose blocks is frozen: as Lies and Sl, and the blocks can be compared by address.
-/
import Derived.Test.YtoockfmkcjomhaaOwn
namespace Go.Proofs.Ytoockfmkcjomhaa
open Go.ChangeShapes Go.WideShapes Go.ChangeAt Go.RowKit Go.Deep

inductive Soft (lo hi : Nat) (w : World) : Ct → Value → Prop
  | lit (v : Value) : Soft lo hi w (.lit v) v
  | nil (n : Nat) (f : Nat → Nat → Ct) (a : Option Addr) (cap : Nat) : Soft lo hi w (.sl n 0 f) (.slice a 0 cap)
  | row (n len : Nat) (f : Nat → Nat → Ct) (b off cap : Nat) (u : Nat → Nat → Value) (hlo : lo ≤ b) (hhi : b < hi)
      (hc : ∀ k, k < len → ∀ j, j < n → w.cell? ⟨b, off + k * n + j, none⟩ = some (u k j)) (hz : ∀ o, w.frozen? ⟨b, o, none⟩ = false)
      (hl : ∀ k, k < len → ∀ j, j < n → Soft lo hi w (f k j) (u k j)) : Soft lo hi w (.sl n len f) (.slice (some ⟨b, off, none⟩) len cap)

theorem Soft.lies {lo hi : Nat} {w : World} {c : Ct} {v : Value} (h : Soft lo hi w c v) : Lies lo hi w c v := by
  induction h with
  | lit v => exact .lit v
  | nil n f a cap => exact .nil n f a cap
  | row n len f b off cap u hlo hhi hc hz hl ih => exact .row n len f b off cap u hlo hhi hc ih
theorem Soft.frame {lo hi : Nat} {w w' : World} (hw : ∀ b o, lo ≤ b → b < hi → w'.cell? ⟨b, o, none⟩ = w.cell? ⟨b, o, none⟩ ∧ w'.frozen? ⟨b, o, none⟩ = w.frozen? ⟨b, o, none⟩) {c : Ct} {v : Value} (h : Soft lo hi w c v) : Soft lo hi w' c v := by
  induction h with
  | lit v => exact .lit v
  | nil n f a cap => exact .nil n f a cap
  | row n len f b off cap u hlo hhi hc hz hl ih => exact .row n len f b off cap u hlo hhi (fun k hk j hj => (hw b _ hlo hhi).1.trans (hc k hk j hj)) (fun o => (hw b o hlo hhi).2.trans (hz o)) ih
theorem Soft.mono {lo hi lo' hi' : Nat} {w : World} (h1 : lo' ≤ lo) (h2 : hi ≤ hi') {c : Ct} {v : Value} (h : Soft lo hi w c v) : Soft lo' hi' w c v := by
  induction h with
  | lit v => exact .lit v
  | nil n f a cap => exact .nil n f a cap
  | row n len f b off cap u hlo hhi hc hz hl ih => exact .row n len f b off cap u (by omega) (by omega) hc hz ih
theorem Soft.later {lo hi B : Nat} {w w' : World} {c : Ct} {v : Value} (h : Soft lo hi w c v) (hb : Below B w w') (hB : hi ≤ B) : Soft lo hi w' c v :=
  h.frame fun b o _ h2 => ⟨hb.cell (p := ⟨b, o, none⟩) (by show b < B; omega), hb.frozen (p := ⟨b, o, none⟩) (by show b < B; omega)⟩
theorem soft_lit {lo hi : Nat} {w : World} {u v : Value} (h : Soft lo hi w (.lit u) v) : v = u := by cases h; rfl

/-- A slice at the address a reads as len rows of n cells. -/
def Sf (lo hi : Nat) (w : World) (n len : Nat) (f : Nat → Nat → Ct) (a : Option Addr) : Prop := ∀ cap, Soft lo hi w (.sl n len f) (.slice a len cap)
section
variable {lo hi lo' hi' B : Nat} {w w' : World} {n len : Nat} {f g : Nat → Nat → Ct} {a : Option Addr}
theorem soft_sl {v : Value} (h : Soft lo hi w (.sl n len f) v) : ∃ a cap, v = .slice a len cap ∧ Sf lo hi w n len f a := by
  cases h with
  | nil n f a cap => exact ⟨a, cap, rfl, fun _ => .nil n f a _⟩
  | row n len f b off cap u hlo hhi hc hz hl => exact ⟨_, cap, rfl, fun _ => .row n len f b off _ u hlo hhi hc hz hl⟩
theorem Sf.of {l cap : Nat} (h : Soft lo hi w (.sl n len f) (.slice a l cap)) : Sf lo hi w n len f a := by
  obtain ⟨a', cap', h1, h2⟩ := soft_sl h
  simp only [Value.slice.injEq] at h1
  rw [h1.1]
  exact h2
theorem Sf.sl (h : Sf lo hi w n len f a) : Sl lo hi w n len f a := fun cap => (h cap).lies
theorem Sf.later (h : Sf lo hi w n len f a) (hb : Below B w w') (hB : hi ≤ B) : Sf lo hi w' n len f a := fun cap => (h cap).later hb hB
theorem Sf.mono (h : Sf lo hi w n len f a) (h1 : lo' ≤ lo) (h2 : hi ≤ hi') : Sf lo' hi' w n len f a := fun cap => (h cap).mono h1 h2
theorem Sf.up (h : Sf lo hi w n len f a) (hb : Below w.heap.size w w') (hB : hi ≤ w.heap.size) : Sf lo w'.heap.size w' n len f a := (h.later hb hB).mono (Nat.le_refl _) (Nat.le_trans hB hb.size)
theorem Sf.frame (h : Sf lo hi w n len f a) (hw : ∀ b o, lo ≤ b → b < hi → w'.cell? ⟨b, o, none⟩ = w.cell? ⟨b, o, none⟩ ∧ w'.frozen? ⟨b, o, none⟩ = w.frozen? ⟨b, o, none⟩) : Sf lo hi w' n len f a := fun cap => (h cap).frame hw
theorem Sf.at (h : Sf lo hi w n len f a) (k : Nat) (hk : k < len) :
    ∃ b off : Nat, a = some ⟨b, off, none⟩ ∧ lo ≤ b ∧ b < hi ∧ (∀ o, w.frozen? ⟨b, o, none⟩ = false) ∧ ∀ j, j < n → ∃ u, w.cell? ⟨b, off + k * n + j, none⟩ = some u ∧ Soft lo hi w (f k j) u := by
  have h' := h 0
  cases h' with
  | nil => exact absurd hk (Nat.not_lt_zero _)
  | row n len f b off cap u hlo hhi hc hz hl => exact ⟨b, off, rfl, hlo, hhi, hz, fun j hj => ⟨u k j, hc k hk j hj, hl k hk j hj⟩⟩
/-- All of its rows at once. -/
theorem Sf.row (h : Sf lo hi w n len f a) (h0 : 0 < len) :
    ∃ b off : Nat, a = some ⟨b, off, none⟩ ∧ lo ≤ b ∧ b < hi ∧ (∀ o, w.frozen? ⟨b, o, none⟩ = false) ∧ ∀ k, k < len → ∀ j, j < n → ∃ u, w.cell? ⟨b, off + k * n + j, none⟩ = some u ∧ Soft lo hi w (f k j) u := by
  have h' := h 0
  cases h' with
  | nil => exact absurd h0 (Nat.not_lt_zero _)
  | row n len f b off cap u hlo hhi hc hz hl => exact ⟨b, off, rfl, hlo, hhi, hz, fun k hk j hj => ⟨u k j, hc k hk j hj, hl k hk j hj⟩⟩
theorem Sf.nil : Sf lo hi w n 0 f a := fun _ => .nil n f a _
theorem Sf.congr (h : Sf lo hi w n len f a) (hfg : ∀ k, k < len → ∀ j, j < n → f k j = g k j) : Sf lo hi w n len g a := fun cap => by
  have h' := h cap
  cases h' with
  | nil n f a cap => exact .nil n g a cap
  | row n len f b off cap u hlo hhi hc hz hl => exact .row n len g b off cap u hlo hhi hc hz (fun k hk j hj => by rw [← hfg k hk j hj]; exact hl k hk j hj)
end
/-- What a call made for itself is not frozen. -/
theorem Own.soft {w : World} {F : Nat → Prop} {c : Ct} {v : Value} (h : Own w F c v) {lo hi : Nat} (hF : ∀ x, F x → lo ≤ x ∧ x < hi) : Soft lo hi w c v := by
  induction h with
  | lit F v => exact .lit v
  | nil F n f a cap => exact .nil n f a cap
  | row F n len f b off cap u G hFb hb hc hz hl hG hd ih =>
    exact .row n len f b off cap u (hF b hFb).1 (hF b hFb).2 hc hz fun k hk j hj => ih k hk j hj fun x hx => hF x (hG k hk j hj x hx).1
theorem OwnR.soft {w : World} {F : Nat → Prop} {n : Nat} {c : Nat → Ct} {u : Nat → Value} {lo hi : Nat} (h : OwnR w F n c u) (hF : ∀ x, F x → lo ≤ x ∧ x < hi) (j : Nat) (hj : j < n) : Soft lo hi w (c j) (u j) := by
  obtain ⟨G, h1, h2, h3⟩ := h
  exact (h1 j hj).soft fun x hx => hF x (h2 j hj x hx)
end Go.Proofs.Ytoockfmkcjomhaa
