/-
  compareOccurrences: what it answers, and what becomes of the world: two boxes and one list more, one draw.
-/
import Derived.Test.YtnmepemmpeboeaaGreatZz9
import Derived.StillTailTactics
import Derived.Sort.Grow
namespace Go.Proofs.YtnmepemmpeboeaaGreat
open Go.ChangeShapes Go.WideShapes Go.ChangeAt Go.RowKit Go.Deep

theorem push3 {α : Type} (l : Array α) (a b c : α) : ((l.push a).push b).push c = l ++ #[a, b, c] := by
  apply Array.ext'
  simp
theorem grow3 (w : World) (a b c : Obj) : (((w.alloc a).alloc b).drew.alloc c) = Sort.grow (w.drewN 1) #[a, b, c] := by
  show ({ w with heap := ((w.heap.push a).push b).push c, drawn := w.drawn + 1 } : World) = { w with heap := w.heap ++ #[a, b, c], drawn := w.drawn + 1 }
  rw [push3]

set_option maxHeartbeats 6400000 in
set_option maxRecDepth 100000 in
theorem compareOcc (x y : DOccurrence) (w : World) :
    Calls Tryz.prog 70 #[.agg #[.int .i64 x.fPos, .string x.fName], .agg #[.int .i64 y.fPos, .string y.fName]] w fun e w' => e = .returned (.int .i64 (cmpO x y)) ∧ ∃ q os, w' = Sort.grow (w.drewN q) os := by
  obtain ⟨W1, hW1⟩ : ∃ W : World, W = (w.alloc (.cells #[.int .i64 x.fPos, .string x.fName] 68)).alloc (.cells #[.int .i64 y.fPos, .string y.fName] 68) := ⟨_, rfl⟩
  have d0 : W1.cell? ⟨w.heap.size, 0, none⟩ = some (.int .i64 x.fPos) := by rw [hW1]; go_simp
  have d1 : W1.cell? ⟨w.heap.size, 1, none⟩ = some (.string x.fName) := by rw [hW1]; go_simp
  have d2 : W1.cell? ⟨w.heap.size + 1, 0, none⟩ = some (.int .i64 y.fPos) := by rw [hW1]; go_simp
  have d3 : W1.cell? ⟨w.heap.size + 1, 1, none⟩ = some (.string y.fName) := by rw [hW1]; go_simp
  have FIN := Lib.hid (show ∀ c1 c2 : Value, ∃ q os, (W1.drew.alloc (.cells #[c1, c2] 3)) = Sort.grow (w.drewN q) os from fun c1 c2 => ⟨1, #[.cells #[.int .i64 x.fPos, .string x.fName] 68, .cells #[.int .i64 y.fPos, .string y.fName] 68, .cells #[c1, c2] 3], by rw [hW1]; exact grow3 w _ _ _⟩)
  have HV := Lib.hid (show cmpO x y = if cmpI x.fPos y.fPos ≠ 0 then cmpI x.fPos y.fPos else cmpN x.fName y.fName from rfl)
  have HI := Lib.hid (fun W => (Compare_int x.fPos y.fPos W).mono fun _ _ ⟨h1, h2⟩ => (⟨h1, h2.symm⟩ : _ ∧ _))
  have HN := Lib.hid (fun W => (Compare_string x.fName y.fName W).mono fun _ _ ⟨h1, h2⟩ => (⟨h1, h2.symm⟩ : _ ∧ _))
  have HW1 := Lib.hid hW1
  clear hW1
  generalize cmpO x y = v at *
  generalize cmpI x.fPos y.fPos = v1 at *
  generalize cmpN x.fName y.fName = v2 at *
  go_enter Tryz.func70, Tryz.ntmps70
  go_wp2_with fail
  rw [← HW1.out]
  go_still_tail 10, (by kernel_rfl)
  still_call (HI.out _)
  repeat still_step
  still_call (HN.out _)
  refine wpStill_nil ?_
  change wpList _ _ _ _ _ W1.drew
  have hcz := fun c1 c2 : Value => (⟨by go_simp, by go_simp⟩ : (W1.drew.alloc (.cells #[c1, c2] 3)).cell? ⟨W1.heap.size, 0, none⟩ = some c1 ∧ (W1.drew.alloc (.cells #[c1, c2] 3)).cell? ⟨W1.heap.size, 1, none⟩ = some c2)
  have HCZ := Lib.hid hcz
  clear hcz d0 d1 d2 d3
  go_wp2_with fail
  refine (cmp_Or v1 v2 W1.heap.size _ (HCZ.out _ _).1 (HCZ.out _ _).2).mono ?_
  rintro e w9 ⟨rfl, rfl⟩
  rw [← HV.out]
  go_wp2
  go_ret
  exact ⟨rfl, FIN.out _ _⟩
end Go.Proofs.YtnmepemmpeboeaaGreat
