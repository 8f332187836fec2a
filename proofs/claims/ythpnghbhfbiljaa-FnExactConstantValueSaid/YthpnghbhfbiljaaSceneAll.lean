/-
  What a scene is: its closures, and the assertions of terms.
  The value of a term in a scene.
-/
import Derived.Test.YthpnghbhfbiljaaTermAll
import Derived.Test.YthpnghbhfbiljaaSlotVal
import Derived.Test.YthpnghbhfbiljaaApply
import Derived.Test.YthpnghbhfbiljaaTInt
import Derived.Test.YthpnghbhfbiljaaFreeA
namespace Go.Proofs.Ythpnghbhfbiljaa
open Go.ChangeShapes Go.WideShapes Go.ChangeAt Go.RowKit Go.Deep

set_option maxHeartbeats 3200000 in
set_option maxRecDepth 100000 in
theorem scene_attr {lo hi cs qs : Nat} {sa : Option Addr} (sl : List DSlot) (hsz : lsz DSlot.sz sl ≤ 1048576) (p : Int) (s : ByteArray) (w : World) (hhi : hi ≤ w.heap.size) (hq : w.heap[qs]? = some (.cells #[.slice sa sl.length cs] 34)) (hs : Sl lo hi w 3 sl.length (fun k => DSlot.ct (sl.getD k default)) sa) :
    Calls Try.prog 24 #[.agg #[.int .i64 p, .string s], .pointer (some ⟨qs, 0, none⟩)] w fun e w' => e = .returned (.int .i64 (slotValue sl ⟨p, s⟩)) ∧ Below w.heap.size w w' := by
  have hbox : Below w.heap.size w (w.alloc (.cells #[.int .i64 p, .string s] 52)) := (Below.refl _ _).alloc (Nat.le_refl _) _
  have HB := Lib.hid hbox
  have HC := Lib.hid (impl_SlotValue_of (c0_0 := cs) sl hsz ⟨p, s⟩ (w.alloc (.cells #[.int .i64 p, .string s] 52)) (Nat.le_trans hhi hbox.size) (hs.later hbox hhi))
  have q0 := pblk_cell (w := w.alloc (.cells #[.int .i64 p, .string s] 52)) (j := 0) (v := .slice sa sl.length cs) ((hbox.block qs (Array.getElem?_eq_some_iff.1 hq).1).trans hq) rfl
  dsimp only at HC
  clear hbox hs hq hsz
  generalize slotValue sl ⟨p, s⟩ = r at *
  generalize sl.length = n at *
  go_enter Try.func24, Try.ntmps24
  go_wp2_with fail
  refine HC.out.mono ?_
  rintro e w1 ⟨rfl, hb1⟩
  have HB1 := Lib.hid (HB.out.trans (hb1.mono HB.out.size))
  clear hb1
  go_wp2
  go_ret
  exact ⟨rfl, HB1.out⟩

set_option maxHeartbeats 3200000 in
set_option maxRecDepth 100000 in
theorem scene_remote (s m : ByteArray) (z : Int) (w : World) :
    Calls Try.prog 26 #[.string s, .string m, .int .i64 z] w fun e w' => e = .returned (.int .i64 0) ∧ w = w' := by
  go_enter Try.func26, Try.ntmps26
  go_wp2
  go_ret
  exact ⟨rfl, rfl⟩

theorem ta_constTerm_constTerm (v : Value) (w : World) : (Instr.typeAssert (.iface 85 v) 63 85 true).run Try.prog w = .ok (.tuple #[v, .bool true]) w := by kernel_rfl
theorem ta_literalTerm_constTerm (v : Value) (w : World) : (Instr.typeAssert (.iface 87 v) 63 85 true).run Try.prog w = .ok (.tuple #[.agg #[.int .i64 0], .bool false]) w := by kernel_rfl
theorem ta_literalTerm_literalTerm (v : Value) (w : World) : (Instr.typeAssert (.iface 87 v) 63 87 true).run Try.prog w = .ok (.tuple #[v, .bool true]) w := by kernel_rfl
theorem ta_attrTerm_constTerm (v : Value) (w : World) : (Instr.typeAssert (.iface 89 v) 63 85 true).run Try.prog w = .ok (.tuple #[.agg #[.int .i64 0], .bool false]) w := by kernel_rfl
theorem ta_attrTerm_literalTerm (v : Value) (w : World) : (Instr.typeAssert (.iface 89 v) 63 87 true).run Try.prog w = .ok (.tuple #[.agg #[], .bool false]) w := by kernel_rfl
theorem ta_attrTerm_attrTerm (v : Value) (w : World) : (Instr.typeAssert (.iface 89 v) 63 89 true).run Try.prog w = .ok (.tuple #[v, .bool true]) w := by kernel_rfl
theorem ta_opTerm_constTerm (v : Value) (w : World) : (Instr.typeAssert (.iface 91 v) 63 85 true).run Try.prog w = .ok (.tuple #[.agg #[.int .i64 0], .bool false]) w := by kernel_rfl
theorem ta_opTerm_literalTerm (v : Value) (w : World) : (Instr.typeAssert (.iface 91 v) 63 87 true).run Try.prog w = .ok (.tuple #[.agg #[], .bool false]) w := by kernel_rfl
theorem ta_opTerm_attrTerm (v : Value) (w : World) : (Instr.typeAssert (.iface 91 v) 63 89 true).run Try.prog w = .ok (.tuple #[.agg #[.int .i64 0, .string ⟨#[]⟩], .bool false]) w := by kernel_rfl
theorem ta_opTerm_opTerm (v : Value) (w : World) : (Instr.typeAssert (.iface 91 v) 63 91 true).run Try.prog w = .ok (.tuple #[v, .bool true]) w := by kernel_rfl
theorem ta_ifTerm_constTerm (v : Value) (w : World) : (Instr.typeAssert (.iface 93 v) 63 85 true).run Try.prog w = .ok (.tuple #[.agg #[.int .i64 0], .bool false]) w := by kernel_rfl
theorem ta_ifTerm_literalTerm (v : Value) (w : World) : (Instr.typeAssert (.iface 93 v) 63 87 true).run Try.prog w = .ok (.tuple #[.agg #[], .bool false]) w := by kernel_rfl
theorem ta_ifTerm_attrTerm (v : Value) (w : World) : (Instr.typeAssert (.iface 93 v) 63 89 true).run Try.prog w = .ok (.tuple #[.agg #[.int .i64 0, .string ⟨#[]⟩], .bool false]) w := by kernel_rfl
theorem ta_ifTerm_opTerm (v : Value) (w : World) : (Instr.typeAssert (.iface 93 v) 63 91 true).run Try.prog w = .ok (.tuple #[.agg #[.int .i64 0, .nilIface, .nilIface], .bool false]) w := by kernel_rfl
theorem ta_ifTerm_ifTerm (v : Value) (w : World) : (Instr.typeAssert (.iface 93 v) 63 93 true).run Try.prog w = .ok (.tuple #[v, .bool true]) w := by kernel_rfl
theorem ta_selfTerm_constTerm (v : Value) (w : World) : (Instr.typeAssert (.iface 95 v) 63 85 true).run Try.prog w = .ok (.tuple #[.agg #[.int .i64 0], .bool false]) w := by kernel_rfl
theorem ta_selfTerm_literalTerm (v : Value) (w : World) : (Instr.typeAssert (.iface 95 v) 63 87 true).run Try.prog w = .ok (.tuple #[.agg #[], .bool false]) w := by kernel_rfl
theorem ta_selfTerm_attrTerm (v : Value) (w : World) : (Instr.typeAssert (.iface 95 v) 63 89 true).run Try.prog w = .ok (.tuple #[.agg #[.int .i64 0, .string ⟨#[]⟩], .bool false]) w := by kernel_rfl
theorem ta_selfTerm_opTerm (v : Value) (w : World) : (Instr.typeAssert (.iface 95 v) 63 91 true).run Try.prog w = .ok (.tuple #[.agg #[.int .i64 0, .nilIface, .nilIface], .bool false]) w := by kernel_rfl
theorem ta_selfTerm_ifTerm (v : Value) (w : World) : (Instr.typeAssert (.iface 95 v) 63 93 true).run Try.prog w = .ok (.tuple #[.agg #[.nilIface, .nilIface, .nilIface], .bool false]) w := by kernel_rfl
theorem ta_selfTerm_selfTerm (v : Value) (w : World) : (Instr.typeAssert (.iface 95 v) 63 95 true).run Try.prog w = .ok (.tuple #[v, .bool true]) w := by kernel_rfl
theorem ta_remoteTerm_constTerm (v : Value) (w : World) : (Instr.typeAssert (.iface 97 v) 63 85 true).run Try.prog w = .ok (.tuple #[.agg #[.int .i64 0], .bool false]) w := by kernel_rfl
theorem ta_remoteTerm_literalTerm (v : Value) (w : World) : (Instr.typeAssert (.iface 97 v) 63 87 true).run Try.prog w = .ok (.tuple #[.agg #[], .bool false]) w := by kernel_rfl
theorem ta_remoteTerm_attrTerm (v : Value) (w : World) : (Instr.typeAssert (.iface 97 v) 63 89 true).run Try.prog w = .ok (.tuple #[.agg #[.int .i64 0, .string ⟨#[]⟩], .bool false]) w := by kernel_rfl
theorem ta_remoteTerm_opTerm (v : Value) (w : World) : (Instr.typeAssert (.iface 97 v) 63 91 true).run Try.prog w = .ok (.tuple #[.agg #[.int .i64 0, .nilIface, .nilIface], .bool false]) w := by kernel_rfl
theorem ta_remoteTerm_ifTerm (v : Value) (w : World) : (Instr.typeAssert (.iface 97 v) 63 93 true).run Try.prog w = .ok (.tuple #[.agg #[.nilIface, .nilIface, .nilIface], .bool false]) w := by kernel_rfl
theorem ta_remoteTerm_selfTerm (v : Value) (w : World) : (Instr.typeAssert (.iface 97 v) 63 95 true).run Try.prog w = .ok (.tuple #[.agg #[.int .i64 0], .bool false]) w := by kernel_rfl
theorem ta_remoteTerm_remoteTerm (v : Value) (w : World) : (Instr.typeAssert (.iface 97 v) 63 97 true).run Try.prog w = .ok (.tuple #[v, .bool true]) w := by kernel_rfl
theorem ta_noneTerm_constTerm (v : Value) (w : World) : (Instr.typeAssert (.iface 100 v) 63 85 true).run Try.prog w = .ok (.tuple #[.agg #[.int .i64 0], .bool false]) w := by kernel_rfl
theorem ta_noneTerm_literalTerm (v : Value) (w : World) : (Instr.typeAssert (.iface 100 v) 63 87 true).run Try.prog w = .ok (.tuple #[.agg #[], .bool false]) w := by kernel_rfl
theorem ta_noneTerm_attrTerm (v : Value) (w : World) : (Instr.typeAssert (.iface 100 v) 63 89 true).run Try.prog w = .ok (.tuple #[.agg #[.int .i64 0, .string ⟨#[]⟩], .bool false]) w := by kernel_rfl
theorem ta_noneTerm_opTerm (v : Value) (w : World) : (Instr.typeAssert (.iface 100 v) 63 91 true).run Try.prog w = .ok (.tuple #[.agg #[.int .i64 0, .nilIface, .nilIface], .bool false]) w := by kernel_rfl
theorem ta_noneTerm_ifTerm (v : Value) (w : World) : (Instr.typeAssert (.iface 100 v) 63 93 true).run Try.prog w = .ok (.tuple #[.agg #[.nilIface, .nilIface, .nilIface], .bool false]) w := by kernel_rfl
theorem ta_noneTerm_selfTerm (v : Value) (w : World) : (Instr.typeAssert (.iface 100 v) 63 95 true).run Try.prog w = .ok (.tuple #[.agg #[.int .i64 0], .bool false]) w := by kernel_rfl
theorem ta_noneTerm_remoteTerm (v : Value) (w : World) : (Instr.typeAssert (.iface 100 v) 63 97 true).run Try.prog w = .ok (.tuple #[.agg #[.string ⟨#[]⟩, .string ⟨#[]⟩, .nilIface], .bool false]) w := by kernel_rfl
end Go.Proofs.Ythpnghbhfbiljaa

namespace Go.Proofs.Ythpnghbhfbiljaa
open Go.ChangeShapes Go.WideShapes Go.ChangeAt Go.RowKit Go.Deep

def SceneOk (lo hi : Nat) (cs ci qs : Nat) (sa ai : Option Addr) (lit : Int) (ids : List Int) (sl : List DSlot) (x : ETm) : Prop := ∀ w : World, hi ≤ w.heap.size → w.heap[qs]? = some (.cells #[.slice sa sl.length cs] 34) → Sl lo hi w 3 sl.length (fun k => DSlot.ct (sl.getD k default)) sa → Sl lo hi w 1 ids.length (fun k => ictI (ids.getD k default)) ai →
  Calls Try.prog 27 #[.agg #[.int .i64 lit, .slice ai ids.length ci, .func (.func 24) #[] #[.pointer (some ⟨qs, 0, none⟩)], .func (.func 26) #[] #[]], x.val] w fun e w' => e = .returned (.int .i64 (evT lit ids sl x)) ∧ Below w.heap.size w w'

set_option maxHeartbeats 3200000 in
set_option maxRecDepth 100000 in
theorem sceneV_const {lo hi cs ci qs : Nat} {sa ai : Option Addr} (lit : Int) (ids : List Int) (sl : List DSlot) (_ : lsz DSlot.sz sl ≤ 1048576) (z : Int) (w : World) (_ : hi ≤ w.heap.size) (_ : w.heap[qs]? = some (.cells #[.slice sa sl.length cs] 34)) (_ : Sl lo hi w 3 sl.length (fun k => DSlot.ct (sl.getD k default)) sa) (_ : Sl lo hi w 1 ids.length (fun k => ictI (ids.getD k default)) ai) :
    Calls Try.prog 27 #[.agg #[.int .i64 lit, .slice ai ids.length ci, .func (.func 24) #[] #[.pointer (some ⟨qs, 0, none⟩)], .func (.func 26) #[] #[]], .iface 85 (.agg #[.int .i64 z])] w fun e w' => e = .returned (.int .i64 (z)) ∧ Below w.heap.size w w' := by
  have q_constTerm := ta_constTerm_constTerm
  generalize ids.length = n at *
  go_enter Try.func27, Try.ntmps27
  go_wp2
  go_ret
  exact ⟨rfl, (by first | exact Below.refl _ _ | exact (Below.refl _ _).alloc (Nat.le_refl _) _ | (repeat (first | (with_reducible exact Below.refl _ _) | (refine Below.setCell ?_ (by first | omega | (simp <;> omega)) _) | (refine Below.alloc ?_ (by first | omega | (simp <;> omega)) _))))⟩

set_option maxHeartbeats 3200000 in
set_option maxRecDepth 100000 in
theorem sceneV_lit {lo hi cs ci qs : Nat} {sa ai : Option Addr} (lit : Int) (ids : List Int) (sl : List DSlot) (_ : lsz DSlot.sz sl ≤ 1048576) (w : World) (_ : hi ≤ w.heap.size) (_ : w.heap[qs]? = some (.cells #[.slice sa sl.length cs] 34)) (_ : Sl lo hi w 3 sl.length (fun k => DSlot.ct (sl.getD k default)) sa) (_ : Sl lo hi w 1 ids.length (fun k => ictI (ids.getD k default)) ai) :
    Calls Try.prog 27 #[.agg #[.int .i64 lit, .slice ai ids.length ci, .func (.func 24) #[] #[.pointer (some ⟨qs, 0, none⟩)], .func (.func 26) #[] #[]], .iface 87 (.agg #[])] w fun e w' => e = .returned (.int .i64 (lit)) ∧ Below w.heap.size w w' := by
  have q_constTerm := ta_literalTerm_constTerm
  have q_literalTerm := ta_literalTerm_literalTerm
  generalize ids.length = n at *
  go_enter Try.func27, Try.ntmps27
  go_wp2
  go_ret
  exact ⟨rfl, (by first | exact Below.refl _ _ | exact (Below.refl _ _).alloc (Nat.le_refl _) _ | (repeat (first | (with_reducible exact Below.refl _ _) | (refine Below.setCell ?_ (by first | omega | (simp <;> omega)) _) | (refine Below.alloc ?_ (by first | omega | (simp <;> omega)) _))))⟩

set_option maxHeartbeats 3200000 in
set_option maxRecDepth 100000 in
theorem sceneV_none {lo hi cs ci qs : Nat} {sa ai : Option Addr} (lit : Int) (ids : List Int) (sl : List DSlot) (_ : lsz DSlot.sz sl ≤ 1048576) (w : World) (_ : hi ≤ w.heap.size) (_ : w.heap[qs]? = some (.cells #[.slice sa sl.length cs] 34)) (_ : Sl lo hi w 3 sl.length (fun k => DSlot.ct (sl.getD k default)) sa) (_ : Sl lo hi w 1 ids.length (fun k => ictI (ids.getD k default)) ai) :
    Calls Try.prog 27 #[.agg #[.int .i64 lit, .slice ai ids.length ci, .func (.func 24) #[] #[.pointer (some ⟨qs, 0, none⟩)], .func (.func 26) #[] #[]], .iface 100 (.agg #[])] w fun e w' => e = .returned (.int .i64 (0)) ∧ Below w.heap.size w w' := by
  have q_constTerm := ta_noneTerm_constTerm
  have q_literalTerm := ta_noneTerm_literalTerm
  have q_attrTerm := ta_noneTerm_attrTerm
  have q_opTerm := ta_noneTerm_opTerm
  have q_ifTerm := ta_noneTerm_ifTerm
  have q_selfTerm := ta_noneTerm_selfTerm
  have q_remoteTerm := ta_noneTerm_remoteTerm
  generalize ids.length = n at *
  go_enter Try.func27, Try.ntmps27
  go_wp2
  go_ret
  exact ⟨rfl, (by first | exact Below.refl _ _ | exact (Below.refl _ _).alloc (Nat.le_refl _) _ | (repeat (first | (with_reducible exact Below.refl _ _) | (refine Below.setCell ?_ (by first | omega | (simp <;> omega)) _) | (refine Below.alloc ?_ (by first | omega | (simp <;> omega)) _))))⟩

set_option maxHeartbeats 3200000 in
set_option maxRecDepth 100000 in
theorem sceneV_attr {lo hi cs ci qs : Nat} {sa ai : Option Addr} (lit : Int) (ids : List Int) (sl : List DSlot) (hsz : lsz DSlot.sz sl ≤ 1048576) (p : Int) (s : ByteArray) (w : World) (hhi : hi ≤ w.heap.size) (hq : w.heap[qs]? = some (.cells #[.slice sa sl.length cs] 34)) (hs : Sl lo hi w 3 sl.length (fun k => DSlot.ct (sl.getD k default)) sa) (hi1 : Sl lo hi w 1 ids.length (fun k => ictI (ids.getD k default)) ai) :
    Calls Try.prog 27 #[.agg #[.int .i64 lit, .slice ai ids.length ci, .func (.func 24) #[] #[.pointer (some ⟨qs, 0, none⟩)], .func (.func 26) #[] #[]], .iface 89 (.agg #[.int .i64 p, .string s])] w fun e w' => e = .returned (.int .i64 (slotValue sl ⟨p, s⟩)) ∧ Below w.heap.size w w' := by
  have q_constTerm := ta_attrTerm_constTerm
  have q_literalTerm := ta_attrTerm_literalTerm
  have q_attrTerm := ta_attrTerm_attrTerm
  have HL := Lib.hid (fun W (hW : Below w.heap.size w W) => (show hi ≤ W.heap.size ∧ W.heap[qs]? = some (.cells #[.slice sa sl.length cs] 34) ∧ Sl lo hi W 3 sl.length (fun k => DSlot.ct (sl.getD k default)) sa ∧ Sl lo hi W 1 ids.length (fun k => ictI (ids.getD k default)) ai from ⟨Nat.le_trans hhi hW.size, (hW.block qs (Array.getElem?_eq_some_iff.1 hq).1).trans hq, hs.later hW hhi, hi1.later hW hhi⟩))
  have HC := Lib.hid (fun W (hW : Below w.heap.size w W) => scene_attr (cs := cs) sl hsz p s W (HL.out W hW).1 (HL.out W hW).2.1 (HL.out W hW).2.2.1)
  clear hq hs hi1 HL
  generalize slotValue sl ⟨p, s⟩ = r at *
  generalize ids.length = n at *
  go_enter Try.func27, Try.ntmps27
  go_wp2_with fail
  refine (HC.out _ ?hb).mono ?_
  case hb => exact (by first | exact Below.refl _ _ | exact (Below.refl _ _).alloc (Nat.le_refl _) _ | (repeat (first | (with_reducible exact Below.refl _ _) | (refine Below.setCell ?_ (by first | omega | (simp <;> omega)) _) | (refine Below.alloc ?_ (by first | omega | (simp <;> omega)) _))))
  rintro e w1 ⟨rfl, hb1⟩
  have HB1 := Lib.hid hb1
  clear hb1
  go_wp2
  go_ret
  refine ⟨rfl, Below.trans ?_ (HB1.out.mono (by simp <;> omega))⟩
  exact (by first | exact Below.refl _ _ | exact (Below.refl _ _).alloc (Nat.le_refl _) _ | (repeat (first | (with_reducible exact Below.refl _ _) | (refine Below.setCell ?_ (by first | omega | (simp <;> omega)) _) | (refine Below.alloc ?_ (by first | omega | (simp <;> omega)) _))))

set_option maxHeartbeats 3200000 in
set_option maxRecDepth 100000 in
theorem sceneV_op {lo hi cs ci qs : Nat} {sa ai : Option Addr} (lit : Int) (ids : List Int) (sl : List DSlot) (_ : lsz DSlot.sz sl ≤ 1048576) (k : Int) (l r : ETm) (h0 : SceneOk lo hi cs ci qs sa ai lit ids sl l) (h1 : SceneOk lo hi cs ci qs sa ai lit ids sl r) (w : World) (hhi : hi ≤ w.heap.size) (hq : w.heap[qs]? = some (.cells #[.slice sa sl.length cs] 34)) (hs : Sl lo hi w 3 sl.length (fun k => DSlot.ct (sl.getD k default)) sa) (hi1 : Sl lo hi w 1 ids.length (fun k => ictI (ids.getD k default)) ai) :
    Calls Try.prog 27 #[.agg #[.int .i64 lit, .slice ai ids.length ci, .func (.func 24) #[] #[.pointer (some ⟨qs, 0, none⟩)], .func (.func 26) #[] #[]], (ETm.op k l r).val] w fun e w' => e = .returned (.int .i64 (evT lit ids sl (ETm.op k l r))) ∧ Below w.heap.size w w' := by
  simp only [ETm.val, evT]
  have HL := Lib.hid (fun W (hW : Below w.heap.size w W) => (show hi ≤ W.heap.size ∧ W.heap[qs]? = some (.cells #[.slice sa sl.length cs] 34) ∧ Sl lo hi W 3 sl.length (fun k => DSlot.ct (sl.getD k default)) sa ∧ Sl lo hi W 1 ids.length (fun k => ictI (ids.getD k default)) ai from ⟨Nat.le_trans hhi hW.size, (hW.block qs (Array.getElem?_eq_some_iff.1 hq).1).trans hq, hs.later hW hhi, hi1.later hW hhi⟩))
  have HC0 := Lib.hid (fun W (hW : Below w.heap.size w W) => h0 W (HL.out W hW).1 (HL.out W hW).2.1 (HL.out W hW).2.2.1 (HL.out W hW).2.2.2)
  have HC1 := Lib.hid (fun W (hW : Below w.heap.size w W) => h1 W (HL.out W hW).1 (HL.out W hW).2.1 (HL.out W hW).2.2.1 (HL.out W hW).2.2.2)
  clear hq hs hi1 HL h0 h1
  obtain ⟨T0, v0, f0⟩ := l.form
  rw [f0] at HC0 ⊢
  clear f0
  generalize evT lit ids sl l = z0 at *
  obtain ⟨T1, v1, f1⟩ := r.form
  rw [f1] at HC1 ⊢
  clear f1
  generalize evT lit ids sl r = z1 at *
  generalize ids.length = n at *
  have q_constTerm := ta_opTerm_constTerm
  have q_literalTerm := ta_opTerm_literalTerm
  have q_attrTerm := ta_opTerm_attrTerm
  have q_opTerm := ta_opTerm_opTerm
  generalize hza : apl k z0 z1 = za
  have HA := Lib.hid (fun W => (by have h := impl_ApplyOp k z0 z1 W; rw [hza] at h; exact h))
  clear hza
  go_enter Try.func27, Try.ntmps27
  go_wp2_with fail
  refine (HC0.out _ ?hb).mono ?_
  case hb => exact (by first | exact Below.refl _ _ | exact (Below.refl _ _).alloc (Nat.le_refl _) _ | (repeat (first | (with_reducible exact Below.refl _ _) | (refine Below.setCell ?_ (by first | omega | (simp <;> omega)) _) | (refine Below.alloc ?_ (by first | omega | (simp <;> omega)) _))))
  rintro e w1 ⟨rfl, hb1⟩
  have s0 : w1.cell? ⟨w.heap.size, 0, none⟩ = some (.int .i64 lit) := (World.cell?_of_block (a := ⟨w.heap.size, 0, none⟩) (hb1.block (w.heap.size) (by simp <;> omega))).trans (by go_simp)
  have S0 := Lib.hid s0
  clear s0
  have s1 : w1.cell? ⟨w.heap.size, 1, none⟩ = some (.slice ai n ci) := (World.cell?_of_block (a := ⟨w.heap.size, 1, none⟩) (hb1.block (w.heap.size) (by simp <;> omega))).trans (by go_simp)
  have S1 := Lib.hid s1
  clear s1
  have s2 : w1.cell? ⟨w.heap.size, 2, none⟩ = some (.func (.func 24) #[] #[.pointer (some ⟨qs, 0, none⟩)]) := (World.cell?_of_block (a := ⟨w.heap.size, 2, none⟩) (hb1.block (w.heap.size) (by simp <;> omega))).trans (by go_simp)
  have S2 := Lib.hid s2
  clear s2
  have s3 : w1.cell? ⟨w.heap.size, 3, none⟩ = some (.func (.func 26) #[] #[]) := (World.cell?_of_block (a := ⟨w.heap.size, 3, none⟩) (hb1.block (w.heap.size) (by simp <;> omega))).trans (by go_simp)
  have S3 := Lib.hid s3
  clear s3
  have r0 : w1.cell? ⟨w.heap.size + 1, 0, none⟩ = some (.int .i64 k) := (World.cell?_of_block (a := ⟨w.heap.size + 1, 0, none⟩) (hb1.block (w.heap.size + 1) (by simp <;> omega))).trans (by go_simp)
  have R0 := Lib.hid r0
  clear r0
  have r2 : w1.cell? ⟨w.heap.size + 1, 2, none⟩ = some (.iface T1 v1) := (World.cell?_of_block (a := ⟨w.heap.size + 1, 2, none⟩) (hb1.block (w.heap.size + 1) (by simp <;> omega))).trans (by go_simp)
  have R2 := Lib.hid r2
  clear r2
  have HSZ := Lib.hid (show w.heap.size + 2 ≤ w1.heap.size from Nat.le_trans (by simp) hb1.size)
  have HB1 := Lib.hid (show Below w.heap.size w w1 from Below.trans (by first | exact Below.refl _ _ | exact (Below.refl _ _).alloc (Nat.le_refl _) _ | (repeat (first | (with_reducible exact Below.refl _ _) | (refine Below.setCell ?_ (by first | omega | (simp <;> omega)) _) | (refine Below.alloc ?_ (by first | omega | (simp <;> omega)) _)))) (hb1.mono (by simp <;> omega)))
  clear hb1
  go_wp2_with fail

  refine wp_region_freeK [([], .none, []), ([0], .none, []), ([], .none, []), ([], .none, []), ([], .none, []), ([4], .none, []), ([3, 5], .none, []), ([1, 2, 6], .none, []), ([7], .none, [])] [0, 1, 2, 3, 4, 5, 6, 7, 8] [] (fun _ => False) (fun _ => True) (fun _ => 0) (fun jq9 V L H wx => match jq9 with | 0 => V 0 = .pointer (some ⟨w.heap.size + 1, 0, none⟩) | 1 => V 1 = .int .i64 k | 2 => V 2 = .int .i64 z0 | 3 => V 3 = .agg #[.int .i64 lit, .slice ai n ci, .func (.func 24) #[] #[.pointer (some ⟨qs, 0, none⟩)], .func (.func 26) #[] #[]] | 4 => V 4 = .pointer (some ⟨w.heap.size + 1, 2, none⟩) | 5 => V 5 = .iface T1 v1 | 6 => V 6 = .int .i64 z1 | 7 => V 7 = .int .i64 za | 8 => V 8 = .int .i64 za | _ => True) (by kernel_rfl) (by kernel_rfl) ?obs (fun _ h => h.elim) trivial (fun _ _ _ _ _ => trivial) ?loc ?lasts ?walk
  case obs =>
    trivial
  case loc =>
    intro k V V' L H wx h0 h1 hG
    match k with
    | 0 =>
      try dsimp only at hG ⊢
      rw [← h0]
      exact hG
    | 1 =>
      try dsimp only at hG ⊢
      rw [← h0]
      exact hG
    | 2 =>
      try dsimp only at hG ⊢
      rw [← h0]
      exact hG
    | 3 =>
      try dsimp only at hG ⊢
      rw [← h0]
      exact hG
    | 4 =>
      try dsimp only at hG ⊢
      rw [← h0]
      exact hG
    | 5 =>
      try dsimp only at hG ⊢
      rw [← h0]
      exact hG
    | 6 =>
      try dsimp only at hG ⊢
      rw [← h0]
      exact hG
    | 7 =>
      try dsimp only at hG ⊢
      rw [← h0]
      exact hG
    | 8 =>
      try dsimp only at hG ⊢
      rw [← h0]
      exact hG
    | n + 9 => trivial
  case lasts =>
    intro i hi V L H wx wy hB hH hk
    match i, hi with
    | 0, _ => exact fun h => h
    | 1, _ => exact fun h => h
    | 2, _ => exact fun h => h
    | 3, _ => exact fun h => h
    | 4, _ => exact fun h => h
    | 5, _ => exact fun h => h
    | 6, _ => exact fun h => h
    | 7, _ => exact fun h => h
    | 8, _ => exact fun h => h
    | n + 9, hn => exact absurd hn (by simp)
  case walk =>
    simp (maxSteps := 4000000) only [freeK, Nat.reduceAdd, Act.put, List.setIfInBounds_toArray, List.set_cons_succ, List.set_cons_zero]
    refine ⟨?_, ?_, ?_, ?_, ?_, ?_, ?_, ?_, ?_, ?_⟩
    · intro V L H wq hw hk hj hd
      clear hd
      go_wp2_with fail
      exact freePost _ rfl ⟨⟨WritesF.refl _ _, hj⟩, upd_self⟩
    · intro V L H wq hw hk hj hd
      obtain ⟨⟨hL0, hM0, hH0, hv0⟩, -⟩ := hd
      rw [hv0]
      have HV0 := Lib.hid hv0
      clear hv0
      have r0 : wq.cell? ⟨w.heap.size + 1, 0, none⟩ = some (.int .i64 k) := (hk.cell (p := ⟨w.heap.size + 1, 0, none⟩) ⟨(show w.heap.size + 1 < w1.heap.size by have := HSZ.out; omega), fun h => h, trivial⟩ (show w.heap.size + 1 < w1.heap.size by have := HSZ.out; omega)).trans R0.out
      go_wp2_with fail
      exact freePost _ rfl ⟨⟨WritesF.refl _ _, hj⟩, upd_self⟩
    · intro V L H wq hw hk hj hd
      clear hd
      go_wp2_with fail
      exact freePost _ rfl ⟨⟨WritesF.refl _ _, hj⟩, upd_self⟩
    · intro V L H wq hw hk hj hd
      clear hd
      have s0 : wq.cell? ⟨w.heap.size, 0, none⟩ = some (.int .i64 lit) := (hk.cell (p := ⟨w.heap.size, 0, none⟩) ⟨(show w.heap.size < w1.heap.size by have := HSZ.out; omega), fun h => h, trivial⟩ (show w.heap.size < w1.heap.size by have := HSZ.out; omega)).trans S0.out
      have s1 : wq.cell? ⟨w.heap.size, 1, none⟩ = some (.slice ai n ci) := (hk.cell (p := ⟨w.heap.size, 1, none⟩) ⟨(show w.heap.size < w1.heap.size by have := HSZ.out; omega), fun h => h, trivial⟩ (show w.heap.size < w1.heap.size by have := HSZ.out; omega)).trans S1.out
      have s2 : wq.cell? ⟨w.heap.size, 2, none⟩ = some (.func (.func 24) #[] #[.pointer (some ⟨qs, 0, none⟩)]) := (hk.cell (p := ⟨w.heap.size, 2, none⟩) ⟨(show w.heap.size < w1.heap.size by have := HSZ.out; omega), fun h => h, trivial⟩ (show w.heap.size < w1.heap.size by have := HSZ.out; omega)).trans S2.out
      have s3 : wq.cell? ⟨w.heap.size, 3, none⟩ = some (.func (.func 26) #[] #[]) := (hk.cell (p := ⟨w.heap.size, 3, none⟩) ⟨(show w.heap.size < w1.heap.size by have := HSZ.out; omega), fun h => h, trivial⟩ (show w.heap.size < w1.heap.size by have := HSZ.out; omega)).trans S3.out
      go_wp2_with fail
      exact freePost _ rfl ⟨⟨WritesF.refl _ _, hj⟩, upd_self⟩
    · intro V L H wq hw hk hj hd
      clear hd
      go_wp2_with fail
      exact freePost _ rfl ⟨⟨WritesF.refl _ _, hj⟩, upd_self⟩
    · intro V L H wq hw hk hj hd
      obtain ⟨⟨hL4, hM4, hH4, hv4⟩, -⟩ := hd
      rw [hv4]
      have HV4 := Lib.hid hv4
      clear hv4
      have r2 : wq.cell? ⟨w.heap.size + 1, 2, none⟩ = some (.iface T1 v1) := (hk.cell (p := ⟨w.heap.size + 1, 2, none⟩) ⟨(show w.heap.size + 1 < w1.heap.size by have := HSZ.out; omega), fun h => h, trivial⟩ (show w.heap.size + 1 < w1.heap.size by have := HSZ.out; omega)).trans R2.out
      go_wp2_with fail
      exact freePost _ rfl ⟨⟨WritesF.refl _ _, hj⟩, upd_self⟩
    · intro V L H wq hw hk hj hd
      obtain ⟨⟨hL3, hM3, hH3, hv3⟩, ⟨hL5, hM5, hH5, hv5⟩, -⟩ := hd
      rw [hv3, hv5]
      have HV3 := Lib.hid hv3
      have HV5 := Lib.hid hv5
      clear hv3 hv5
      go_wp2_with fail
      refine (HC1.out wq (show Below w.heap.size w wq from HB1.out.trans ((fa_noneK hw).mono HB1.out.size))).mono ?_
      rintro e w2 ⟨rfl, hb2⟩
      go_wp2_with fail
      exact freePost _ rfl ⟨⟨(WritesF.refl _ _).later hb2, trivial⟩, upd_self⟩
    · intro V L H wq hw hk hj hd
      obtain ⟨⟨hL1, hM1, hH1, hv1⟩, ⟨hL2, hM2, hH2, hv2⟩, ⟨hL6, hM6, hH6, hv6⟩, -⟩ := hd
      rw [hv1, hv2, hv6]
      have HV1 := Lib.hid hv1
      have HV2 := Lib.hid hv2
      have HV6 := Lib.hid hv6
      clear hv1 hv2 hv6
      go_wp2_with fail
      refine (HA.out wq).mono ?_
      rintro e w2 ⟨rfl, hb2⟩
      go_wp2_with fail
      exact freePost _ rfl ⟨⟨(WritesF.refl _ _).later hb2, trivial⟩, upd_self⟩
    · intro V L H wq hw hk hj hd
      obtain ⟨⟨hL7, hM7, hH7, hv7⟩, -⟩ := hd
      rw [hv7]
      have HV7 := Lib.hid hv7
      clear hv7
      go_wp2_with fail
      exact freePost _ rfl ⟨⟨WritesF.refl _ _, hj⟩, upd_self⟩
    · intro V L H wq hw hj hd hap hdead
      obtain ⟨⟨hL0, hM0, hH0, hv0⟩, ⟨hL1, hM1, hH1, hv1⟩, ⟨hL2, hM2, hH2, hv2⟩, ⟨hL3, hM3, hH3, hv3⟩, ⟨hL4, hM4, hH4, hv4⟩, ⟨hL5, hM5, hH5, hv5⟩, ⟨hL6, hM6, hH6, hv6⟩, ⟨hL7, hM7, hH7, hv7⟩, ⟨hL8, hM8, hH8, hv8⟩, -⟩ := hd
      rw [hv0, hv1, hv2, hv3, hv4, hv5, hv6, hv7, hv8]
      clear hv0 hv1 hv2 hv3 hv4 hv5 hv6 hv7 hv8
      have HBN := Lib.hid (HB1.out.trans ((fa_noneK hw).mono HB1.out.size))
      clear hw hj hap hdead
      go_wp2
      go_ret
      exact ⟨rfl, HBN.out⟩

set_option maxHeartbeats 3200000 in
set_option maxRecDepth 100000 in
theorem sceneV_ite {lo hi cs ci qs : Nat} {sa ai : Option Addr} (lit : Int) (ids : List Int) (sl : List DSlot) (_ : lsz DSlot.sz sl ≤ 1048576) (c y n : ETm) (h0 : SceneOk lo hi cs ci qs sa ai lit ids sl c) (h1 : SceneOk lo hi cs ci qs sa ai lit ids sl y) (h2 : SceneOk lo hi cs ci qs sa ai lit ids sl n) (w : World) (hhi : hi ≤ w.heap.size) (hq : w.heap[qs]? = some (.cells #[.slice sa sl.length cs] 34)) (hs : Sl lo hi w 3 sl.length (fun k => DSlot.ct (sl.getD k default)) sa) (hi1 : Sl lo hi w 1 ids.length (fun k => ictI (ids.getD k default)) ai) :
    Calls Try.prog 27 #[.agg #[.int .i64 lit, .slice ai ids.length ci, .func (.func 24) #[] #[.pointer (some ⟨qs, 0, none⟩)], .func (.func 26) #[] #[]], (ETm.ite c y n).val] w fun e w' => e = .returned (.int .i64 (evT lit ids sl (ETm.ite c y n))) ∧ Below w.heap.size w w' := by
  simp only [ETm.val, evT]
  have HL := Lib.hid (fun W (hW : Below w.heap.size w W) => (show hi ≤ W.heap.size ∧ W.heap[qs]? = some (.cells #[.slice sa sl.length cs] 34) ∧ Sl lo hi W 3 sl.length (fun k => DSlot.ct (sl.getD k default)) sa ∧ Sl lo hi W 1 ids.length (fun k => ictI (ids.getD k default)) ai from ⟨Nat.le_trans hhi hW.size, (hW.block qs (Array.getElem?_eq_some_iff.1 hq).1).trans hq, hs.later hW hhi, hi1.later hW hhi⟩))
  have HC0 := Lib.hid (fun W (hW : Below w.heap.size w W) => h0 W (HL.out W hW).1 (HL.out W hW).2.1 (HL.out W hW).2.2.1 (HL.out W hW).2.2.2)
  have HC1 := Lib.hid (fun W (hW : Below w.heap.size w W) => h1 W (HL.out W hW).1 (HL.out W hW).2.1 (HL.out W hW).2.2.1 (HL.out W hW).2.2.2)
  have HC2 := Lib.hid (fun W (hW : Below w.heap.size w W) => h2 W (HL.out W hW).1 (HL.out W hW).2.1 (HL.out W hW).2.2.1 (HL.out W hW).2.2.2)
  clear hq hs hi1 HL h0 h1 h2
  obtain ⟨T0, v0, f0⟩ := c.form
  rw [f0] at HC0 ⊢
  clear f0
  generalize evT lit ids sl c = z0 at *
  obtain ⟨T1, v1, f1⟩ := y.form
  rw [f1] at HC1 ⊢
  clear f1
  generalize evT lit ids sl y = z1 at *
  obtain ⟨T2, v2, f2⟩ := n.form
  rw [f2] at HC2 ⊢
  clear f2
  generalize evT lit ids sl n = z2 at *
  generalize ids.length = nn at *
  have q_constTerm := ta_ifTerm_constTerm
  have q_literalTerm := ta_ifTerm_literalTerm
  have q_attrTerm := ta_ifTerm_attrTerm
  have q_opTerm := ta_ifTerm_opTerm
  have q_ifTerm := ta_ifTerm_ifTerm
  by_cases hz : z0 = 0
  · rw [if_pos hz]
    subst hz
    go_enter Try.func27, Try.ntmps27
    go_wp2_with fail
    refine (HC0.out _ ?hb).mono ?_
    case hb => exact (by first | exact Below.refl _ _ | exact (Below.refl _ _).alloc (Nat.le_refl _) _ | (repeat (first | (with_reducible exact Below.refl _ _) | (refine Below.setCell ?_ (by first | omega | (simp <;> omega)) _) | (refine Below.alloc ?_ (by first | omega | (simp <;> omega)) _))))
    rintro e w1 ⟨rfl, hb1⟩
    have s0 : w1.cell? ⟨w.heap.size, 0, none⟩ = some (.int .i64 lit) := (World.cell?_of_block (a := ⟨w.heap.size, 0, none⟩) (hb1.block (w.heap.size) (by simp <;> omega))).trans (by go_simp)
    have s1 : w1.cell? ⟨w.heap.size, 1, none⟩ = some (.slice ai nn ci) := (World.cell?_of_block (a := ⟨w.heap.size, 1, none⟩) (hb1.block (w.heap.size) (by simp <;> omega))).trans (by go_simp)
    have s2 : w1.cell? ⟨w.heap.size, 2, none⟩ = some (.func (.func 24) #[] #[.pointer (some ⟨qs, 0, none⟩)]) := (World.cell?_of_block (a := ⟨w.heap.size, 2, none⟩) (hb1.block (w.heap.size) (by simp <;> omega))).trans (by go_simp)
    have s3 : w1.cell? ⟨w.heap.size, 3, none⟩ = some (.func (.func 26) #[] #[]) := (World.cell?_of_block (a := ⟨w.heap.size, 3, none⟩) (hb1.block (w.heap.size) (by simp <;> omega))).trans (by go_simp)
    have r2 : w1.cell? ⟨w.heap.size + 1, 2, none⟩ = some (.iface T2 v2) := (World.cell?_of_block (a := ⟨w.heap.size + 1, 2, none⟩) (hb1.block (w.heap.size + 1) (by simp <;> omega))).trans (by go_simp)
    have HB1 := Lib.hid (show Below w.heap.size w w1 from Below.trans (by first | exact Below.refl _ _ | exact (Below.refl _ _).alloc (Nat.le_refl _) _ | (repeat (first | (with_reducible exact Below.refl _ _) | (refine Below.setCell ?_ (by first | omega | (simp <;> omega)) _) | (refine Below.alloc ?_ (by first | omega | (simp <;> omega)) _)))) (hb1.mono (by simp <;> omega)))
    clear hb1
    go_wp2_with fail
    refine (HC2.out w1 HB1.out).mono ?_
    rintro e w2 ⟨rfl, hb2⟩
    have HBN := Lib.hid (HB1.out.trans (hb2.mono HB1.out.size))
    clear hb2
    go_wp2
    go_ret
    exact ⟨rfl, HBN.out⟩
  · rw [if_neg hz]
    have hzn : (z0 == 0) = false := beq_eq_false_iff_ne.2 hz
    clear hz
    go_enter Try.func27, Try.ntmps27
    go_wp2_with fail
    refine (HC0.out _ ?hb).mono ?_
    case hb => exact (by first | exact Below.refl _ _ | exact (Below.refl _ _).alloc (Nat.le_refl _) _ | (repeat (first | (with_reducible exact Below.refl _ _) | (refine Below.setCell ?_ (by first | omega | (simp <;> omega)) _) | (refine Below.alloc ?_ (by first | omega | (simp <;> omega)) _))))
    rintro e w1 ⟨rfl, hb1⟩
    have s0 : w1.cell? ⟨w.heap.size, 0, none⟩ = some (.int .i64 lit) := (World.cell?_of_block (a := ⟨w.heap.size, 0, none⟩) (hb1.block (w.heap.size) (by simp <;> omega))).trans (by go_simp)
    have s1 : w1.cell? ⟨w.heap.size, 1, none⟩ = some (.slice ai nn ci) := (World.cell?_of_block (a := ⟨w.heap.size, 1, none⟩) (hb1.block (w.heap.size) (by simp <;> omega))).trans (by go_simp)
    have s2 : w1.cell? ⟨w.heap.size, 2, none⟩ = some (.func (.func 24) #[] #[.pointer (some ⟨qs, 0, none⟩)]) := (World.cell?_of_block (a := ⟨w.heap.size, 2, none⟩) (hb1.block (w.heap.size) (by simp <;> omega))).trans (by go_simp)
    have s3 : w1.cell? ⟨w.heap.size, 3, none⟩ = some (.func (.func 26) #[] #[]) := (World.cell?_of_block (a := ⟨w.heap.size, 3, none⟩) (hb1.block (w.heap.size) (by simp <;> omega))).trans (by go_simp)
    have r1 : w1.cell? ⟨w.heap.size + 1, 1, none⟩ = some (.iface T1 v1) := (World.cell?_of_block (a := ⟨w.heap.size + 1, 1, none⟩) (hb1.block (w.heap.size + 1) (by simp <;> omega))).trans (by go_simp)
    have HB1 := Lib.hid (show Below w.heap.size w w1 from Below.trans (by first | exact Below.refl _ _ | exact (Below.refl _ _).alloc (Nat.le_refl _) _ | (repeat (first | (with_reducible exact Below.refl _ _) | (refine Below.setCell ?_ (by first | omega | (simp <;> omega)) _) | (refine Below.alloc ?_ (by first | omega | (simp <;> omega)) _)))) (hb1.mono (by simp <;> omega)))
    clear hb1
    go_wp2_with fail
    refine (HC1.out w1 HB1.out).mono ?_
    rintro e w2 ⟨rfl, hb2⟩
    have HBN := Lib.hid (HB1.out.trans (hb2.mono HB1.out.size))
    clear hb2
    go_wp2
    go_ret
    exact ⟨rfl, HBN.out⟩

set_option maxHeartbeats 3200000 in
set_option maxRecDepth 100000 in
theorem sceneV_self {lo hi cs ci qs : Nat} {sa ai : Option Addr} (lit : Int) (ids : List Int) (sl : List DSlot) (_ : lsz DSlot.sz sl ≤ 1048576) (_ : ids.length ≤ 1048576) (p : Int) (hp : 0 ≤ p) (w : World) (hhi : hi ≤ w.heap.size) (_ : w.heap[qs]? = some (.cells #[.slice sa sl.length cs] 34)) (_ : Sl lo hi w 3 sl.length (fun k => DSlot.ct (sl.getD k default)) sa) (hi1 : Sl lo hi w 1 ids.length (fun k => ictI (ids.getD k default)) ai) :
    Calls Try.prog 27 #[.agg #[.int .i64 lit, .slice ai ids.length ci, .func (.func 24) #[] #[.pointer (some ⟨qs, 0, none⟩)], .func (.func 26) #[] #[]], (ETm.self p).val] w fun e w' => e = .returned (.int .i64 (evT lit ids sl (ETm.self p))) ∧ Below w.heap.size w w' := by
  simp only [ETm.val, evT]
  have q_constTerm := ta_selfTerm_constTerm
  have q_literalTerm := ta_selfTerm_literalTerm
  have q_attrTerm := ta_selfTerm_attrTerm
  have q_opTerm := ta_selfTerm_opTerm
  have q_ifTerm := ta_selfTerm_ifTerm
  have q_selfTerm := ta_selfTerm_selfTerm
  by_cases hlt : p < (ids.length : Int)
  · rw [if_pos hlt]
    obtain ⟨k, rfl⟩ : ∃ k : Nat, p = (k : Int) := ⟨p.toNat, by omega⟩
    have hk : k < ids.length := by omega
    have HX := Lib.hid ((hi1.later (show Below w.heap.size w ((w.alloc (.cells #[.int .i64 lit, .slice ai ids.length ci, .func (.func 24) #[] #[.pointer (some ⟨qs, 0, none⟩)], .func (.func 26) #[] #[]] 60)).alloc (.cells #[.int .i64 (k : Int)] 95)) from (by first | exact Below.refl _ _ | exact (Below.refl _ _).alloc (Nat.le_refl _) _ | (repeat (first | (with_reducible exact Below.refl _ _) | (refine Below.setCell ?_ (by first | omega | (simp <;> omega)) _) | (refine Below.alloc ?_ (by first | omega | (simp <;> omega)) _))))) hhi).at k hk)
    clear hi1
    obtain ⟨b, off, rfl, _, _, hc⟩ := HX.out
    have hx := open_Int hc
    rw [Nat.mul_one] at hx
    rw [Int.toNat_natCast]
    clear hc HX hp
    generalize ids.getD k default = z at *
    generalize ids.length = n at *
    go_enter Try.func27, Try.ntmps27
    go_wp2
    go_ret
    exact ⟨rfl, (by first | exact Below.refl _ _ | exact (Below.refl _ _).alloc (Nat.le_refl _) _ | (repeat (first | (with_reducible exact Below.refl _ _) | (refine Below.setCell ?_ (by first | omega | (simp <;> omega)) _) | (refine Below.alloc ?_ (by first | omega | (simp <;> omega)) _))))⟩
  · rw [if_neg hlt]
    clear hi1
    generalize ids.length = n at *
    go_enter Try.func27, Try.ntmps27
    go_wp2
    go_ret
    exact ⟨rfl, (by first | exact Below.refl _ _ | exact (Below.refl _ _).alloc (Nat.le_refl _) _ | (repeat (first | (with_reducible exact Below.refl _ _) | (refine Below.setCell ?_ (by first | omega | (simp <;> omega)) _) | (refine Below.alloc ?_ (by first | omega | (simp <;> omega)) _))))⟩

set_option maxHeartbeats 3200000 in
set_option maxRecDepth 100000 in
theorem sceneV_remote {lo hi cs ci qs : Nat} {sa ai : Option Addr} (lit : Int) (ids : List Int) (sl : List DSlot) (_ : lsz DSlot.sz sl ≤ 1048576) (s m : ByteArray) (z : ETm) (h0 : SceneOk lo hi cs ci qs sa ai lit ids sl z) (w : World) (hhi : hi ≤ w.heap.size) (hq : w.heap[qs]? = some (.cells #[.slice sa sl.length cs] 34)) (hs : Sl lo hi w 3 sl.length (fun k => DSlot.ct (sl.getD k default)) sa) (hi1 : Sl lo hi w 1 ids.length (fun k => ictI (ids.getD k default)) ai) :
    Calls Try.prog 27 #[.agg #[.int .i64 lit, .slice ai ids.length ci, .func (.func 24) #[] #[.pointer (some ⟨qs, 0, none⟩)], .func (.func 26) #[] #[]], (ETm.remote s m z).val] w fun e w' => e = .returned (.int .i64 (evT lit ids sl (ETm.remote s m z))) ∧ Below w.heap.size w w' := by
  simp only [ETm.val, evT]
  have HL := Lib.hid (fun W (hW : Below w.heap.size w W) => (show hi ≤ W.heap.size ∧ W.heap[qs]? = some (.cells #[.slice sa sl.length cs] 34) ∧ Sl lo hi W 3 sl.length (fun k => DSlot.ct (sl.getD k default)) sa ∧ Sl lo hi W 1 ids.length (fun k => ictI (ids.getD k default)) ai from ⟨Nat.le_trans hhi hW.size, (hW.block qs (Array.getElem?_eq_some_iff.1 hq).1).trans hq, hs.later hW hhi, hi1.later hW hhi⟩))
  have HC0 := Lib.hid (fun W (hW : Below w.heap.size w W) => h0 W (HL.out W hW).1 (HL.out W hW).2.1 (HL.out W hW).2.2.1 (HL.out W hW).2.2.2)
  clear hq hs hi1 HL h0
  obtain ⟨T0, v0, f0⟩ := z.form
  rw [f0] at HC0 ⊢
  clear f0
  generalize evT lit ids sl z = z0 at *
  generalize ids.length = n at *
  have q_constTerm := ta_remoteTerm_constTerm
  have q_literalTerm := ta_remoteTerm_literalTerm
  have q_attrTerm := ta_remoteTerm_attrTerm
  have q_opTerm := ta_remoteTerm_opTerm
  have q_ifTerm := ta_remoteTerm_ifTerm
  have q_selfTerm := ta_remoteTerm_selfTerm
  have q_remoteTerm := ta_remoteTerm_remoteTerm
  have HBX := Lib.hid (show Below w.heap.size w ((w.alloc (.cells #[.int .i64 lit, .slice ai n ci, .func (.func 24) #[] #[.pointer (some ⟨qs, 0, none⟩)], .func (.func 26) #[] #[]] 60)).alloc (.cells #[.string s, .string m, .iface T0 v0] 97)) from ((Below.refl _ w).alloc (Nat.le_refl _) _).alloc (by simp) _)
  have HK0 := Lib.hid (show ((w.alloc (.cells #[.int .i64 lit, .slice ai n ci, .func (.func 24) #[] #[.pointer (some ⟨qs, 0, none⟩)], .func (.func 26) #[] #[]] 60)).alloc (.cells #[.string s, .string m, .iface T0 v0] 97)).heap[w.heap.size]? = some (.cells #[.int .i64 lit, .slice ai n ci, .func (.func 24) #[] #[.pointer (some ⟨qs, 0, none⟩)], .func (.func 26) #[] #[]] 60) from blk_alloc (by simp) (blk_new rfl))
  have HK1 := Lib.hid (show ((w.alloc (.cells #[.int .i64 lit, .slice ai n ci, .func (.func 24) #[] #[.pointer (some ⟨qs, 0, none⟩)], .func (.func 26) #[] #[]] 60)).alloc (.cells #[.string s, .string m, .iface T0 v0] 97)).heap[w.heap.size + 1]? = some (.cells #[.string s, .string m, .iface T0 v0] 97) from blk_new (by simp))
  have HSZ := Lib.hid (show ((w.alloc (.cells #[.int .i64 lit, .slice ai n ci, .func (.func 24) #[] #[.pointer (some ⟨qs, 0, none⟩)], .func (.func 26) #[] #[]] 60)).alloc (.cells #[.string s, .string m, .iface T0 v0] 97)).heap.size = w.heap.size + 2 by simp)
  go_enter Try.func27, Try.ntmps27
  go_wp2_with fail

  generalize ((w.alloc (.cells #[.int .i64 lit, .slice ai n ci, .func (.func 24) #[] #[.pointer (some ⟨qs, 0, none⟩)], .func (.func 26) #[] #[]] 60)).alloc (.cells #[.string s, .string m, .iface T0 v0] 97)) = w1 at *

  refine wp_region_freeK [([], .none, []), ([0], .none, []), ([], .none, []), ([2], .none, []), ([], .none, []), ([4], .none, []), ([], .none, []), ([], .none, []), ([7], .none, []), ([6, 8], .none, []), ([1, 3, 5, 9], .none, []), ([10], .none, [])] [0, 1, 2, 3, 4, 5, 6, 7, 8, 9, 10, 11] [] (fun _ => False) (fun _ => True) (fun _ => 0) (fun jq9 V L H wx => match jq9 with | 0 => V 0 = .pointer (some ⟨w.heap.size, 3, none⟩) | 1 => V 1 = .func (.func 26) #[] #[] | 2 => V 2 = .pointer (some ⟨w.heap.size + 1, 0, none⟩) | 3 => V 3 = .string s | 4 => V 4 = .pointer (some ⟨w.heap.size + 1, 1, none⟩) | 5 => V 5 = .string m | 6 => V 6 = .agg #[.int .i64 lit, .slice ai n ci, .func (.func 24) #[] #[.pointer (some ⟨qs, 0, none⟩)], .func (.func 26) #[] #[]] | 7 => V 7 = .pointer (some ⟨w.heap.size + 1, 2, none⟩) | 8 => V 8 = .iface T0 v0 | 9 => V 9 = .int .i64 z0 | 10 => V 10 = .int .i64 0 | 11 => V 11 = .int .i64 0 | _ => True) (by kernel_rfl) (by kernel_rfl) ?obs (fun _ h => h.elim) trivial (fun _ _ _ _ _ => trivial) ?loc ?lasts ?walk
  case obs =>
    trivial
  case loc =>
    intro k V V' L H wx h0 h1 hG
    match k with
    | 0 =>
      try dsimp only at hG ⊢
      rw [← h0]
      exact hG
    | 1 =>
      try dsimp only at hG ⊢
      rw [← h0]
      exact hG
    | 2 =>
      try dsimp only at hG ⊢
      rw [← h0]
      exact hG
    | 3 =>
      try dsimp only at hG ⊢
      rw [← h0]
      exact hG
    | 4 =>
      try dsimp only at hG ⊢
      rw [← h0]
      exact hG
    | 5 =>
      try dsimp only at hG ⊢
      rw [← h0]
      exact hG
    | 6 =>
      try dsimp only at hG ⊢
      rw [← h0]
      exact hG
    | 7 =>
      try dsimp only at hG ⊢
      rw [← h0]
      exact hG
    | 8 =>
      try dsimp only at hG ⊢
      rw [← h0]
      exact hG
    | 9 =>
      try dsimp only at hG ⊢
      rw [← h0]
      exact hG
    | 10 =>
      try dsimp only at hG ⊢
      rw [← h0]
      exact hG
    | 11 =>
      try dsimp only at hG ⊢
      rw [← h0]
      exact hG
    | n + 12 => trivial
  case lasts =>
    intro i hi V L H wx wy hB hH hk
    match i, hi with
    | 0, _ => exact fun h => h
    | 1, _ => exact fun h => h
    | 2, _ => exact fun h => h
    | 3, _ => exact fun h => h
    | 4, _ => exact fun h => h
    | 5, _ => exact fun h => h
    | 6, _ => exact fun h => h
    | 7, _ => exact fun h => h
    | 8, _ => exact fun h => h
    | 9, _ => exact fun h => h
    | 10, _ => exact fun h => h
    | 11, _ => exact fun h => h
    | n + 12, hn => exact absurd hn (by simp)
  case walk =>
    simp (maxSteps := 4000000) only [freeK, Nat.reduceAdd, Act.put, List.setIfInBounds_toArray, List.set_cons_succ, List.set_cons_zero]
    refine ⟨?_, ?_, ?_, ?_, ?_, ?_, ?_, ?_, ?_, ?_, ?_, ?_, ?_⟩
    · intro V L H wq hw hk hj hd
      clear hd
      go_wp2_with fail
      exact freePost _ rfl ⟨⟨WritesF.refl _ _, hj⟩, upd_self⟩
    · intro V L H wq hw hk hj hd
      obtain ⟨⟨hL0, hM0, hH0, hv0⟩, -⟩ := hd
      rw [hv0]
      have HV0 := Lib.hid hv0
      clear hv0
      have s3 : wq.cell? ⟨w.heap.size, 3, none⟩ = some (.func (.func 26) #[] #[]) := (hk.cell (p := ⟨w.heap.size, 3, none⟩) ⟨(show w.heap.size < w1.heap.size by have := HSZ.out; omega), fun h => h, trivial⟩ (show w.heap.size < w1.heap.size by have := HSZ.out; omega)).trans (pblk_cell HK0.out rfl)
      go_wp2_with fail
      exact freePost _ rfl ⟨⟨WritesF.refl _ _, hj⟩, upd_self⟩
    · intro V L H wq hw hk hj hd
      clear hd
      go_wp2_with fail
      exact freePost _ rfl ⟨⟨WritesF.refl _ _, hj⟩, upd_self⟩
    · intro V L H wq hw hk hj hd
      obtain ⟨⟨hL2, hM2, hH2, hv2⟩, -⟩ := hd
      rw [hv2]
      have HV2 := Lib.hid hv2
      clear hv2
      have r0 : wq.cell? ⟨w.heap.size + 1, 0, none⟩ = some (.string s) := (hk.cell (p := ⟨w.heap.size + 1, 0, none⟩) ⟨(show w.heap.size + 1 < w1.heap.size by have := HSZ.out; omega), fun h => h, trivial⟩ (show w.heap.size + 1 < w1.heap.size by have := HSZ.out; omega)).trans (pblk_cell HK1.out rfl)
      go_wp2_with fail
      exact freePost _ rfl ⟨⟨WritesF.refl _ _, hj⟩, upd_self⟩
    · intro V L H wq hw hk hj hd
      clear hd
      go_wp2_with fail
      exact freePost _ rfl ⟨⟨WritesF.refl _ _, hj⟩, upd_self⟩
    · intro V L H wq hw hk hj hd
      obtain ⟨⟨hL4, hM4, hH4, hv4⟩, -⟩ := hd
      rw [hv4]
      have HV4 := Lib.hid hv4
      clear hv4
      have r1 : wq.cell? ⟨w.heap.size + 1, 1, none⟩ = some (.string m) := (hk.cell (p := ⟨w.heap.size + 1, 1, none⟩) ⟨(show w.heap.size + 1 < w1.heap.size by have := HSZ.out; omega), fun h => h, trivial⟩ (show w.heap.size + 1 < w1.heap.size by have := HSZ.out; omega)).trans (pblk_cell HK1.out rfl)
      go_wp2_with fail
      exact freePost _ rfl ⟨⟨WritesF.refl _ _, hj⟩, upd_self⟩
    · intro V L H wq hw hk hj hd
      clear hd
      have s0 : wq.cell? ⟨w.heap.size, 0, none⟩ = some (.int .i64 lit) := (hk.cell (p := ⟨w.heap.size, 0, none⟩) ⟨(show w.heap.size < w1.heap.size by have := HSZ.out; omega), fun h => h, trivial⟩ (show w.heap.size < w1.heap.size by have := HSZ.out; omega)).trans (pblk_cell HK0.out rfl)
      have s1 : wq.cell? ⟨w.heap.size, 1, none⟩ = some (.slice ai n ci) := (hk.cell (p := ⟨w.heap.size, 1, none⟩) ⟨(show w.heap.size < w1.heap.size by have := HSZ.out; omega), fun h => h, trivial⟩ (show w.heap.size < w1.heap.size by have := HSZ.out; omega)).trans (pblk_cell HK0.out rfl)
      have s2 : wq.cell? ⟨w.heap.size, 2, none⟩ = some (.func (.func 24) #[] #[.pointer (some ⟨qs, 0, none⟩)]) := (hk.cell (p := ⟨w.heap.size, 2, none⟩) ⟨(show w.heap.size < w1.heap.size by have := HSZ.out; omega), fun h => h, trivial⟩ (show w.heap.size < w1.heap.size by have := HSZ.out; omega)).trans (pblk_cell HK0.out rfl)
      have s3 : wq.cell? ⟨w.heap.size, 3, none⟩ = some (.func (.func 26) #[] #[]) := (hk.cell (p := ⟨w.heap.size, 3, none⟩) ⟨(show w.heap.size < w1.heap.size by have := HSZ.out; omega), fun h => h, trivial⟩ (show w.heap.size < w1.heap.size by have := HSZ.out; omega)).trans (pblk_cell HK0.out rfl)
      go_wp2_with fail
      exact freePost _ rfl ⟨⟨WritesF.refl _ _, hj⟩, upd_self⟩
    · intro V L H wq hw hk hj hd
      clear hd
      go_wp2_with fail
      exact freePost _ rfl ⟨⟨WritesF.refl _ _, hj⟩, upd_self⟩
    · intro V L H wq hw hk hj hd
      obtain ⟨⟨hL7, hM7, hH7, hv7⟩, -⟩ := hd
      rw [hv7]
      have HV7 := Lib.hid hv7
      clear hv7
      have r2 : wq.cell? ⟨w.heap.size + 1, 2, none⟩ = some (.iface T0 v0) := (hk.cell (p := ⟨w.heap.size + 1, 2, none⟩) ⟨(show w.heap.size + 1 < w1.heap.size by have := HSZ.out; omega), fun h => h, trivial⟩ (show w.heap.size + 1 < w1.heap.size by have := HSZ.out; omega)).trans (pblk_cell HK1.out rfl)
      go_wp2_with fail
      exact freePost _ rfl ⟨⟨WritesF.refl _ _, hj⟩, upd_self⟩
    · intro V L H wq hw hk hj hd
      obtain ⟨⟨hL6, hM6, hH6, hv6⟩, ⟨hL8, hM8, hH8, hv8⟩, -⟩ := hd
      rw [hv6, hv8]
      have HV6 := Lib.hid hv6
      have HV8 := Lib.hid hv8
      clear hv6 hv8
      go_wp2_with fail
      refine (HC0.out wq (show Below w.heap.size w wq from HBX.out.trans ((fa_noneK hw).mono HBX.out.size))).mono ?_
      rintro e w2 ⟨rfl, hb2⟩
      go_wp2_with fail
      exact freePost _ rfl ⟨⟨(WritesF.refl _ _).later hb2, trivial⟩, upd_self⟩
    · intro V L H wq hw hk hj hd
      obtain ⟨⟨hL1, hM1, hH1, hv1⟩, ⟨hL3, hM3, hH3, hv3⟩, ⟨hL5, hM5, hH5, hv5⟩, ⟨hL9, hM9, hH9, hv9⟩, -⟩ := hd
      rw [hv1, hv3, hv5, hv9]
      have HV1 := Lib.hid hv1
      have HV3 := Lib.hid hv3
      have HV5 := Lib.hid hv5
      have HV9 := Lib.hid hv9
      clear hv1 hv3 hv5 hv9
      go_wp2_with fail
      refine (scene_remote s m z0 wq).mono ?_
      rintro e w2 ⟨rfl, rfl⟩
      have hb2 : Below wq.heap.size wq wq := Below.refl _ _
      go_wp2_with fail
      exact freePost _ rfl ⟨⟨(WritesF.refl _ _).later hb2, trivial⟩, upd_self⟩
    · intro V L H wq hw hk hj hd
      obtain ⟨⟨hL10, hM10, hH10, hv10⟩, -⟩ := hd
      rw [hv10]
      have HV10 := Lib.hid hv10
      clear hv10
      go_wp2_with fail
      exact freePost _ rfl ⟨⟨WritesF.refl _ _, hj⟩, upd_self⟩
    · intro V L H wq hw hj hd hap hdead
      obtain ⟨⟨hL0, hM0, hH0, hv0⟩, ⟨hL1, hM1, hH1, hv1⟩, ⟨hL2, hM2, hH2, hv2⟩, ⟨hL3, hM3, hH3, hv3⟩, ⟨hL4, hM4, hH4, hv4⟩, ⟨hL5, hM5, hH5, hv5⟩, ⟨hL6, hM6, hH6, hv6⟩, ⟨hL7, hM7, hH7, hv7⟩, ⟨hL8, hM8, hH8, hv8⟩, ⟨hL9, hM9, hH9, hv9⟩, ⟨hL10, hM10, hH10, hv10⟩, ⟨hL11, hM11, hH11, hv11⟩, -⟩ := hd
      rw [hv0, hv1, hv2, hv3, hv4, hv5, hv6, hv7, hv8, hv9, hv10, hv11]
      clear hv0 hv1 hv2 hv3 hv4 hv5 hv6 hv7 hv8 hv9 hv10 hv11
      have HBN := Lib.hid (HBX.out.trans ((fa_noneK hw).mono HBX.out.size))
      clear hw hj hap hdead
      go_wp2
      go_ret
      exact ⟨rfl, HBN.out⟩

/-- Each good term is worth what it says. -/
theorem scene_value {lo hi cs ci qs : Nat} {sa ai : Option Addr} (lit : Int) (ids : List Int) (sl : List DSlot) (hsz : lsz DSlot.sz sl ≤ 1048576) (hn : ids.length ≤ 1048576) : ∀ x : ETm, x.good → SceneOk lo hi cs ci qs sa ai lit ids sl x
  | .none, _ => fun w h1 h2 h3 h4 => sceneV_none (lo := lo) (hi := hi) (cs := cs) (ci := ci) (qs := qs) (sa := sa) (ai := ai) lit ids sl hsz w h1 h2 h3 h4
  | .const z, _ => fun w h1 h2 h3 h4 => sceneV_const (lo := lo) (hi := hi) (cs := cs) (ci := ci) (qs := qs) (sa := sa) (ai := ai) lit ids sl hsz z w h1 h2 h3 h4
  | .lit, _ => fun w h1 h2 h3 h4 => sceneV_lit (lo := lo) (hi := hi) (cs := cs) (ci := ci) (qs := qs) (sa := sa) (ai := ai) lit ids sl hsz w h1 h2 h3 h4
  | .attr p s, _ => fun w h1 h2 h3 h4 => sceneV_attr (lo := lo) (hi := hi) (cs := cs) (ci := ci) (qs := qs) (sa := sa) (ai := ai) lit ids sl hsz p s w h1 h2 h3 h4
  | .op k l r, g => fun w h1 h2 h3 h4 => sceneV_op (lo := lo) (hi := hi) (cs := cs) (ci := ci) (qs := qs) (sa := sa) (ai := ai) lit ids sl hsz k l r (scene_value lit ids sl hsz hn l g.1) (scene_value lit ids sl hsz hn r g.2) w h1 h2 h3 h4
  | .ite c y n, g => fun w h1 h2 h3 h4 => sceneV_ite (lo := lo) (hi := hi) (cs := cs) (ci := ci) (qs := qs) (sa := sa) (ai := ai) lit ids sl hsz c y n (scene_value lit ids sl hsz hn c g.1) (scene_value lit ids sl hsz hn y g.2.1) (scene_value lit ids sl hsz hn n g.2.2) w h1 h2 h3 h4
  | .self p, g => fun w h1 h2 h3 h4 => sceneV_self (lo := lo) (hi := hi) (cs := cs) (ci := ci) (qs := qs) (sa := sa) (ai := ai) lit ids sl hsz hn p g w h1 h2 h3 h4
  | .remote s m z, g => fun w h1 h2 h3 h4 => sceneV_remote (lo := lo) (hi := hi) (cs := cs) (ci := ci) (qs := qs) (sa := sa) (ai := ai) lit ids sl hsz s m z (scene_value lit ids sl hsz hn z g) w h1 h2 h3 h4
end Go.Proofs.Ythpnghbhfbiljaa
