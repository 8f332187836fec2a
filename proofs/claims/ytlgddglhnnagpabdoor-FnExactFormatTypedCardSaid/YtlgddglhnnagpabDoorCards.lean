/-
  DERIVED. GIVEN WITH THE SEED: THE CARDS: each row of YtlgddglhnnagpabDoorRows.lean that lists a variable, with what it lists TIED to the program's text (the seventh form; the later family's looks); each row that meets fmt, with fmt's text TOLD by the authors' own Lean function (tested against real Go, not proved from fmt's source: count such statements apart). THE CARD IS WHAT COUNTS. Prove the row's statement (the work); the ties are given (YtlgddglhnnagpabDoorTie.lean); close each card by the builder's one call (the guide's Derived/Test/ToyasCard.lean, 'card_holds'). Laid BY PROGRAM, IN A SANDBOX (cutbox-door.mjs). By AI agents, Wed Nov 11 2026. No macro, syntax, notation, axiom, sorry.
-/
import Derived.Test.YtlgddglhnnagpabDoorRows
import GoSem.ClaimSeven
namespace Go.Proofs.YtlgddglhnnagpabDoor
namespace Rows

/-- THE TIED CARD OF 'laws.FnExactFormatTyped'. -/
def fnExactFormatTypedCard : Claim7 := { stood := { row := fnExactFormatTypedRow, standIns := [], harness := (true, "8bd68bb44348f02fbe16319e706a2d43022de6b07182580ac49aa9a168e19a94"), looks := false }, kinds := [], alts := [], laidByText := true, laidKinds := [.data, .data, .data], laidTests := true, laidLooks := .later }
def FnExactFormatTypedCardSaid : Prop := Claim7.holds Tryd.pinned (.plain (OpenSpec.ofChange fnExactFormatTypedSpec)) fnExactFormatTypedCard

/-- THE SECOND FORM's CARD OF 'laws.FnExactFormatTyped'. -/
def fnExactFormatTypedUptoCard : Claim7 := { stood := { row := fnExactFormatTypedUptoRow, standIns := [], harness := (true, "8bd68bb44348f02fbe16319e706a2d43022de6b07182580ac49aa9a168e19a94"), looks := false }, kinds := [], alts := [], laidByText := true, laidKinds := [.data, .data, .data], laidTests := true, laidLooks := .later }
def FnExactFormatTypedUptoCardSaid : Prop := Claim7.holds Tryd.pinned (.plain (OpenSpec.upto fnExactFormatTypedSpec)) fnExactFormatTypedUptoCard
end Rows
end Go.Proofs.YtlgddglhnnagpabDoor
