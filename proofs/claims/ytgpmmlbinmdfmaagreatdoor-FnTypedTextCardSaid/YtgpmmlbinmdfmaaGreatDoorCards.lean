/-
  DERIVED. GIVEN WITH THE SEED: THE CARDS: each row of YtgpmmlbinmdfmaaGreatDoorRows.lean that lists a variable, with what it lists TIED to the program's text (the seventh form; the later family's looks); each row that meets fmt, with fmt's text TOLD by the authors' own Lean function (tested against real Go, not proved from fmt's source: count such statements apart). THE CARD IS WHAT COUNTS. Prove the row's statement (the work); the ties are given (YtgpmmlbinmdfmaaGreatDoorTie.lean); close each card by the builder's one call (the guide's Derived/Test/ToyasCard.lean, 'card_holds'). Laid BY PROGRAM, IN A SANDBOX (cutbox-door.mjs). By AI agents, Wed Nov 11 2026. No macro, syntax, notation, axiom, sorry.
-/
import Derived.Test.YtgpmmlbinmdfmaaGreatDoorRows
import GoSem.ClaimSeven
namespace Go.Proofs.YtgpmmlbinmdfmaaGreatDoor
namespace Rows

/-- THE TIED CARD OF 'laws.FnTypedText'. -/
def fnTypedTextCard : Claim7 := { stood := { row := fnTypedTextRow, standIns := [], harness := (true, "c3d6e45a5ab95e02fb59a6fdcee60a0f26c2444f66c820ab1215e47112de5178"), looks := true }, kinds := [], alts := [], laidByText := true, laidKinds := [.data, .data, .data, .data, .sentinel, .sentinel, .pinned], laidTests := true, laidLooks := .later }
def FnTypedTextCardSaid : Prop := Claim7.holds Tryz.pinned (.plain (OpenSpec.ofChange fnTypedTextSpec)) fnTypedTextCard

/-- THE TIED CARD OF 'laws.FnExactParseTyped'. -/
def fnExactParseTypedCard : Claim7 := { stood := { row := fnExactParseTypedRow, standIns := [], harness := (true, "c3d6e45a5ab95e02fb59a6fdcee60a0f26c2444f66c820ab1215e47112de5178"), looks := true }, kinds := [], alts := [], laidByText := true, laidKinds := [.data, .data, .data, .data, .sentinel, .sentinel, .pinned], laidTests := true, laidLooks := .later }
def FnExactParseTypedCardSaid : Prop := Claim7.holds Tryz.pinned (.plain (OpenSpec.ofChange fnExactParseTypedSpec)) fnExactParseTypedCard

/-- THE SECOND FORM's CARD OF 'laws.FnTypedText'. -/
def fnTypedTextUptoCard : Claim7 := { stood := { row := fnTypedTextUptoRow, standIns := [], harness := (true, "c3d6e45a5ab95e02fb59a6fdcee60a0f26c2444f66c820ab1215e47112de5178"), looks := true }, kinds := [], alts := [], laidByText := true, laidKinds := [.data, .data, .data, .data, .sentinel, .sentinel, .pinned], laidTests := true, laidLooks := .later }
def FnTypedTextUptoCardSaid : Prop := Claim7.holds Tryz.pinned (.plain (OpenSpec.upto fnTypedTextSpec)) fnTypedTextUptoCard

/-- THE SECOND FORM's CARD OF 'laws.FnExactParseTyped'. -/
def fnExactParseTypedUptoCard : Claim7 := { stood := { row := fnExactParseTypedUptoRow, standIns := [], harness := (true, "c3d6e45a5ab95e02fb59a6fdcee60a0f26c2444f66c820ab1215e47112de5178"), looks := true }, kinds := [], alts := [], laidByText := true, laidKinds := [.data, .data, .data, .data, .sentinel, .sentinel, .pinned], laidTests := true, laidLooks := .later }
def FnExactParseTypedUptoCardSaid : Prop := Claim7.holds Tryz.pinned (.plain (OpenSpec.upto fnExactParseTypedSpec)) fnExactParseTypedUptoCard
end Rows
end Go.Proofs.YtgpmmlbinmdfmaaGreatDoor
