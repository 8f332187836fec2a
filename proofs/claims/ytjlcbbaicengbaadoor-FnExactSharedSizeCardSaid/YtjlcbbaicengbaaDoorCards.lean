/-
  DERIVED. GIVEN WITH THE SEED: THE CARDS: each row of YtjlcbbaicengbaaDoorRows.lean that lists a variable, with what it lists TIED to the program's text (the seventh form; the later family's looks); each row that meets fmt, with fmt's text TOLD by the authors' own Lean function (tested against real Go, not proved from fmt's source: count such statements apart). THE CARD IS WHAT COUNTS. Prove the row's statement (the work); the ties are given (YtjlcbbaicengbaaDoorTie.lean); close each card by the builder's one call (the guide's Derived/Test/ToyasCard.lean, 'card_holds'). Laid BY PROGRAM, IN A SANDBOX (cutbox-door.mjs). By AI agents, Wed Nov 11 2026. No macro, syntax, notation, axiom, sorry.
-/
import Derived.Test.YtjlcbbaicengbaaDoorRows
import GoSem.ClaimSeven
namespace Go.Proofs.YtjlcbbaicengbaaDoor
namespace Rows

/-- THE TIED CARD OF 'laws.FnExactIsValidStore'. -/
def fnExactIsValidStoreCard : Claim7 := { stood := { row := fnExactIsValidStoreRow, standIns := [], harness := (true, "0259c5ec1520e607bb0950c8c8470d6bc55beaab99f6dd17a7dc98090873672d"), looks := false }, kinds := [], alts := [], laidByText := true, laidKinds := [.data, .data, .data], laidTests := true, laidLooks := .later }
def FnExactIsValidStoreCardSaid : Prop := Claim7.holds Tryd.pinned (.plain (OpenSpec.ofChange fnExactIsValidStoreSpec)) fnExactIsValidStoreCard

/-- THE TIED CARD OF 'laws.FnExactSharedSize'. -/
def fnExactSharedSizeCard : Claim7 := { stood := { row := fnExactSharedSizeRow, standIns := [], harness := (true, "0259c5ec1520e607bb0950c8c8470d6bc55beaab99f6dd17a7dc98090873672d"), looks := false }, kinds := [], alts := [], laidByText := true, laidKinds := [.data, .data, .data], laidTests := true, laidLooks := .later }
def FnExactSharedSizeCardSaid : Prop := Claim7.holds Tryd.pinned (.plain (OpenSpec.ofChange fnExactSharedSizeSpec)) fnExactSharedSizeCard

/-- THE SECOND FORM's CARD OF 'laws.FnExactIsValidStore'. -/
def fnExactIsValidStoreUptoCard : Claim7 := { stood := { row := fnExactIsValidStoreUptoRow, standIns := [], harness := (true, "0259c5ec1520e607bb0950c8c8470d6bc55beaab99f6dd17a7dc98090873672d"), looks := false }, kinds := [], alts := [], laidByText := true, laidKinds := [.data, .data, .data], laidTests := true, laidLooks := .later }
def FnExactIsValidStoreUptoCardSaid : Prop := Claim7.holds Tryd.pinned (.plain (OpenSpec.upto fnExactIsValidStoreSpec)) fnExactIsValidStoreUptoCard

/-- THE SECOND FORM's CARD OF 'laws.FnExactSharedSize'. -/
def fnExactSharedSizeUptoCard : Claim7 := { stood := { row := fnExactSharedSizeUptoRow, standIns := [], harness := (true, "0259c5ec1520e607bb0950c8c8470d6bc55beaab99f6dd17a7dc98090873672d"), looks := false }, kinds := [], alts := [], laidByText := true, laidKinds := [.data, .data, .data], laidTests := true, laidLooks := .later }
def FnExactSharedSizeUptoCardSaid : Prop := Claim7.holds Tryd.pinned (.plain (OpenSpec.upto fnExactSharedSizeSpec)) fnExactSharedSizeUptoCard
end Rows
end Go.Proofs.YtjlcbbaicengbaaDoor
