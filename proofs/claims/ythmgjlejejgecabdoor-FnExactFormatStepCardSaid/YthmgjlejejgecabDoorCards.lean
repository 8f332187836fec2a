/-
  DERIVED. GIVEN WITH THE SEED: THE CARDS: each row of YthmgjlejejgecabDoorRows.lean that lists a variable, with what it lists TIED to the program's text (the seventh form; the later family's looks); each row that meets fmt, with fmt's text TOLD by the authors' own Lean function (tested against real Go, not proved from fmt's source: count such statements apart). THE CARD IS WHAT COUNTS. Prove the row's statement (the work); the ties are given (YthmgjlejejgecabDoorTie.lean); close each card by the builder's one call (the guide's Derived/Test/ToyasCard.lean, 'card_holds'). Laid BY PROGRAM, IN A SANDBOX (cutbox-door.mjs). By AI agents, Wed Nov 11 2026. No macro, syntax, notation, axiom, sorry.
-/
import Derived.Test.YthmgjlejejgecabDoorRows
import GoSem.ClaimSeven
namespace Go.Proofs.YthmgjlejejgecabDoor
namespace Rows

/-- THE TIED CARD OF 'laws.FnExactFormatStep'. -/
def fnExactFormatStepCard : Claim7 := { stood := { row := fnExactFormatStepRow, standIns := [], harness := (true, "8435dfb0822a6080dfb7721fc907b2d7155ff5adbf278083ed2a7ccab9db1bbd"), looks := false }, kinds := [], alts := [], laidByText := true, laidKinds := [.data, .data, .data], laidTests := true, laidLooks := .later }
def FnExactFormatStepCardSaid : Prop := Claim7.holds Tryd.pinned (.plain (OpenSpec.ofChange fnExactFormatStepSpec)) fnExactFormatStepCard

/-- THE TIED CARD OF 'laws.FnExactFormatInstance'. -/
def fnExactFormatInstanceCard : Claim7 := { stood := { row := fnExactFormatInstanceRow, standIns := [], harness := (true, "8435dfb0822a6080dfb7721fc907b2d7155ff5adbf278083ed2a7ccab9db1bbd"), looks := false }, kinds := [], alts := [], laidByText := true, laidKinds := [.data, .data, .data], laidTests := true, laidLooks := .later }
def FnExactFormatInstanceCardSaid : Prop := Claim7.holds Tryd.pinned (.plain (OpenSpec.ofChange fnExactFormatInstanceSpec)) fnExactFormatInstanceCard

/-- THE TIED CARD OF 'laws.FnExactSharedSize'. -/
def fnExactSharedSizeCard : Claim7 := { stood := { row := fnExactSharedSizeRow, standIns := [], harness := (true, "8435dfb0822a6080dfb7721fc907b2d7155ff5adbf278083ed2a7ccab9db1bbd"), looks := false }, kinds := [], alts := [], laidByText := true, laidKinds := [.data, .data, .data], laidTests := true, laidLooks := .later }
def FnExactSharedSizeCardSaid : Prop := Claim7.holds Tryd.pinned (.plain (OpenSpec.ofChange fnExactSharedSizeSpec)) fnExactSharedSizeCard

/-- THE TIED CARD OF 'laws.FnExactIsValidStore'. -/
def fnExactIsValidStoreCard : Claim7 := { stood := { row := fnExactIsValidStoreRow, standIns := [], harness := (true, "8435dfb0822a6080dfb7721fc907b2d7155ff5adbf278083ed2a7ccab9db1bbd"), looks := false }, kinds := [], alts := [], laidByText := true, laidKinds := [.data, .data, .data], laidTests := true, laidLooks := .later }
def FnExactIsValidStoreCardSaid : Prop := Claim7.holds Tryd.pinned (.plain (OpenSpec.ofChange fnExactIsValidStoreSpec)) fnExactIsValidStoreCard

/-- THE SECOND FORM's CARD OF 'laws.FnExactFormatStep'. -/
def fnExactFormatStepUptoCard : Claim7 := { stood := { row := fnExactFormatStepUptoRow, standIns := [], harness := (true, "8435dfb0822a6080dfb7721fc907b2d7155ff5adbf278083ed2a7ccab9db1bbd"), looks := false }, kinds := [], alts := [], laidByText := true, laidKinds := [.data, .data, .data], laidTests := true, laidLooks := .later }
def FnExactFormatStepUptoCardSaid : Prop := Claim7.holds Tryd.pinned (.plain (OpenSpec.upto fnExactFormatStepSpec)) fnExactFormatStepUptoCard

/-- THE SECOND FORM's CARD OF 'laws.FnExactFormatInstance'. -/
def fnExactFormatInstanceUptoCard : Claim7 := { stood := { row := fnExactFormatInstanceUptoRow, standIns := [], harness := (true, "8435dfb0822a6080dfb7721fc907b2d7155ff5adbf278083ed2a7ccab9db1bbd"), looks := false }, kinds := [], alts := [], laidByText := true, laidKinds := [.data, .data, .data], laidTests := true, laidLooks := .later }
def FnExactFormatInstanceUptoCardSaid : Prop := Claim7.holds Tryd.pinned (.plain (OpenSpec.upto fnExactFormatInstanceSpec)) fnExactFormatInstanceUptoCard

/-- THE SECOND FORM's CARD OF 'laws.FnExactSharedSize'. -/
def fnExactSharedSizeUptoCard : Claim7 := { stood := { row := fnExactSharedSizeUptoRow, standIns := [], harness := (true, "8435dfb0822a6080dfb7721fc907b2d7155ff5adbf278083ed2a7ccab9db1bbd"), looks := false }, kinds := [], alts := [], laidByText := true, laidKinds := [.data, .data, .data], laidTests := true, laidLooks := .later }
def FnExactSharedSizeUptoCardSaid : Prop := Claim7.holds Tryd.pinned (.plain (OpenSpec.upto fnExactSharedSizeSpec)) fnExactSharedSizeUptoCard

/-- THE SECOND FORM's CARD OF 'laws.FnExactIsValidStore'. -/
def fnExactIsValidStoreUptoCard : Claim7 := { stood := { row := fnExactIsValidStoreUptoRow, standIns := [], harness := (true, "8435dfb0822a6080dfb7721fc907b2d7155ff5adbf278083ed2a7ccab9db1bbd"), looks := false }, kinds := [], alts := [], laidByText := true, laidKinds := [.data, .data, .data], laidTests := true, laidLooks := .later }
def FnExactIsValidStoreUptoCardSaid : Prop := Claim7.holds Tryd.pinned (.plain (OpenSpec.upto fnExactIsValidStoreSpec)) fnExactIsValidStoreUptoCard
end Rows
end Go.Proofs.YthmgjlejejgecabDoor
