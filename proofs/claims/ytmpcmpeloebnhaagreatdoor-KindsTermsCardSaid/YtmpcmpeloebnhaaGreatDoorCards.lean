/-
  DERIVED. GIVEN WITH THE SEED: THE CARDS: each row of YtmpcmpeloebnhaaGreatDoorRows.lean that lists a variable, with what it lists TIED to the program's text (the seventh form; the later family's looks); each row that meets fmt, with fmt's text TOLD by the authors' own Lean function (tested against real Go, not proved from fmt's source: count such statements apart). THE CARD IS WHAT COUNTS. Prove the row's statement (the work); the ties are given (YtmpcmpeloebnhaaGreatDoorTie.lean); close each card by the builder's one call (the guide's Derived/Test/ToyasCard.lean, 'card_holds'). Laid BY PROGRAM, IN A SANDBOX (cutbox-door.mjs). By AI agents, Wed Nov 11 2026. No macro, syntax, notation, axiom, sorry.
-/
import Derived.Test.YtmpcmpeloebnhaaGreatDoorRows
import GoSem.ClaimSeven
namespace Go.Proofs.YtmpcmpeloebnhaaGreatDoor
namespace Rows

/-- THE TIED CARD OF 'sibyllaw4.ParseTexts'. -/
def parseTextsCard : Claim7 := { stood := { row := parseTextsRow, standIns := [], harness := (true, "972aeb0518d980823b06e6aafb9dd1543143cbef9e9e4088c9ee4064e5f115e1"), looks := false }, kinds := [], alts := [], laidByText := true, laidKinds := [.data, .listed, .data, .data, .data, .pinned], laidTests := true, laidLooks := .later }
def ParseTextsCardSaid : Prop := Claim7.holds Tryz.pinned (.plain (OpenSpec.ofChange parseTextsSpec)) parseTextsCard

/-- THE TIED CARD OF 'sibyllaw4.ParseShown'. -/
def parseShownCard : Claim7 := { stood := { row := parseShownRow, standIns := [], harness := (true, "972aeb0518d980823b06e6aafb9dd1543143cbef9e9e4088c9ee4064e5f115e1"), looks := false }, kinds := [], alts := [], laidByText := true, laidKinds := [.data, .listed, .data, .data, .data, .pinned], laidTests := true, laidLooks := .later }
def ParseShownCardSaid : Prop := Claim7.holds Tryz.pinned (.plain (OpenSpec.ofChange parseShownSpec)) parseShownCard

/-- THE TIED CARD OF 'sibyllaw6.KindsTexts'. -/
def kindsTextsCard : Claim7 := { stood := { row := kindsTextsRow, standIns := [], harness := (true, "972aeb0518d980823b06e6aafb9dd1543143cbef9e9e4088c9ee4064e5f115e1"), looks := false }, kinds := [], alts := [], laidByText := true, laidKinds := [.data, .listed, .data, .data, .pinned], laidTests := true, laidLooks := .later }
def KindsTextsCardSaid : Prop := Claim7.holds Tryz.pinned (.plain (OpenSpec.ofChange kindsTextsSpec)) kindsTextsCard

/-- THE TIED CARD OF 'sibyllaw6.KindsProgs'. -/
def kindsProgsCard : Claim7 := { stood := { row := kindsProgsRow, standIns := [], harness := (true, "972aeb0518d980823b06e6aafb9dd1543143cbef9e9e4088c9ee4064e5f115e1"), looks := false }, kinds := [], alts := [], laidByText := true, laidKinds := [.data, .listed, .data, .data, .pinned], laidTests := true, laidLooks := .later }
def KindsProgsCardSaid : Prop := Claim7.holds Tryz.pinned (.plain (OpenSpec.ofChange kindsProgsSpec)) kindsProgsCard

/-- THE TIED CARD OF 'sibyllaw6.KindsTerms'. -/
def kindsTermsCard : Claim7 := { stood := { row := kindsTermsRow, standIns := [], harness := (true, "972aeb0518d980823b06e6aafb9dd1543143cbef9e9e4088c9ee4064e5f115e1"), looks := false }, kinds := [], alts := [], laidByText := true, laidKinds := [.data, .listed, .data, .data, .pinned], laidTests := true, laidLooks := .later }
def KindsTermsCardSaid : Prop := Claim7.holds Tryz.pinned (.plain (OpenSpec.ofChange kindsTermsSpec)) kindsTermsCard

/-- THE SECOND FORM's CARD OF 'sibyllaw4.ParseTexts'. -/
def parseTextsUptoCard : Claim7 := { stood := { row := parseTextsUptoRow, standIns := [], harness := (true, "972aeb0518d980823b06e6aafb9dd1543143cbef9e9e4088c9ee4064e5f115e1"), looks := false }, kinds := [], alts := [], laidByText := true, laidKinds := [.data, .listed, .data, .data, .data, .pinned], laidTests := true, laidLooks := .later }
def ParseTextsUptoCardSaid : Prop := Claim7.holds Tryz.pinned (.plain (OpenSpec.upto parseTextsSpec)) parseTextsUptoCard

/-- THE SECOND FORM's CARD OF 'sibyllaw4.ParseShown'. -/
def parseShownUptoCard : Claim7 := { stood := { row := parseShownUptoRow, standIns := [], harness := (true, "972aeb0518d980823b06e6aafb9dd1543143cbef9e9e4088c9ee4064e5f115e1"), looks := false }, kinds := [], alts := [], laidByText := true, laidKinds := [.data, .listed, .data, .data, .data, .pinned], laidTests := true, laidLooks := .later }
def ParseShownUptoCardSaid : Prop := Claim7.holds Tryz.pinned (.plain (OpenSpec.upto parseShownSpec)) parseShownUptoCard

/-- THE SECOND FORM's CARD OF 'sibyllaw6.KindsTexts'. -/
def kindsTextsUptoCard : Claim7 := { stood := { row := kindsTextsUptoRow, standIns := [], harness := (true, "972aeb0518d980823b06e6aafb9dd1543143cbef9e9e4088c9ee4064e5f115e1"), looks := false }, kinds := [], alts := [], laidByText := true, laidKinds := [.data, .listed, .data, .data, .pinned], laidTests := true, laidLooks := .later }
def KindsTextsUptoCardSaid : Prop := Claim7.holds Tryz.pinned (.plain (OpenSpec.upto kindsTextsSpec)) kindsTextsUptoCard

/-- THE SECOND FORM's CARD OF 'sibyllaw6.KindsProgs'. -/
def kindsProgsUptoCard : Claim7 := { stood := { row := kindsProgsUptoRow, standIns := [], harness := (true, "972aeb0518d980823b06e6aafb9dd1543143cbef9e9e4088c9ee4064e5f115e1"), looks := false }, kinds := [], alts := [], laidByText := true, laidKinds := [.data, .listed, .data, .data, .pinned], laidTests := true, laidLooks := .later }
def KindsProgsUptoCardSaid : Prop := Claim7.holds Tryz.pinned (.plain (OpenSpec.upto kindsProgsSpec)) kindsProgsUptoCard

/-- THE SECOND FORM's CARD OF 'sibyllaw6.KindsTerms'. -/
def kindsTermsUptoCard : Claim7 := { stood := { row := kindsTermsUptoRow, standIns := [], harness := (true, "972aeb0518d980823b06e6aafb9dd1543143cbef9e9e4088c9ee4064e5f115e1"), looks := false }, kinds := [], alts := [], laidByText := true, laidKinds := [.data, .listed, .data, .data, .pinned], laidTests := true, laidLooks := .later }
def KindsTermsUptoCardSaid : Prop := Claim7.holds Tryz.pinned (.plain (OpenSpec.upto kindsTermsSpec)) kindsTermsUptoCard
end Rows
end Go.Proofs.YtmpcmpeloebnhaaGreatDoor
