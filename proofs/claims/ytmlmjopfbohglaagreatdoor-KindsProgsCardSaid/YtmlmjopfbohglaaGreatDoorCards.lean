/-
  DERIVED. GIVEN WITH THE SEED: THE CARDS: each row of YtmlmjopfbohglaaGreatDoorRows.lean that lists a variable, with what it lists TIED to the program's text (the seventh form; the later family's looks); each row that meets fmt, with fmt's text TOLD by the authors' own Lean function (tested against real Go, not proved from fmt's source: count such statements apart). THE CARD IS WHAT COUNTS. Prove the row's statement (the work); the ties are given (YtmlmjopfbohglaaGreatDoorTie.lean); close each card by the builder's one call (the guide's Derived/Test/ToyasCard.lean, 'card_holds'). Laid BY PROGRAM, IN A SANDBOX (cutbox-door.mjs). By AI agents, Wed Nov 11 2026. No macro, syntax, notation, axiom, sorry.
-/
import Derived.Test.YtmlmjopfbohglaaGreatDoorRows
import GoSem.ClaimSeven
namespace Go.Proofs.YtmlmjopfbohglaaGreatDoor
namespace Rows

/-- THE TIED CARD OF 'sibyllaw4.ParseTexts'. -/
def parseTextsCard : Claim7 := { stood := { row := parseTextsRow, standIns := [], harness := (true, "862376e6337e89bad7eee46ae919402a74ebd962455ba72675234facc2c686a1"), looks := true }, kinds := [], alts := [], laidByText := true, laidKinds := [.data, .listed, .data, .data, .data, .pinned], laidTests := true, laidLooks := .later }
def ParseTextsCardSaid : Prop := Claim7.holds Tryz.pinned (.plain (OpenSpec.ofChange parseTextsSpec)) parseTextsCard

/-- THE TIED CARD OF 'sibyllaw4.ParseShown'. -/
def parseShownCard : Claim7 := { stood := { row := parseShownRow, standIns := [], harness := (true, "862376e6337e89bad7eee46ae919402a74ebd962455ba72675234facc2c686a1"), looks := true }, kinds := [], alts := [], laidByText := true, laidKinds := [.data, .listed, .data, .data, .data, .pinned], laidTests := true, laidLooks := .later }
def ParseShownCardSaid : Prop := Claim7.holds Tryz.pinned (.plain (OpenSpec.ofChange parseShownSpec)) parseShownCard

/-- THE TIED CARD OF 'sibyllaw6.KindsTexts'. -/
def kindsTextsCard : Claim7 := { stood := { row := kindsTextsRow, standIns := [], harness := (true, "862376e6337e89bad7eee46ae919402a74ebd962455ba72675234facc2c686a1"), looks := true }, kinds := [], alts := [], laidByText := true, laidKinds := [.data, .listed, .data, .data, .pinned], laidTests := true, laidLooks := .later }
def KindsTextsCardSaid : Prop := Claim7.holds Tryz.pinned (.plain (OpenSpec.ofChange kindsTextsSpec)) kindsTextsCard

/-- THE TIED CARD OF 'sibyllaw6.KindsProgs'. -/
def kindsProgsCard : Claim7 := { stood := { row := kindsProgsRow, standIns := [], harness := (true, "862376e6337e89bad7eee46ae919402a74ebd962455ba72675234facc2c686a1"), looks := true }, kinds := [], alts := [], laidByText := true, laidKinds := [.data, .listed, .data, .data, .pinned], laidTests := true, laidLooks := .later }
def KindsProgsCardSaid : Prop := Claim7.holds Tryz.pinned (.plain (OpenSpec.ofChange kindsProgsSpec)) kindsProgsCard

/-- THE TIED CARD OF 'sibyllaw7.FreeNames'. -/
def freeNamesCard : Claim7 := { stood := { row := freeNamesRow, standIns := [], harness := (true, "862376e6337e89bad7eee46ae919402a74ebd962455ba72675234facc2c686a1"), looks := true }, kinds := [], alts := [], laidByText := true, laidKinds := [.data, .pinned], laidTests := true, laidLooks := .later }
def FreeNamesCardSaid : Prop := Claim7.holds Tryz.pinned (.plain (OpenSpec.ofChange freeNamesSpec)) freeNamesCard

/-- THE TIED CARD OF 'sibyllaw7.FreePuts'. -/
def freePutsCard : Claim7 := { stood := { row := freePutsRow, standIns := [], harness := (true, "862376e6337e89bad7eee46ae919402a74ebd962455ba72675234facc2c686a1"), looks := true }, kinds := [], alts := [], laidByText := true, laidKinds := [.data, .pinned], laidTests := true, laidLooks := .later }
def FreePutsCardSaid : Prop := Claim7.holds Tryz.pinned (.plain (OpenSpec.ofChange freePutsSpec)) freePutsCard

/-- THE TIED CARD OF 'sibyllaw7.FreeLeaves'. -/
def freeLeavesCard : Claim7 := { stood := { row := freeLeavesRow, standIns := [], harness := (true, "862376e6337e89bad7eee46ae919402a74ebd962455ba72675234facc2c686a1"), looks := true }, kinds := [], alts := [], laidByText := true, laidKinds := [.data, .pinned], laidTests := true, laidLooks := .later }
def FreeLeavesCardSaid : Prop := Claim7.holds Tryz.pinned (.plain (OpenSpec.ofChange freeLeavesSpec)) freeLeavesCard

/-- THE TIED CARD OF 'sibyllaw7.FreeSelf'. -/
def freeSelfCard : Claim7 := { stood := { row := freeSelfRow, standIns := [], harness := (true, "862376e6337e89bad7eee46ae919402a74ebd962455ba72675234facc2c686a1"), looks := true }, kinds := [], alts := [], laidByText := true, laidKinds := [.data, .pinned], laidTests := true, laidLooks := .later }
def FreeSelfCardSaid : Prop := Claim7.holds Tryz.pinned (.plain (OpenSpec.ofChange freeSelfSpec)) freeSelfCard

/-- THE SECOND FORM's CARD OF 'sibyllaw4.ParseTexts'. -/
def parseTextsUptoCard : Claim7 := { stood := { row := parseTextsUptoRow, standIns := [], harness := (true, "862376e6337e89bad7eee46ae919402a74ebd962455ba72675234facc2c686a1"), looks := true }, kinds := [], alts := [], laidByText := true, laidKinds := [.data, .listed, .data, .data, .data, .pinned], laidTests := true, laidLooks := .later }
def ParseTextsUptoCardSaid : Prop := Claim7.holds Tryz.pinned (.plain (OpenSpec.upto parseTextsSpec)) parseTextsUptoCard

/-- THE SECOND FORM's CARD OF 'sibyllaw4.ParseShown'. -/
def parseShownUptoCard : Claim7 := { stood := { row := parseShownUptoRow, standIns := [], harness := (true, "862376e6337e89bad7eee46ae919402a74ebd962455ba72675234facc2c686a1"), looks := true }, kinds := [], alts := [], laidByText := true, laidKinds := [.data, .listed, .data, .data, .data, .pinned], laidTests := true, laidLooks := .later }
def ParseShownUptoCardSaid : Prop := Claim7.holds Tryz.pinned (.plain (OpenSpec.upto parseShownSpec)) parseShownUptoCard

/-- THE SECOND FORM's CARD OF 'sibyllaw6.KindsTexts'. -/
def kindsTextsUptoCard : Claim7 := { stood := { row := kindsTextsUptoRow, standIns := [], harness := (true, "862376e6337e89bad7eee46ae919402a74ebd962455ba72675234facc2c686a1"), looks := true }, kinds := [], alts := [], laidByText := true, laidKinds := [.data, .listed, .data, .data, .pinned], laidTests := true, laidLooks := .later }
def KindsTextsUptoCardSaid : Prop := Claim7.holds Tryz.pinned (.plain (OpenSpec.upto kindsTextsSpec)) kindsTextsUptoCard

/-- THE SECOND FORM's CARD OF 'sibyllaw6.KindsProgs'. -/
def kindsProgsUptoCard : Claim7 := { stood := { row := kindsProgsUptoRow, standIns := [], harness := (true, "862376e6337e89bad7eee46ae919402a74ebd962455ba72675234facc2c686a1"), looks := true }, kinds := [], alts := [], laidByText := true, laidKinds := [.data, .listed, .data, .data, .pinned], laidTests := true, laidLooks := .later }
def KindsProgsUptoCardSaid : Prop := Claim7.holds Tryz.pinned (.plain (OpenSpec.upto kindsProgsSpec)) kindsProgsUptoCard

/-- THE SECOND FORM's CARD OF 'sibyllaw7.FreeNames'. -/
def freeNamesUptoCard : Claim7 := { stood := { row := freeNamesUptoRow, standIns := [], harness := (true, "862376e6337e89bad7eee46ae919402a74ebd962455ba72675234facc2c686a1"), looks := true }, kinds := [], alts := [], laidByText := true, laidKinds := [.data, .pinned], laidTests := true, laidLooks := .later }
def FreeNamesUptoCardSaid : Prop := Claim7.holds Tryz.pinned (.plain (OpenSpec.upto freeNamesSpec)) freeNamesUptoCard

/-- THE SECOND FORM's CARD OF 'sibyllaw7.FreePuts'. -/
def freePutsUptoCard : Claim7 := { stood := { row := freePutsUptoRow, standIns := [], harness := (true, "862376e6337e89bad7eee46ae919402a74ebd962455ba72675234facc2c686a1"), looks := true }, kinds := [], alts := [], laidByText := true, laidKinds := [.data, .pinned], laidTests := true, laidLooks := .later }
def FreePutsUptoCardSaid : Prop := Claim7.holds Tryz.pinned (.plain (OpenSpec.upto freePutsSpec)) freePutsUptoCard

/-- THE SECOND FORM's CARD OF 'sibyllaw7.FreeLeaves'. -/
def freeLeavesUptoCard : Claim7 := { stood := { row := freeLeavesUptoRow, standIns := [], harness := (true, "862376e6337e89bad7eee46ae919402a74ebd962455ba72675234facc2c686a1"), looks := true }, kinds := [], alts := [], laidByText := true, laidKinds := [.data, .pinned], laidTests := true, laidLooks := .later }
def FreeLeavesUptoCardSaid : Prop := Claim7.holds Tryz.pinned (.plain (OpenSpec.upto freeLeavesSpec)) freeLeavesUptoCard

/-- THE SECOND FORM's CARD OF 'sibyllaw7.FreeSelf'. -/
def freeSelfUptoCard : Claim7 := { stood := { row := freeSelfUptoRow, standIns := [], harness := (true, "862376e6337e89bad7eee46ae919402a74ebd962455ba72675234facc2c686a1"), looks := true }, kinds := [], alts := [], laidByText := true, laidKinds := [.data, .pinned], laidTests := true, laidLooks := .later }
def FreeSelfUptoCardSaid : Prop := Claim7.holds Tryz.pinned (.plain (OpenSpec.upto freeSelfSpec)) freeSelfUptoCard
end Rows
end Go.Proofs.YtmlmjopfbohglaaGreatDoor
