/-
  DERIVED. GIVEN WITH THE SEED: THE CARDS: each row of YtmlmjopfbohglaaDoorRows.lean that lists a variable, with what it lists TIED to the program's text (the seventh form; the later family's looks); each row that meets fmt, with fmt's text TOLD by the authors' own Lean function (tested against real Go, not proved from fmt's source: count such statements apart). THE CARD IS WHAT COUNTS. Prove the row's statement (the work); the ties are given (YtmlmjopfbohglaaDoorTie.lean); close each card by the builder's one call (the guide's Derived/Test/ToyasCard.lean, 'card_holds'). Laid BY PROGRAM, IN A SANDBOX (cutbox-door.mjs). By AI agents, Wed Nov 11 2026. No macro, syntax, notation, axiom, sorry.
-/
import Derived.Test.YtmlmjopfbohglaaDoorRows
import GoSem.ClaimSeven
namespace Go.Proofs.YtmlmjopfbohglaaDoor
namespace Rows

/-- THE TIED CARD OF 'sibyllaw5.ShowBack'. -/
def showBackCard : Claim7 := { stood := { row := showBackRow, standIns := [], harness := (true, "85488b329db9fc4a57fcd08dc1d3bea805cfca90b9e278f81d289f948b56a653"), looks := true }, kinds := [], alts := [], laidByText := true, laidKinds := [.data, .data, .data, .data, .pinned], laidTests := true, laidLooks := .later }
def ShowBackCardSaid : Prop := Claim7.holds Tryd.pinned (.plain (OpenSpec.ofChange showBackSpec)) showBackCard

/-- THE TIED CARD OF 'sibyllaw5.ShowText'. -/
def showTextCard : Claim7 := { stood := { row := showTextRow, standIns := [], harness := (true, "85488b329db9fc4a57fcd08dc1d3bea805cfca90b9e278f81d289f948b56a653"), looks := true }, kinds := [], alts := [], laidByText := true, laidKinds := [.data, .data, .data, .data, .pinned], laidTests := true, laidLooks := .later }
def ShowTextCardSaid : Prop := Claim7.holds Tryd.pinned (.plain (OpenSpec.ofChange showTextSpec)) showTextCard

/-- THE TIED CARD OF 'sibyllaw6.KindsWords'. -/
def kindsWordsCard : Claim7 := { stood := { row := kindsWordsRow, standIns := [], harness := (true, "85488b329db9fc4a57fcd08dc1d3bea805cfca90b9e278f81d289f948b56a653"), looks := true }, kinds := [], alts := [], laidByText := true, laidKinds := [.data, .listed, .data, .data, .pinned], laidTests := true, laidLooks := .later }
def KindsWordsCardSaid : Prop := Claim7.holds Tryd.pinned (.plain (OpenSpec.ofChange kindsWordsSpec)) kindsWordsCard

/-- THE TIED CARD OF 'sibyllaw7.FreeFresh'. -/
def freeFreshCard : Claim7 := { stood := { row := freeFreshRow, standIns := [], harness := (true, "85488b329db9fc4a57fcd08dc1d3bea805cfca90b9e278f81d289f948b56a653"), looks := true }, kinds := [], alts := [], laidByText := true, laidKinds := [.data, .pinned], laidTests := true, laidLooks := .later }
def FreeFreshCardSaid : Prop := Claim7.holds Tryd.pinned (.plain (OpenSpec.ofChange freeFreshSpec)) freeFreshCard

/-- THE SECOND FORM's CARD OF 'sibyllaw5.ShowBack'. -/
def showBackUptoCard : Claim7 := { stood := { row := showBackUptoRow, standIns := [], harness := (true, "85488b329db9fc4a57fcd08dc1d3bea805cfca90b9e278f81d289f948b56a653"), looks := true }, kinds := [], alts := [], laidByText := true, laidKinds := [.data, .data, .data, .data, .pinned], laidTests := true, laidLooks := .later }
def ShowBackUptoCardSaid : Prop := Claim7.holds Tryd.pinned (.plain (OpenSpec.upto showBackSpec)) showBackUptoCard

/-- THE SECOND FORM's CARD OF 'sibyllaw5.ShowText'. -/
def showTextUptoCard : Claim7 := { stood := { row := showTextUptoRow, standIns := [], harness := (true, "85488b329db9fc4a57fcd08dc1d3bea805cfca90b9e278f81d289f948b56a653"), looks := true }, kinds := [], alts := [], laidByText := true, laidKinds := [.data, .data, .data, .data, .pinned], laidTests := true, laidLooks := .later }
def ShowTextUptoCardSaid : Prop := Claim7.holds Tryd.pinned (.plain (OpenSpec.upto showTextSpec)) showTextUptoCard

/-- THE SECOND FORM's CARD OF 'sibyllaw6.KindsWords'. -/
def kindsWordsUptoCard : Claim7 := { stood := { row := kindsWordsUptoRow, standIns := [], harness := (true, "85488b329db9fc4a57fcd08dc1d3bea805cfca90b9e278f81d289f948b56a653"), looks := true }, kinds := [], alts := [], laidByText := true, laidKinds := [.data, .listed, .data, .data, .pinned], laidTests := true, laidLooks := .later }
def KindsWordsUptoCardSaid : Prop := Claim7.holds Tryd.pinned (.plain (OpenSpec.upto kindsWordsSpec)) kindsWordsUptoCard

/-- THE SECOND FORM's CARD OF 'sibyllaw7.FreeFresh'. -/
def freeFreshUptoCard : Claim7 := { stood := { row := freeFreshUptoRow, standIns := [], harness := (true, "85488b329db9fc4a57fcd08dc1d3bea805cfca90b9e278f81d289f948b56a653"), looks := true }, kinds := [], alts := [], laidByText := true, laidKinds := [.data, .pinned], laidTests := true, laidLooks := .later }
def FreeFreshUptoCardSaid : Prop := Claim7.holds Tryd.pinned (.plain (OpenSpec.upto freeFreshSpec)) freeFreshUptoCard
end Rows
end Go.Proofs.YtmlmjopfbohglaaDoor
