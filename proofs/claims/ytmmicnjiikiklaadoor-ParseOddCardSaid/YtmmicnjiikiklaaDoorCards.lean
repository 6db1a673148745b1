/-
  DERIVED. GIVEN WITH THE SEED: THE CARDS: each row of YtmmicnjiikiklaaDoorRows.lean that lists a variable, with what it lists TIED to the program's text (the seventh form; the later family's looks); each row that meets fmt, with fmt's text TOLD by the authors' own Lean function (tested against real Go, not proved from fmt's source: count such statements apart). THE CARD IS WHAT COUNTS. Prove the row's statement (the work); the ties are given (YtmmicnjiikiklaaDoorTie.lean); close each card by the builder's one call (the guide's Derived/Test/ToyasCard.lean, 'card_holds'). Laid BY PROGRAM, IN A SANDBOX (cutbox-door.mjs). By AI agents, Wed Nov 11 2026. No macro, syntax, notation, axiom, sorry.
-/
import Derived.Test.YtmmicnjiikiklaaDoorRows
import GoSem.ClaimSeven
namespace Go.Proofs.YtmmicnjiikiklaaDoor
namespace Rows

/-- THE TIED CARD OF 'sibyllaw3.TreeProgs'. -/
def treeProgsCard : Claim7 := { stood := { row := treeProgsRow, standIns := [], harness := (true, "ca4b8b5bf78cd921b69573519ee39a2a565ffe0a2a86e395683f2d755cbdb804"), looks := false }, kinds := [], alts := [], laidByText := true, laidKinds := [.data, .listed, .data, .data, .pinned], laidTests := true, laidLooks := .later }
def TreeProgsCardSaid : Prop := Claim7.holds Tryd.pinned (.plain (OpenSpec.ofChange treeProgsSpec)) treeProgsCard

/-- THE TIED CARD OF 'sibyllaw4.ParseOrder'. -/
def parseOrderCard : Claim7 := { stood := { row := parseOrderRow, standIns := [], harness := (true, "ca4b8b5bf78cd921b69573519ee39a2a565ffe0a2a86e395683f2d755cbdb804"), looks := false }, kinds := [], alts := [], laidByText := true, laidKinds := [.listed, .data, .data, .data], laidTests := true, laidLooks := .later }
def ParseOrderCardSaid : Prop := Claim7.holds Tryd.pinned (.plain (OpenSpec.ofChange parseOrderSpec)) parseOrderCard

/-- THE TIED CARD OF 'sibyllaw4.ParseDeep'. -/
def parseDeepCard : Claim7 := { stood := { row := parseDeepRow, standIns := [], harness := (true, "ca4b8b5bf78cd921b69573519ee39a2a565ffe0a2a86e395683f2d755cbdb804"), looks := false }, kinds := [], alts := [], laidByText := true, laidKinds := [.listed, .data, .data, .data], laidTests := true, laidLooks := .later }
def ParseDeepCardSaid : Prop := Claim7.holds Tryd.pinned (.plain (OpenSpec.ofChange parseDeepSpec)) parseDeepCard

/-- THE TIED CARD OF 'sibyllaw4.ParseOdd'. -/
def parseOddCard : Claim7 := { stood := { row := parseOddRow, standIns := [], harness := (true, "ca4b8b5bf78cd921b69573519ee39a2a565ffe0a2a86e395683f2d755cbdb804"), looks := false }, kinds := [], alts := [], laidByText := true, laidKinds := [.listed, .data, .data, .data], laidTests := true, laidLooks := .later }
def ParseOddCardSaid : Prop := Claim7.holds Tryd.pinned (.plain (OpenSpec.ofChange parseOddSpec)) parseOddCard

/-- THE SECOND FORM's CARD OF 'sibyllaw3.TreeProgs'. -/
def treeProgsUptoCard : Claim7 := { stood := { row := treeProgsUptoRow, standIns := [], harness := (true, "ca4b8b5bf78cd921b69573519ee39a2a565ffe0a2a86e395683f2d755cbdb804"), looks := false }, kinds := [], alts := [], laidByText := true, laidKinds := [.data, .listed, .data, .data, .pinned], laidTests := true, laidLooks := .later }
def TreeProgsUptoCardSaid : Prop := Claim7.holds Tryd.pinned (.plain (OpenSpec.upto treeProgsSpec)) treeProgsUptoCard

/-- THE SECOND FORM's CARD OF 'sibyllaw4.ParseOrder'. -/
def parseOrderUptoCard : Claim7 := { stood := { row := parseOrderUptoRow, standIns := [], harness := (true, "ca4b8b5bf78cd921b69573519ee39a2a565ffe0a2a86e395683f2d755cbdb804"), looks := false }, kinds := [], alts := [], laidByText := true, laidKinds := [.listed, .data, .data, .data], laidTests := true, laidLooks := .later }
def ParseOrderUptoCardSaid : Prop := Claim7.holds Tryd.pinned (.plain (OpenSpec.upto parseOrderSpec)) parseOrderUptoCard

/-- THE SECOND FORM's CARD OF 'sibyllaw4.ParseDeep'. -/
def parseDeepUptoCard : Claim7 := { stood := { row := parseDeepUptoRow, standIns := [], harness := (true, "ca4b8b5bf78cd921b69573519ee39a2a565ffe0a2a86e395683f2d755cbdb804"), looks := false }, kinds := [], alts := [], laidByText := true, laidKinds := [.listed, .data, .data, .data], laidTests := true, laidLooks := .later }
def ParseDeepUptoCardSaid : Prop := Claim7.holds Tryd.pinned (.plain (OpenSpec.upto parseDeepSpec)) parseDeepUptoCard

/-- THE SECOND FORM's CARD OF 'sibyllaw4.ParseOdd'. -/
def parseOddUptoCard : Claim7 := { stood := { row := parseOddUptoRow, standIns := [], harness := (true, "ca4b8b5bf78cd921b69573519ee39a2a565ffe0a2a86e395683f2d755cbdb804"), looks := false }, kinds := [], alts := [], laidByText := true, laidKinds := [.listed, .data, .data, .data], laidTests := true, laidLooks := .later }
def ParseOddUptoCardSaid : Prop := Claim7.holds Tryd.pinned (.plain (OpenSpec.upto parseOddSpec)) parseOddUptoCard
end Rows
end Go.Proofs.YtmmicnjiikiklaaDoor
