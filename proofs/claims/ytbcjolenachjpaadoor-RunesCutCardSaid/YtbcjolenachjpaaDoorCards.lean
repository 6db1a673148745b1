/-
  DERIVED. GIVEN WITH THE SEED: THE CARDS: each row of YtbcjolenachjpaaDoorRows.lean that lists a variable, with what it lists TIED to the program's text (the seventh form; the later family's looks); each row that meets fmt, with fmt's text TOLD by the authors' own Lean function (tested against real Go, not proved from fmt's source: count such statements apart). THE CARD IS WHAT COUNTS. Prove the row's statement (the work); the ties are given (YtbcjolenachjpaaDoorTie.lean); close each card by the builder's one call (the guide's Derived/Test/ToyasCard.lean, 'card_holds'). Laid BY PROGRAM, IN A SANDBOX (cutbox-door.mjs). By AI agents, Wed Nov 11 2026. No macro, syntax, notation, axiom, sorry.
-/
import Derived.Test.YtbcjolenachjpaaDoorRows
import GoSem.ClaimSeven
namespace Go.Proofs.YtbcjolenachjpaaDoor
namespace Rows

/-- THE TIED CARD OF 'sibyllaw1.RunesEach'. -/
def runesEachCard : Claim7 := { stood := { row := runesEachRow, standIns := [], harness := (true, "d8532a7cc65e4b9202427d1d9cc9b11a6ad3f0604f176caa3d4cb46fd582916d"), looks := false }, kinds := [], alts := [], laidByText := true, laidKinds := [.data, .pinned], laidTests := true, laidLooks := .later }
def RunesEachCardSaid : Prop := Claim7.holds Tryd.pinned (.plain (OpenSpec.ofChange runesEachSpec)) runesEachCard

/-- THE TIED CARD OF 'sibyllaw1.RunesCut'. -/
def runesCutCard : Claim7 := { stood := { row := runesCutRow, standIns := [], harness := (true, "d8532a7cc65e4b9202427d1d9cc9b11a6ad3f0604f176caa3d4cb46fd582916d"), looks := false }, kinds := [], alts := [], laidByText := true, laidKinds := [.data, .pinned], laidTests := true, laidLooks := .later }
def RunesCutCardSaid : Prop := Claim7.holds Tryd.pinned (.plain (OpenSpec.ofChange runesCutSpec)) runesCutCard

/-- THE SECOND FORM's CARD OF 'sibyllaw1.RunesEach'. -/
def runesEachUptoCard : Claim7 := { stood := { row := runesEachUptoRow, standIns := [], harness := (true, "d8532a7cc65e4b9202427d1d9cc9b11a6ad3f0604f176caa3d4cb46fd582916d"), looks := false }, kinds := [], alts := [], laidByText := true, laidKinds := [.data, .pinned], laidTests := true, laidLooks := .later }
def RunesEachUptoCardSaid : Prop := Claim7.holds Tryd.pinned (.plain (OpenSpec.upto runesEachSpec)) runesEachUptoCard

/-- THE SECOND FORM's CARD OF 'sibyllaw1.RunesCut'. -/
def runesCutUptoCard : Claim7 := { stood := { row := runesCutUptoRow, standIns := [], harness := (true, "d8532a7cc65e4b9202427d1d9cc9b11a6ad3f0604f176caa3d4cb46fd582916d"), looks := false }, kinds := [], alts := [], laidByText := true, laidKinds := [.data, .pinned], laidTests := true, laidLooks := .later }
def RunesCutUptoCardSaid : Prop := Claim7.holds Tryd.pinned (.plain (OpenSpec.upto runesCutSpec)) runesCutUptoCard
end Rows
end Go.Proofs.YtbcjolenachjpaaDoor
