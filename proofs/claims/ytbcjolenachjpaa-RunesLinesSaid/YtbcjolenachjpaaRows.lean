/-
  No cell of these rows narrows 'for every input' (looked for: loops, veiled, ifaces, maps, wideKeys, modest, calm, conditions, laid).
  DERIVED. THE GIVEN ROWS OF THIS SEAT. 3 by the template 'for every input the law returns true; each argument reads behind the call as it read before'; 0 by the template 'total and deterministic' (their statements: YtbcjolenachjpaaTotals.lean).
  GIVEN WITH THE SEED: the statements are not yours to turn. If you find one false, say at which input.
  Laid BY PROGRAM, IN A SANDBOX (cutbox-rows.mjs): the forced cells as the released guide's own fill.sh prints them over the translation 21f7aa5f782066e1… (all of the seat's roots in one cut). By AI agents, Wed Nov 11 2026. No macro, syntax, notation, axiom, sorry.
-/
import Derived.Test.YtbcjolenachjpaaChecked
import GoSem.Claim
import GoSem.ClaimJoined
import GoSem.ClaimMapViews
import Derived.JoinedTies
import Derived.KernelRfl
namespace Go.Proofs.Ytbcjolenachjpaa
/- THE CELL 'sum', in the pinned program and in every row, IS THE sha256 OF THE DUMP (.gsa) THAT YtbcjolenachjpaaProg.lean LOADS. Nothing in Lean hashes anything: it is a label: what it is worth is what the hold of that sum in a sandbox is worth. -/
noncomputable def Try.pinned : Pinned := { name := "ytbcjolenachjpaa", sum := "21f7aa5f782066e11734eae379c228b21a7908a7af51d1397e88a619413094a3", checked := Try.checked }
namespace Rows
def none {H : Type} : Left H := { results := [], args := [] }

/-- 'sibyllaw1.RunesClass': WHATEVER THE INPUT: true; the input reads as it did. -/
def runesClassSpec : ChangeSpec := { name := "runesClass", fn := fun _ => fun
  | [d] => { results := [.lit (.bool true)], args := [d] }
  | _ => none }
def runesClassRow : OpenClaim := { program := "ytbcjolenachjpaa", sum := "21f7aa5f782066e11734eae379c228b21a7908a7af51d1397e88a619413094a3", func := "sibyl/sibyllaw1.RunesClass", spec := "runesClass", apart := false }
def RunesClassSaid : Prop := runesClassRow.holds Try.pinned (OpenSpec.ofChange runesClassSpec)

/-- ITS FALSE NEIGHBOUR: 'it returns false'. Refute it at one input. -/
def runesClassWrong : ChangeSpec := { name := "runesClass", fn := fun _ => fun
  | [d] => { results := [.lit (.bool false)], args := [d] }
  | _ => none }
def RunesClassWrongFalsely : Prop := runesClassRow.holds Try.pinned (OpenSpec.ofChange runesClassWrong)

/-- 'sibyllaw1.RunesPlace': WHATEVER THE INPUT: true; the input reads as it did. -/
def runesPlaceSpec : ChangeSpec := { name := "runesPlace", fn := fun _ => fun
  | [d1, d2] => { results := [.lit (.bool true)], args := [d1, d2] }
  | _ => none }
def runesPlaceRow : OpenClaim := { program := "ytbcjolenachjpaa", sum := "21f7aa5f782066e11734eae379c228b21a7908a7af51d1397e88a619413094a3", func := "sibyl/sibyllaw1.RunesPlace", spec := "runesPlace", apart := false }
def RunesPlaceSaid : Prop := runesPlaceRow.holds Try.pinned (OpenSpec.ofChange runesPlaceSpec)

/-- ITS FALSE NEIGHBOUR: 'it returns false'. Refute it at one input. -/
def runesPlaceWrong : ChangeSpec := { name := "runesPlace", fn := fun _ => fun
  | [d1, d2] => { results := [.lit (.bool false)], args := [d1, d2] }
  | _ => none }
def RunesPlaceWrongFalsely : Prop := runesPlaceRow.holds Try.pinned (OpenSpec.ofChange runesPlaceWrong)

/-- 'sibyllaw1.RunesLines': WHATEVER THE INPUT: true; the input reads as it did. -/
def runesLinesSpec : ChangeSpec := { name := "runesLines", fn := fun _ => fun
  | [d1, d2] => { results := [.lit (.bool true)], args := [d1, d2] }
  | _ => none }
def runesLinesRow : OpenClaim := { program := "ytbcjolenachjpaa", sum := "21f7aa5f782066e11734eae379c228b21a7908a7af51d1397e88a619413094a3", func := "sibyl/sibyllaw1.RunesLines", spec := "runesLines", apart := false }
def RunesLinesSaid : Prop := runesLinesRow.holds Try.pinned (OpenSpec.ofChange runesLinesSpec)

/-- ITS FALSE NEIGHBOUR: 'it returns false'. Refute it at one input. -/
def runesLinesWrong : ChangeSpec := { name := "runesLines", fn := fun _ => fun
  | [d1, d2] => { results := [.lit (.bool false)], args := [d1, d2] }
  | _ => none }
def RunesLinesWrongFalsely : Prop := runesLinesRow.holds Try.pinned (OpenSpec.ofChange runesLinesWrong)

/- THE SECOND FORM. 'bulk': how many values and letters a reading holds, each counted each time it is reached (what is shared counts as often as it is met; a slice's spare places count too). A statement '..UptoSaid' is the law's where the arguments, and the package variables that the reading takes, are together of bulk at most 1048576: NARROWER than '..Said'. Prove '..Said' where nothing that the law and all that it calls make is longer than what came in: it says more and counts as full. Else prove '..UptoSaid'. A law counts once. -/
mutual
def uptoBulk {H : Type} : DataW H → Nat
  | .lit (.string bytes) => bytes.length + 1
  | .lit _ => 1
  | .nil => 1
  | .ptr d => uptoBulk d + 1
  | .slice elems spare => uptoBulkAll elems + uptoBulkAll spare + 1
  | .agg parts => uptoBulkAll parts + 1
  | .iface _ d => uptoBulk d + 1
  | .map entries => uptoBulkEntries entries + 1
  | .held _ => 1
def uptoBulkAll {H : Type} : List (DataW H) → Nat
  | [] => 0
  | d :: r => uptoBulk d + uptoBulkAll r
def uptoBulkEntries {H : Type} : List (Lit × DataW H) → Nat
  | [] => 0
  | x :: r => uptoBulkEntry x + uptoBulkEntries r
def uptoBulkEntry {H : Type} : Lit × DataW H → Nat
  | (.string bytes, d) => bytes.length + uptoBulk d + 1
  | (_, d) => uptoBulk d + 1
 end
def uptoSmall : (H : Type) → List (DataW H) → Bool := fun _ ds => decide (uptoBulkAll ds ≤ 1048576)
def OpenSpec.upto (s : _root_.Go.ChangeSpec) : _root_.Go.OpenSpec := { _root_.Go.OpenSpec.ofChange s with cond := some uptoSmall }

/-- 'sibyllaw1.RunesClass', WHERE WHAT IT READS IS OF BULK AT MOST 1048576: true; the input reads as it did. -/
def runesClassUptoRow : OpenClaim := { program := "ytbcjolenachjpaa", sum := "21f7aa5f782066e11734eae379c228b21a7908a7af51d1397e88a619413094a3", func := "sibyl/sibyllaw1.RunesClass", spec := "runesClass", apart := false, narrowed := true }
def RunesClassUptoSaid : Prop := runesClassUptoRow.holds Try.pinned (OpenSpec.upto runesClassSpec)

/-- 'sibyllaw1.RunesPlace', WHERE WHAT IT READS IS OF BULK AT MOST 1048576: true; the input reads as it did. -/
def runesPlaceUptoRow : OpenClaim := { program := "ytbcjolenachjpaa", sum := "21f7aa5f782066e11734eae379c228b21a7908a7af51d1397e88a619413094a3", func := "sibyl/sibyllaw1.RunesPlace", spec := "runesPlace", apart := false, narrowed := true }
def RunesPlaceUptoSaid : Prop := runesPlaceUptoRow.holds Try.pinned (OpenSpec.upto runesPlaceSpec)

/-- 'sibyllaw1.RunesLines', WHERE WHAT IT READS IS OF BULK AT MOST 1048576: true; the input reads as it did. -/
def runesLinesUptoRow : OpenClaim := { program := "ytbcjolenachjpaa", sum := "21f7aa5f782066e11734eae379c228b21a7908a7af51d1397e88a619413094a3", func := "sibyl/sibyllaw1.RunesLines", spec := "runesLines", apart := false, narrowed := true }
def RunesLinesUptoSaid : Prop := runesLinesUptoRow.holds Try.pinned (OpenSpec.upto runesLinesSpec)

end Rows
end Go.Proofs.Ytbcjolenachjpaa
