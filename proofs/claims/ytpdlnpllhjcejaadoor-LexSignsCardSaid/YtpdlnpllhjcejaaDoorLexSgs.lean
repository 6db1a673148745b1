/- What two signs side by side are, with a blank between them. -/
import Derived.Test.YtpdlnpllhjcejaaDoorLexPure2
import Derived.Test.YtpdlnpllhjcejaaDoorLexPure2
import Derived.Test.YtpdlnpllhjcejaaDoorRows
import Derived.WalkKit
import Derived.WalkLawsBesides
import Derived.WalkSpells
import Derived.ProofKit
import Derived.Outline
import Derived.Deep.QuietTactic
import Derived.BigQuiet
import Derived.Deep.Light
import Derived.Deep.CutBlock
import Derived.Deep.DeepCutAuto
import Derived.Deep.DeepFit
import Derived.Deep.LoopGhost
import Derived.Lib.Hide
import Derived.Lib.OthersKept
import Derived.IntWalk
import Derived.StillTailTactics
namespace Go.Proofs.YtpdlnpllhjcejaaDoor
open Go.RowKit
def sgs : List ByteArray := [⟨#[60, 61, 62]⟩, ⟨#[61, 62]⟩, ⟨#[60, 61]⟩, ⟨#[126, 61]⟩, ⟨#[61]⟩, ⟨#[126]⟩, ⟨#[60]⟩, ⟨#[38]⟩, ⟨#[124]⟩, ⟨#[40]⟩, ⟨#[41]⟩, ⟨#[123]⟩, ⟨#[125]⟩, ⟨#[44]⟩, ⟨#[59]⟩, ⟨#[58]⟩, ⟨#[43]⟩, ⟨#[92]⟩, ⟨#[62]⟩]
def sgsCells : Array Value := (sgs.map Value.string).toArray
theorem sgs_cell {w : World} {B : Nat} (h : w.heap[B]? = some (.cells sgsCells 9)) (k : Nat) (hk : k < sgs.length) : w.cell? ⟨B, k, none⟩ = some (.string (sgs[k]'hk)) := by
  rw [cell_of_row w B k _ _ _ h]
  unfold sgsCells
  rw [List.getElem?_toArray, List.getElem?_map, List.getElem?_eq_getElem hk]
  rfl
theorem sgs_lit : (#[.string ⟨#[60, 61, 62]⟩, .string ⟨#[61, 62]⟩, .string ⟨#[60, 61]⟩, .string ⟨#[126, 61]⟩, .string ⟨#[61]⟩, .string ⟨#[126]⟩, .string ⟨#[60]⟩, .string ⟨#[38]⟩, .string ⟨#[124]⟩, .string ⟨#[40]⟩, .string ⟨#[41]⟩, .string ⟨#[123]⟩, .string ⟨#[125]⟩, .string ⟨#[44]⟩, .string ⟨#[59]⟩, .string ⟨#[58]⟩, .string ⟨#[43]⟩, .string ⟨#[92]⟩, .string ⟨#[62]⟩] : Array Value) = sgsCells := rfl
def isOdd (x : ByteArray) : Bool := x.data.toList == [62]
/-- The two signs, with a blank between them. -/
def twoChk (x y : ByteArray) : Bool :=
  let r := toks (x ++ ⟨#[32]⟩ ++ y)
  if isOdd x || isOdd y then decide (r.2.2 ≠ 0) else decide (r.2.2 = 0) && decide (r.1.length = 3)
theorem two_all : ∀ x ∈ sgs, x.size ≤ 3 ∧ ∀ y ∈ sgs, twoChk x y = true := by decide +kernel
theorem two_of (x y : ByteArray) (hx : x ∈ sgs) (hy : y ∈ sgs) (l : List Tok) (at' err : Int) (h : toks (x ++ ⟨#[32]⟩ ++ y) = (l, at', err)) : ((isOdd x || isOdd y) = true → ¬ err = 0) ∧ ((isOdd x || isOdd y) = false → err = 0 ∧ l.length = 3) := by
  have hc := (two_all x hx).2 y hy
  unfold twoChk at hc
  rw [h] at hc
  simp only [] at hc
  constructor
  · intro ho; rw [if_pos ho] at hc; simpa using hc
  · intro ho; rw [if_neg (by rw [ho]; decide)] at hc; simpa using hc
end Go.Proofs.YtpdlnpllhjcejaaDoor
