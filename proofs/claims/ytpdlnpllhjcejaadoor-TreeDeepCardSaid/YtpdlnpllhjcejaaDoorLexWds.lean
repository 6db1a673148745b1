/- What lex.Words answers: the words of the language, in new memory. Condition: the table of the spaces of the first 128 bytes stands as laid. -/
import Derived.Test.YtpdlnpllhjcejaaDoorLexSmall
import Derived.Test.YtpdlnpllhjcejaaDoorShelf
import Derived.Test.YtpdlnpllhjcejaaDoorRunesEach
import Derived.Test.YtpdlnpllhjcejaaDoorLexPure2
import Derived.Test.YtpdlnpllhjcejaaDoorRows
import Derived.WalkKit
import Derived.WalkLawsBesides
import Derived.WalkSpells
import Derived.ProofKit
import Derived.Outline
import Derived.Deep.QuietTactic
import Derived.BigQuiet
import Derived.Deep.Light
import Derived.Deep.CutBlock
import Derived.Deep.DeepCutAuto
import Derived.Deep.DeepFit
import Derived.Deep.LoopGhost
import Derived.Lib.Hide
import Derived.Lib.OthersKept
import Derived.IntWalk
namespace Go.Proofs.YtpdlnpllhjcejaaDoor
open Go.RowKit
theorem wrds_fields : Lib.fields ({ data := #[116, 114, 117, 101, 32, 102, 97, 108, 115, 101, 32, 101, 120, 48, 32, 101, 120, 49, 32, 101, 120, 50, 32, 97, 108, 108, 48, 32, 97, 108, 108, 49, 32, 97, 108, 108, 50, 32, 118, 97, 114, 48, 32, 118, 97, 114, 49, 32, 118, 97, 114, 50, 32, 112, 114, 101, 100, 32, 105, 110, 32, 110, 111, 116, 105, 110, 32, 115, 117, 98, 32, 117, 110, 105, 111, 110, 32, 105, 110, 116, 101, 114] } : ByteArray).data.toList = wrds.map fun x => x.data.toList := by decide +kernel
/-- The slice of the words. -/
def wrdsV (b : Nat) : Value := .slice (some ⟨b, 0, none⟩) 17 17
def wrdsCells : Array Value := (wrds.map Value.string).toArray
theorem var_below {w w' : World} {name : String} {cs : Array Value} (h : w.var? Tryd.prog name = some cs) (hb : Below w.heap.size w w') : w'.var? Tryd.prog name = some cs := by
  unfold World.var? at h ⊢
  rcases hg : Tryd.prog.globalNamed name with _ | g
  · rw [hg] at h; cases h
  · rw [hg] at h
    simp only [Option.bind_some] at h ⊢
    rcases ho : w.heap[g]? with _ | o
    · rw [ho] at h; cases h
    · have hlt : g < w.heap.size := (Array.getElem?_eq_some_iff.1 ho).1
      rw [hb.block g hlt]
      exact h
theorem tab_below {w w' : World} (h : Lib.TabIs Tryd.prog w "strings.asciiSpace" .u8 Lib.asciiSpaceTab) (hb : Below w.heap.size w w') : Lib.TabIs Tryd.prog w' "strings.asciiSpace" .u8 Lib.asciiSpaceTab := var_below h hb
/-- The two tables that lex leans on. -/
structure LTabs (w : World) : Prop where
  sp : Lib.TabIs Tryd.prog w "strings.asciiSpace" .u8 Lib.asciiSpaceTab
  sg : w.var? Tryd.prog "sibyl/lex.signs" = some (sigs.map Value.string).toArray
theorem LTabs.below {w w' : World} (h : LTabs w) (hb : Below w.heap.size w w') : LTabs w' := ⟨tab_below h.sp hb, var_below h.sg hb⟩
theorem LTabs.at {w : World} (h : LTabs w) : ∃ t f, w.heap[0]? = some (.cells (sigs.map Value.string).toArray t f) := by
  have hg : Tryd.prog.globalNamed "sibyl/lex.signs" = some 0 := by kernel_rfl
  have := h.sg
  unfold World.var? at this
  rw [hg] at this
  simp only [Option.bind_some] at this
  split at this
  · rename_i cs t f he
    obtain rfl := Option.some.inj this
    exact ⟨t, f, he⟩
  · cases this

set_option maxRecDepth 100000 in
set_option maxHeartbeats 1000000 in
theorem words_any (w : World) (hT : Lib.TabIs Tryd.prog w "strings.asciiSpace" .u8 Lib.asciiSpaceTab) :
    Calls Tryd.prog 86 #[] w fun e w' => e = .returned (wrdsV w.heap.size) ∧ w' = w.alloc (.cells wrdsCells 9) := by
  have hf := wrds_fields
  have c := Tryd.strings_Fields ⟨#[116, 114, 117, 101, 32, 102, 97, 108, 115, 101, 32, 101, 120, 48, 32, 101, 120, 49, 32, 101, 120, 50, 32, 97, 108, 108, 48, 32, 97, 108, 108, 49, 32, 97, 108, 108, 50, 32, 118, 97, 114, 48, 32, 118, 97, 114, 49, 32, 118, 97, 114, 50, 32, 112, 114, 101, 100, 32, 105, 110, 32, 110, 111, 116, 105, 110, 32, 115, 117, 98, 32, 117, 110, 105, 111, 110, 32, 105, 110, 116, 101, 114]⟩ w (by decide) (by
    intro j b hb
    have : ∀ b ∈ (#[116, 114, 117, 101, 32, 102, 97, 108, 115, 101, 32, 101, 120, 48, 32, 101, 120, 49, 32, 101, 120, 50, 32, 97, 108, 108, 48, 32, 97, 108, 108, 49, 32, 97, 108, 108, 50, 32, 118, 97, 114, 48, 32, 118, 97, 114, 49, 32, 118, 97, 114, 50, 32, 112, 114, 101, 100, 32, 105, 110, 32, 110, 111, 116, 105, 110, 32, 115, 117, 98, 32, 117, 110, 105, 111, 110, 32, 105, 110, 116, 101, 114] : Array UInt8).toList, b.toNat < 128 := by decide +kernel
    exact this b (List.mem_of_getElem? hb)) hT
  rw [hf] at c
  have e1 : ((wrds.map fun x => x.data.toList).map fun l => Value.string ⟨l.toArray⟩).toArray = wrdsCells := by
    simp [wrdsCells, Function.comp_def]
  have e2 : (wrds.map fun x => x.data.toList).length = 17 := by rfl
  rw [e1, e2] at c
  clear hf e1 e2
  go_enter Tryd.func86, Tryd.ntmps86
  go_wp2_with fail
  refine c.mono ?_
  rintro e w1 ⟨rfl, rfl⟩
  go_wp2
  go_ret
  exact ⟨rfl, rfl⟩
end Go.Proofs.YtpdlnpllhjcejaaDoor
