/- tree.IsTerm; what is neither; known of the laws of trees. -/
import Derived.Test.YtpdlnpllhjcejaaDoorForm
import Derived.Test.YtpdlnpllhjcejaaDoorLexPure2
import Derived.Test.YtpdlnpllhjcejaaDoorRows
import Derived.WalkKit
import Derived.WalkLawsBesides
import Derived.WalkSpells
import Derived.ProofKit
import Derived.Outline
import Derived.Deep.QuietTactic
import Derived.BigQuiet
import Derived.Deep.Light
import Derived.Deep.CutBlock
import Derived.Deep.DeepCutAuto
import Derived.Deep.DeepFit
import Derived.Deep.LoopGhost
import Derived.Lib.Hide
import Derived.Lib.OthersKept
import Derived.IntWalk
import Derived.StillTailTactics
namespace Go.Proofs.YtpdlnpllhjcejaaDoor
open Go.RowKit
/-! tree.IsTerm; what is neither; the law's known. -/
set_option maxRecDepth 100000 in
set_option maxHeartbeats 4000000 in
/-- tree.IsTerm of a node of which tree.term's answer is known. -/
theorem isTerm_of (T : Nd) (b : Bool) (w : World) (hT : T.In w) (hs : T.size ≤ 2000) (hl : T.line) (hf : ∀ w : World, T.In w → Calls Tryd.prog 40 #[T.val] w fun e w' => e = .returned (.bool b) ∧ Below w.heap.size w w') :
    Calls Tryd.prog 17 #[T.val] w fun e w' => e = .returned (.bool (decide (T.deep ≤ 30) && b)) ∧ Below w.heap.size w w' := by
  obtain ⟨op, name, n, pos, a, cap, kids⟩ := T
  have hc1 := inBounds_any ⟨op, name, n, pos, a, cap, kids⟩ (w.alloc (boxOf op name n pos a kids.len cap)) (hT.below (below_box _ _)) hs
  have HC1 := Lib.hid hc1
  have HT := Lib.hid hT
  have HF := Lib.hid hf
  have HL := Lib.hid hl
  have HB := Lib.hid (new_at w (boxOf op name n pos a kids.len cap))
  have hc5 := cellsNode
  have HZ := Lib.hid (alloc_size w (boxOf op name n pos a kids.len cap))
  clear hc1 hT hs hl hf
  rw [Nd.val_def]
  generalize hdd : (Nd.mk op name n pos a cap kids).deep = dd
  have HDD := Lib.hid hdd
  clear hdd
  go_enter Tryd.func17, Tryd.ntmps17
  go_wp2_with fail
  refine HC1.out.mono ?_
  rintro e w2 ⟨⟨d, hd, rfl⟩, hb2⟩
  have hdv := hd.2.2.2 HL.out
  rw [HDD.out] at hdv
  have hblk : w2.heap[w.heap.size]? = some (boxOf op name n pos a kids.len cap) := by
    rw [hb2.block _ (by have := HZ.out; omega)]; exact HB.out
  obtain ⟨b0, b1, b2, b3, b4⟩ := box_cells hblk
  have hbb := box_then hb2
  have hc2 := HF.out w2 (HT.out.below hbb)
  rw [Nd.val_def] at hc2
  have HC2 := Lib.hid hc2
  clear hc2 hb2 hblk HC1 hd
  by_cases h30 : dd ≤ 30
  · have hd30 : d ≤ 30 := by omega
    have he : decide (dd ≤ 30) = true := by simpa using h30
    have HE := Lib.hid he
    clear hdv he h30
    go_wp2_with fail
    refine HC2.out.mono ?_
    rintro e w3 ⟨rfl, hb3⟩
    go_wp2
    go_ret
    exact ⟨by rw [HE.out]; rfl, hbb.trans (hb3.mono hbb.size)⟩
  · have hd30 : ¬ d ≤ 30 := by omega
    have he : decide (dd ≤ 30) = false := by simpa using h30
    have HE := Lib.hid he
    clear hdv he h30
    go_wp2_with fail
    go_ret
    exact ⟨by rw [HE.out]; rfl, hbb⟩

set_option maxRecDepth 100000 in
set_option maxHeartbeats 4000000 in
theorem joins_not (name : ByteArray) (n pos : Int) (a : Option Addr) (k cap : Nat) (w : World) : Calls Tryd.prog 76 #[.agg #[.string ⟨#[110, 111, 116]⟩, .string name, .int .i64 n, .int .i64 pos, .slice a k cap]] w fun e w' => e = .returned (.bool false) ∧ Below w.heap.size w w' := by
  have hc5 := cellsNode
  go_enter Tryd.func76, Tryd.ntmps76
  go_wp2
  go_ret
  exact ⟨rfl, below_box _ _⟩
set_option maxRecDepth 100000 in
set_option maxHeartbeats 4000000 in
theorem term_not (name : ByteArray) (n pos : Int) (a : Option Addr) (k cap : Nat) (w : World) : Calls Tryd.prog 40 #[.agg #[.string ⟨#[110, 111, 116]⟩, .string name, .int .i64 n, .int .i64 pos, .slice a k cap]] w fun e w' => e = .returned (.bool false) ∧ Below w.heap.size w w' := by
  have hc5 := cellsNode
  have HC := Lib.hid (joins_not name n pos a k cap (w.alloc (boxOf ⟨#[110, 111, 116]⟩ name n pos a k cap)))
  go_enter Tryd.func40, Tryd.ntmps40
  go_wp2_with fail
  refine HC.out.mono ?_
  rintro e w2 ⟨rfl, hb2⟩
  have hb3 := box_then hb2
  go_wp2
  go_ret
  exact ⟨rfl, hb3⟩
set_option maxRecDepth 100000 in
set_option maxHeartbeats 4000000 in
theorem formula_empty (name : ByteArray) (n pos : Int) (a : Option Addr) (k cap : Nat) (w : World) : Calls Tryd.prog 37 #[.agg #[.string ⟨#[]⟩, .string name, .int .i64 n, .int .i64 pos, .slice a k cap]] w fun e w' => e = .returned (.bool false) ∧ Below w.heap.size w w' := by
  have hc5 := cellsNode
  go_enter Tryd.func37, Tryd.ntmps37
  go_wp2_with fail
  go_ret
  exact ⟨rfl, below_box _ _⟩
end Go.Proofs.YtpdlnpllhjcejaaDoor
