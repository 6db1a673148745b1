/- The reference: IsFormula, IsTerm of any node. -/
import Derived.Test.YtamihfgkpilfiaaDoorGRefBR
import Derived.Test.YtamihfgkpilfiaaDoorLexA
import Derived.Test.YtamihfgkpilfiaaDoorRows
import Derived.WalkKit
import Derived.WalkLawsBesides
import Derived.WalkSpells
import Derived.ProofKit
import Derived.Outline
import Derived.Deep.QuietTactic
import Derived.BigQuiet
import Derived.Deep.Light
import Derived.Deep.CutBlock
import Derived.Deep.DeepCutAuto
import Derived.Deep.DeepFit
import Derived.Deep.LoopGhost
import Derived.Lib.Hide
import Derived.Lib.OthersKept
import Derived.IntWalk
import Derived.StillTailTactics
namespace Go.Proofs.YtamihfgkpilfiaaDoor
open Go.RowKit
/-! sibylref3.IsFormula, IsTerm of any node. -/
set_option maxRecDepth 100000 in
set_option maxHeartbeats 8000000 in
theorem rIsF_any (T : Nd) (w : World) (hU : UT w) (hT : T.In w) (hsz : T.sized) : Calls Tryd.prog 8 #[T.val] w fun e w' => e = .returned (.bool ((decide (T.deep ≤ 30) && decide (T.size ≤ 2000)) && T.okF)) ∧ Below w.heap.size w w' := by
  have hf := fun W h1 h2 => rformulas_all T W h1 h2 hsz
  have hb := fun W h => small_any T W h
  obtain ⟨op, name, n, pos, a, cap, kids⟩ := T
  generalize (Nd.mk op name n pos a cap kids).okF = q at hf
  generalize (decide ((Nd.mk op name n pos a cap kids).deep ≤ 30) && decide ((Nd.mk op name n pos a cap kids).size ≤ 2000)) = sm at hb
  have HI := Lib.hid hT
  have HU := Lib.hid hU
  have HF := Lib.hid hf
  have HC := Lib.hid (hb (w.alloc (boxOf op name n pos a kids.len cap)) (hT.below (below_box _ _)))
  have HB := Lib.hid (new_at w (boxOf op name n pos a kids.len cap))
  have HZ := Lib.hid (lt_heap HB.out)
  have hc5 := cellsNode
  clear hf hb hT hU hsz
  rw [Nd.val_def]
  cases sm with
  | true =>
    go_enter Tryd.func8, Tryd.ntmps8
    go_wp2_with fail
    refine HC.out.mono ?_
    rintro e w2 ⟨rfl, hb2⟩
    have hbb := box_then hb2
    obtain ⟨b0, b1, b2, b3, b4⟩ := box_cells (show w2.heap[w.heap.size]? = _ from (hb2.block _ HZ.out).trans HB.out)
    have hcall := HF.out w2 (Utf8Tabs_below HU.out hbb) (HI.out.below hbb)
    rw [Nd.val_def] at hcall
    have HC2 := Lib.hid hcall
    clear hb2 HC hcall
    go_wp2_with fail
    refine HC2.out.mono ?_
    rintro e w3 ⟨rfl, hb3⟩
    have hb4 := hbb.trans (hb3.mono hbb.size)
    clear hb3 HC2
    go_wp2_with fail
    go_ret
    exact ⟨rfl, hb4⟩
  | false =>
    go_enter Tryd.func8, Tryd.ntmps8
    go_wp2_with fail
    refine HC.out.mono ?_
    rintro e w2 ⟨rfl, hb2⟩
    have hbb := box_then hb2
    clear hb2 HC
    go_wp2_with fail
    go_ret
    exact ⟨rfl, hbb⟩
set_option maxRecDepth 100000 in
set_option maxHeartbeats 8000000 in
theorem rIsT_any (T : Nd) (w : World) (hU : UT w) (hT : T.In w) (hsz : T.sized) : Calls Tryd.prog 9 #[T.val] w fun e w' => e = .returned (.bool ((decide (T.deep ≤ 30) && decide (T.size ≤ 2000)) && T.okT)) ∧ Below w.heap.size w w' := by
  have hf := fun W h1 h2 => rterms_all T W h1 h2 hsz
  have hb := fun W h => small_any T W h
  obtain ⟨op, name, n, pos, a, cap, kids⟩ := T
  generalize (Nd.mk op name n pos a cap kids).okT = q at hf
  generalize (decide ((Nd.mk op name n pos a cap kids).deep ≤ 30) && decide ((Nd.mk op name n pos a cap kids).size ≤ 2000)) = sm at hb
  have HI := Lib.hid hT
  have HU := Lib.hid hU
  have HF := Lib.hid hf
  have HC := Lib.hid (hb (w.alloc (boxOf op name n pos a kids.len cap)) (hT.below (below_box _ _)))
  have HB := Lib.hid (new_at w (boxOf op name n pos a kids.len cap))
  have HZ := Lib.hid (lt_heap HB.out)
  have hc5 := cellsNode
  clear hf hb hT hU hsz
  rw [Nd.val_def]
  cases sm with
  | true =>
    go_enter Tryd.func9, Tryd.ntmps9
    go_wp2_with fail
    refine HC.out.mono ?_
    rintro e w2 ⟨rfl, hb2⟩
    have hbb := box_then hb2
    obtain ⟨b0, b1, b2, b3, b4⟩ := box_cells (show w2.heap[w.heap.size]? = _ from (hb2.block _ HZ.out).trans HB.out)
    have hcall := HF.out w2 (Utf8Tabs_below HU.out hbb) (HI.out.below hbb)
    rw [Nd.val_def] at hcall
    have HC2 := Lib.hid hcall
    clear hb2 HC hcall
    go_wp2_with fail
    refine HC2.out.mono ?_
    rintro e w3 ⟨rfl, hb3⟩
    have hb4 := hbb.trans (hb3.mono hbb.size)
    clear hb3 HC2
    go_wp2_with fail
    go_ret
    exact ⟨rfl, hb4⟩
  | false =>
    go_enter Tryd.func9, Tryd.ntmps9
    go_wp2_with fail
    refine HC.out.mono ?_
    rintro e w2 ⟨rfl, hb2⟩
    have hbb := box_then hb2
    clear hb2 HC
    go_wp2_with fail
    go_ret
    exact ⟨rfl, hbb⟩
end Go.Proofs.YtamihfgkpilfiaaDoor
