/- What known of the laws of trees asks. -/
import Derived.Test.YtamihfgkpilfiaaDoorTrA
import Derived.Test.YtamihfgkpilfiaaDoorNodeR
import Derived.Test.YtamihfgkpilfiaaDoorLexA
import Derived.Test.YtamihfgkpilfiaaDoorRows
import Derived.WalkKit
import Derived.WalkLawsBesides
import Derived.WalkSpells
import Derived.ProofKit
import Derived.Outline
import Derived.Deep.QuietTactic
import Derived.BigQuiet
import Derived.Deep.Light
import Derived.Deep.CutBlock
import Derived.Deep.DeepCutAuto
import Derived.Deep.DeepFit
import Derived.Deep.LoopGhost
import Derived.Lib.Hide
import Derived.Lib.OthersKept
import Derived.IntWalk
import Derived.StillTailTactics
namespace Go.Proofs.YtamihfgkpilfiaaDoor
open Go.RowKit
set_option maxRecDepth 100000 in
set_option maxHeartbeats 4000000 in
theorem tsize_any (T : Nd) (w : World) (hT : T.In w) : Calls Tryd.prog 52 #[T.val] w fun e w' => e = .returned (.int .i64 (min (T.size : Int) 2001)) ∧ Below w.heap.size w w' := by
  obtain ⟨op, name, n, pos, a, cap, kids⟩ := T
  have hc := sizeUpTo_any ⟨op, name, n, pos, a, cap, kids⟩ 2001 (w.alloc (boxOf op name n pos a kids.len cap)) (by omega) (by omega) (hT.below (below_box _ _))
  have HC := Lib.hid hc
  have hc5 := cellsNode
  clear hc hT
  rw [Nd.val_def]
  go_enter Tryd.func52, Tryd.ntmps52
  go_wp2_with fail
  refine HC.out.mono ?_
  rintro e w2 ⟨rfl, hb2⟩
  go_wp2
  go_ret
  exact ⟨rfl, box_then hb2⟩
end Go.Proofs.YtamihfgkpilfiaaDoor
