/- What runes.Class answers: the class, by its ranges and signs; the world is left as it was. -/
import Derived.Test.YtpdlnpllhjcejaaDoorRunesPure
import Derived.Test.YtpdlnpllhjcejaaDoorRows
import Derived.WalkKit
import Derived.WalkLawsBesides
import Derived.WalkSpells
import Derived.ProofKit
import Derived.Outline
import Derived.Deep.QuietTactic
import Derived.BigQuiet
import Derived.Deep.Light
import Derived.Deep.CutBlock
import Derived.Deep.DeepCutAuto
import Derived.Deep.DeepFit
import Derived.Deep.LoopGhost
import Derived.Lib.Hide
import Derived.Lib.OthersKept
import Derived.IntWalk
namespace Go.Proofs.YtpdlnpllhjcejaaDoor
open Go.RowKit
set_option maxHeartbeats 1000000 in
theorem class_any (r : Int) (w : World) :
    Calls Tryd.prog 61 #[.int .i32 r] w fun e w' => e = .returned (.int .i64 (cls r)) ∧ w = w' := by
  go_enter Tryd.func61, Tryd.ntmps61
  go_wp2
  all_goals go_ret
  all_goals (refine ⟨ret_int ?_, rfl⟩; go_light)
  all_goals (try simp only [beq_iff_eq, beq_eq_false_iff_ne, ne_eq] at *)
  all_goals first | exact cls1 (by unfold isLet; omega) | exact cls2 (by omega) | exact cls3 (by omega) | exact cls4 (by unfold isSig; omega) | exact cls0 (by unfold isLet; omega) (by omega) (by omega) (by unfold isSig; omega)
end Go.Proofs.YtpdlnpllhjcejaaDoor
