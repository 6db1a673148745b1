/- The reference of show: every term is its text. -/
import Derived.Test.YtamihfgkpilfiaaDoorRtC
import Derived.Test.YtamihfgkpilfiaaDoorLexA
import Derived.Test.YtamihfgkpilfiaaDoorRows
import Derived.WalkKit
import Derived.WalkLawsBesides
import Derived.WalkSpells
import Derived.ProofKit
import Derived.Outline
import Derived.Deep.QuietTactic
import Derived.BigQuiet
import Derived.Deep.Light
import Derived.Deep.CutBlock
import Derived.Deep.DeepCutAuto
import Derived.Deep.DeepFit
import Derived.Deep.LoopGhost
import Derived.Lib.Hide
import Derived.Lib.OthersKept
import Derived.IntWalk
import Derived.StillTailTactics
namespace Go.Proofs.YtamihfgkpilfiaaDoor
open Go.RowKit
theorem rterm_any (T : Nd) : RTmC T := by
  refine Nd.all_of (P := RTmC) ?_ T
  intro T hk ho w hT hlen
  cases okT_view T ho with
  | var name pos a cap hn =>
    have e : (Nd.mk ⟨#[118, 97, 114]⟩ name 0 pos a cap .nil).tx = name.data.toList := tx_var _ _ _
    rw [e, ← mkS_eq rfl]
    exact rterm_var name pos a cap w
  | num n pos a cap h0 h1 =>
    have e : (Nd.mk ⟨#[110, 117, 109]⟩ ⟨#[]⟩ n pos a cap .nil).tx = dgs n := tx_num _ _ _
    rw [e]
    exact rterm_num n pos a cap w h0 h1
  | plus n pos a cap name pos' a' cap' h0 h1 hn =>
    refine rterm_plus n pos a cap ⟨⟨#[118, 97, 114]⟩, name, 0, pos', a', cap', .nil⟩ hk.1 ?_ (by omega) h1 _ w hT (tx_plus _ _ _) hlen
    unfold Nd.okT stepT fitB
    simp [Lib.toList_data, hn, Fo.len]
  | set pos a cap kids hl hkn =>
    exact rterm_set pos a cap kids _ w hT hk (okN_T hkn) (tx_set _ _ _) hlen
  | join op pos a cap x y hj hx hy hz =>
    have hk1 : RTmC x := hk.1
    have hk2 : RTmC y := hk.2.1
    have hj2 := hj
    unfold isJoin at hj2
    simp only [Bool.or_eq_true, beq_iff_eq] at hj2
    rcases hj2 with (hj2 | hj2) | hj2
    · obtain rfl := ba_of (show (op.toList == [117, 110, 105, 111, 110]) = true by simp [hj2])
      exact rterm_union pos a cap x y hk1 hk2 hx hy _ w hT (tx_join hj _ _ _) hlen
    · obtain rfl := ba_of (show (op.toList == [105, 110, 116, 101, 114]) = true by simp [hj2])
      exact rterm_inter pos a cap x y hk1 hk2 hx hy _ w hT (tx_join hj _ _ _) hlen
    · obtain rfl := ba_of (show (op.toList == [109, 105, 110, 117, 115]) = true by simp [hj2])
      exact rterm_minus pos a cap x y hk1 hk2 hx hy _ w hT (tx_join hj _ _ _) hlen
theorem rsgn_mk (op : ByteArray) (h : opF2 op = true ∨ opFr op = true) (w : World) : Calls Tryd.prog 29 #[.string op] w fun e w' => e = .returned (.string (mkS (opSign op))) ∧ Below w.heap.size w w' := rsgn_any op h w
end Go.Proofs.YtamihfgkpilfiaaDoor
