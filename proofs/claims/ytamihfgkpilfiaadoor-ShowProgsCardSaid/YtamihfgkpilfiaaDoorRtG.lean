/- The reference of show: every formula is its text. -/
import Derived.Test.YtamihfgkpilfiaaDoorRtE
import Derived.Test.YtamihfgkpilfiaaDoorRtF
import Derived.Test.YtamihfgkpilfiaaDoorLexA
import Derived.Test.YtamihfgkpilfiaaDoorRows
import Derived.WalkKit
import Derived.WalkLawsBesides
import Derived.WalkSpells
import Derived.ProofKit
import Derived.Outline
import Derived.Deep.QuietTactic
import Derived.BigQuiet
import Derived.Deep.Light
import Derived.Deep.CutBlock
import Derived.Deep.DeepCutAuto
import Derived.Deep.DeepFit
import Derived.Deep.LoopGhost
import Derived.Lib.Hide
import Derived.Lib.OthersKept
import Derived.IntWalk
import Derived.StillTailTactics
namespace Go.Proofs.YtamihfgkpilfiaaDoor
open Go.RowKit
theorem rform_any (T : Nd) : RFmC T := by
  refine Nd.all_of (P := RFmC) ?_ T
  intro T hk hoo w hT hlen
  cases okF_view T hoo with
  | lit op pos a cap ho =>
    have ho2 := ho
    unfold opF0 at ho2
    simp only [Bool.or_eq_true, beq_iff_eq] at ho2
    have e : (Nd.mk op ⟨#[]⟩ 0 pos a cap .nil).fx = op.data.toList := by show fTxt op _ _ _ = _; unfold fTxt; rw [if_pos ho]
    rw [e, ← mkS_eq rfl]
    rcases ho2 with ho2 | ho2
    · obtain rfl := ba_of (show (op.toList == [116, 114, 117, 101]) = true by simp [ho2])
      exact rform_true pos a cap w
    · obtain rfl := ba_of (show (op.toList == [102, 97, 108, 115, 101]) = true by simp [ho2])
      exact rform_false pos a cap w
  | not pos a cap x hx =>
    exact rform_not pos a cap x hk.1 hx _ w hT (fx_not _ _ _) hlen
  | two op pos a cap x y ho hx hy =>
    have hk1 : RFmC x := hk.1
    have hk2 : RFmC y := hk.2.1
    have ho2 := ho
    unfold opF2 at ho2
    simp only [Bool.or_eq_true, beq_iff_eq] at ho2
    rcases ho2 with ((ho2 | ho2) | ho2) | ho2
    · obtain rfl := ba_of (show (op.toList == [97, 110, 100]) = true by simp [ho2])
      exact rform_and pos a cap x y hk1 hk2 hx hy _ w hT (fx_two ho _ _ _) hlen
    · obtain rfl := ba_of (show (op.toList == [111, 114]) = true by simp [ho2])
      exact rform_or pos a cap x y hk1 hk2 hx hy _ w hT (fx_two ho _ _ _) hlen
    · obtain rfl := ba_of (show (op.toList == [105, 109, 112]) = true by simp [ho2])
      exact rform_imp pos a cap x y hk1 hk2 hx hy _ w hT (fx_two ho _ _ _) hlen
    · obtain rfl := ba_of (show (op.toList == [105, 102, 102]) = true by simp [ho2])
      exact rform_iff pos a cap x y hk1 hk2 hx hy _ w hT (fx_two ho _ _ _) hlen
  | quant op name n pos a cap x ho hn h0 h1 hx =>
    have hk1 : RFmC x := hk.1
    have ho2 := ho
    unfold opFq at ho2
    simp only [Bool.or_eq_true, beq_iff_eq] at ho2
    rcases ho2 with ho2 | ho2
    · obtain rfl := ba_of (show (op.toList == [101, 120]) = true by simp [ho2])
      exact rform_ex name n pos a cap x hk1 hx h0 (by omega) _ w hT (fx_q ho _ _ _) hlen
    · obtain rfl := ba_of (show (op.toList == [97, 108, 108]) = true by simp [ho2])
      exact rform_all name n pos a cap x hk1 hx h0 (by omega) _ w hT (fx_q ho _ _ _) hlen
  | is name pos a cap hn =>
    have e : (Nd.mk ⟨#[105, 115]⟩ name 0 pos a cap .nil).fx = name.data.toList := fx_is _ _ _
    rw [e, ← mkS_eq rfl]
    exact rform_is name pos a cap w
  | rel op pos a cap x y ho hx hy =>
    have ho2 := ho
    unfold opFr at ho2
    simp only [Bool.or_eq_true, beq_iff_eq] at ho2
    rcases ho2 with (((((ho2 | ho2) | ho2) | ho2) | ho2) | ho2) | ho2
    · obtain rfl := ba_of (show (op.toList == [101, 113]) = true by simp [ho2])
      exact rform_eq pos a cap x y (rterm_any x) (rterm_any y) hx hy _ w hT (fx_rel ho _ _ _) hlen
    · obtain rfl := ba_of (show (op.toList == [110, 101]) = true by simp [ho2])
      exact rform_ne pos a cap x y (rterm_any x) (rterm_any y) hx hy _ w hT (fx_rel ho _ _ _) hlen
    · obtain rfl := ba_of (show (op.toList == [108, 116]) = true by simp [ho2])
      exact rform_lt pos a cap x y (rterm_any x) (rterm_any y) hx hy _ w hT (fx_rel ho _ _ _) hlen
    · obtain rfl := ba_of (show (op.toList == [108, 101]) = true by simp [ho2])
      exact rform_le pos a cap x y (rterm_any x) (rterm_any y) hx hy _ w hT (fx_rel ho _ _ _) hlen
    · obtain rfl := ba_of (show (op.toList == [105, 110]) = true by simp [ho2])
      exact rform_in pos a cap x y (rterm_any x) (rterm_any y) hx hy _ w hT (fx_rel ho _ _ _) hlen
    · obtain rfl := ba_of (show (op.toList == [110, 111, 116, 105, 110]) = true by simp [ho2])
      exact rform_notin pos a cap x y (rterm_any x) (rterm_any y) hx hy _ w hT (fx_rel ho _ _ _) hlen
    · obtain rfl := ba_of (show (op.toList == [115, 117, 98]) = true by simp [ho2])
      exact rform_sub pos a cap x y (rterm_any x) (rterm_any y) hx hy _ w hT (fx_rel ho _ _ _) hlen
  | call name pos a cap kids hn hl hks =>
    exact rform_call name pos a cap kids _ w hT hks (fx_call _ _ _) hlen
end Go.Proofs.YtamihfgkpilfiaaDoor
