/- Deep texts, each checked by the kernel. -/
import Derived.Test.YtmmicnjiikiklaaDoorPDeep
import Derived.Test.YtmmicnjiikiklaaDoorLexA
import Derived.Test.YtmmicnjiikiklaaDoorRows
import Derived.WalkKit
import Derived.WalkLawsBesides
import Derived.WalkSpells
import Derived.ProofKit
import Derived.Outline
import Derived.Deep.QuietTactic
import Derived.BigQuiet
import Derived.Deep.Light
import Derived.Deep.CutBlock
import Derived.Deep.DeepCutAuto
import Derived.Deep.DeepFit
import Derived.Deep.LoopGhost
import Derived.Lib.Hide
import Derived.Lib.OthersKept
import Derived.IntWalk
import Derived.StillTailTactics
namespace Go.Proofs.YtmmicnjiikiklaaDoor
open Go.RowKit
/-! The deep texts' answers, by the kernel. -/
theorem chk0 : ((List.range' 0 41).all fun n => chkD n 0) = true := by decide +kernel
theorem chk1 : ((List.range' 0 41).all fun n => chkD n 1) = true := by decide +kernel
theorem chk2_0 : ((List.range' 0 20).all fun n => chkD n 2) = true := by decide +kernel
theorem chk2_1 : ((List.range' 20 8).all fun n => chkD n 2) = true := by decide +kernel
theorem chk2_2 : ((List.range' 28 5).all fun n => chkD n 2) = true := by decide +kernel
theorem chk2_3 : ((List.range' 33 4).all fun n => chkD n 2) = true := by decide +kernel
theorem chk2_4 : ((List.range' 37 4).all fun n => chkD n 2) = true := by decide +kernel
theorem chkD_all (n way : Nat) (hn : n ≤ 40) (hw : way ≤ 2) : chkD n way = true := by
  have hm : ∀ a k, a ≤ n → n < a + k → n ∈ List.range' a k := fun a k h1 h2 => List.mem_range'_1.2 ⟨h1, h2⟩
  rcases (show way = 0 ∨ way = 1 ∨ way = 2 by omega) with rfl | rfl | rfl
  · exact List.all_eq_true.1 chk0 n (hm 0 41 (by omega) (by omega))
  · exact List.all_eq_true.1 chk1 n (hm 0 41 (by omega) (by omega))
  · rcases (show (0 ≤ n ∧ n < 20) ∨ (20 ≤ n ∧ n < 28) ∨ (28 ≤ n ∧ n < 33) ∨ (33 ≤ n ∧ n < 37) ∨ (37 ≤ n ∧ n < 41) by omega) with h | h | h | h | h
    · exact List.all_eq_true.1 chk2_0 n (hm 0 20 h.1 h.2)
    · exact List.all_eq_true.1 chk2_1 n (hm 20 8 h.1 h.2)
    · exact List.all_eq_true.1 chk2_2 n (hm 28 5 h.1 h.2)
    · exact List.all_eq_true.1 chk2_3 n (hm 33 4 h.1 h.2)
    · exact List.all_eq_true.1 chk2_4 n (hm 37 4 h.1 h.2)
theorem chkD_say (n way : Nat) (hn : n ≤ 40) (hw : way ≤ 2) : ∃ l a, toks (deepT n way) = (l, a, 0) ∧ headOk l = true ∧ 7 + 20 * l.length ≤ 4000 ∧ outB (pMain 4000 l) = if n < 30 then none else some ((if way == 2 then 6 else 1) * 30, 4) := by
  have h := chkD_all n way hn hw
  unfold chkD at h
  exact chk_of h
theorem repB_size (p t : ByteArray) : ∀ n, (repB p t n).size = t.size + n * p.size := by
  intro n
  induction n with
  | zero => simp [repB]
  | succ n ih => rw [repB, cat_size, ih, Nat.succ_mul]; omega
end Go.Proofs.YtmmicnjiikiklaaDoor
