/- How many tokens there are; the reference s Tokens with its answer given. -/
import Derived.Test.YtpdlnpllhjcejaaDoorLexKnown
import Derived.Test.YtpdlnpllhjcejaaDoorRefToks
import Derived.Test.YtpdlnpllhjcejaaDoorLexPure2
import Derived.Test.YtpdlnpllhjcejaaDoorRows
import Derived.WalkKit
import Derived.WalkLawsBesides
import Derived.WalkSpells
import Derived.ProofKit
import Derived.Outline
import Derived.Deep.QuietTactic
import Derived.BigQuiet
import Derived.Deep.Light
import Derived.Deep.CutBlock
import Derived.Deep.DeepCutAuto
import Derived.Deep.DeepFit
import Derived.Deep.LoopGhost
import Derived.Lib.Hide
import Derived.Lib.OthersKept
import Derived.IntWalk
import Derived.StillTailTactics
namespace Go.Proofs.YtpdlnpllhjcejaaDoor
open Go.RowKit
theorem refL_len (s : ByteArray) (e : Int) : ∀ (f : Nat) (X : RL), (refL s e f X).1.length ≤ f := by
  intro f
  induction f with
  | zero => intro X; simp [refL]
  | succ f ih =>
    intro X
    unfold refL
    rcases skp false X with _ | ⟨q, M⟩
    · simp
    · simp only []
      rcases tokL s e (q :: M) with _ | ⟨t, k⟩
      · simp
      · have := ih ((q :: M).drop k)
        simp
        omega
theorem toks_len (s : ByteArray) : (toks s).1.length ≤ s.size + 1 := by
  have h1 := toks_ref s (each s).1.length (Nat.le_refl _)
  have h2 := refL_len s (endOf s (each s).2) (each s).1.length (each s).1
  have h3 := each_len s
  rw [← h1] at h2
  unfold toks
  split
  · split
    · simp
    · split
      · simp; omega
      · simp
  · simp
theorem rtokens_is (s : ByteArray) (l : List Tok) (at' err : Int) (w : World) (hU : Lib.Utf8Tabs 1 2 w) (hs : s.size ≤ 1000000) (h : toks s = (l, at', err)) :
    Calls Tryd.prog 10 #[.string s] w fun e w' => ∃ v, e = .returned (.tuple #[v, .int .i64 at', .int .i64 err]) ∧ w'.ownsRow w.heap.size 30 4 v l.length (flatT l) ∧ Below w.heap.size w w' := by
  refine (rtokens_any s w hs hU).mono fun e w' hp => ?_
  obtain ⟨v, h1, h2, h3⟩ := hp
  rw [h] at h1 h2
  exact ⟨v, h1, h2, h3⟩
end Go.Proofs.YtpdlnpllhjcejaaDoor
