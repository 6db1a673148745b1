/- known, by which each law of lex ends, answers true. Condition: the tables stand as laid. -/
import Derived.Test.YtpdlnpllhjcejaaDoorLexSame
import Derived.Test.YtpdlnpllhjcejaaDoorLexPure2
import Derived.Test.YtpdlnpllhjcejaaDoorRows
import Derived.WalkKit
import Derived.WalkLawsBesides
import Derived.WalkSpells
import Derived.ProofKit
import Derived.Outline
import Derived.Deep.QuietTactic
import Derived.BigQuiet
import Derived.Deep.Light
import Derived.Deep.CutBlock
import Derived.Deep.DeepCutAuto
import Derived.Deep.DeepFit
import Derived.Deep.LoopGhost
import Derived.Lib.Hide
import Derived.Lib.OthersKept
import Derived.IntWalk
namespace Go.Proofs.YtpdlnpllhjcejaaDoor
open Go.RowKit
theorem tokens_is (s : ByteArray) (l : List Tok) (at' err : Int) (w : World) (hT : LTabs w) (hs : s.size ≤ 1000000) (h : toks s = (l, at', err)) :
    Calls Tryd.prog 11 #[.string s] w fun e w' => ∃ v, e = .returned (.tuple #[v, .int .i64 at', .int .i64 err]) ∧ w'.ownsRow w.heap.size 30 4 v l.length (flatT l) ∧ Below w.heap.size w w' := by
  refine (tokens_any s w hT hs).mono fun e w' hp => ?_
  obtain ⟨v, h1, h2, h3⟩ := hp
  rw [h] at h1 h2
  exact ⟨v, h1, h2, h3⟩
def knownL : List Tok := [⟨1, ⟨#[120]⟩, 0, 0⟩, ⟨3, ⟨#[60, 61]⟩, 0, 1⟩, ⟨2, ⟨#[]⟩, 3, 3⟩, ⟨4, ⟨#[]⟩, 0, 4⟩]
theorem toks_known : toks ⟨#[120, 60, 61, 51]⟩ = (knownL, 4, 0) := by decide +kernel
theorem known_lit (w : World) (b : Nat) (hb : b ≤ w.heap.size) : (w.alloc (.cells (flatT knownL).toArray 30)).ownsRow b 30 4 (.slice (some ⟨w.heap.size, 0, none⟩) 4 4) knownL.length (flatT knownL) :=
  World.ownsRow_lit w (flatT knownL).toArray 4 hb (by unfold maxLen; decide) (by rfl)
set_option maxRecDepth 100000 in
set_option maxHeartbeats 1000000 in
theorem known_any (w : World) (hT : LTabs w) :
    Calls Tryd.prog 12 #[] w fun e w' => e = .returned (.bool true) ∧ Below w.heap.size w w' := by
  go_enter Tryd.func12, Tryd.ntmps12
  go_wp2_with fail
  refine (tokens_is _ knownL 4 0 _ hT (by decide) toks_known).mono ?_
  rintro e w1 ⟨v, rfl, hown, hb⟩
  have hsz := hb.size
  go_wp2_with fail
  refine (same_any knownL w.heap.size w1.heap.size v _ _ (by decide) (hown.alloc _) (known_lit w1 w1.heap.size (Nat.le_refl _))).mono ?_
  rintro e w2 ⟨rfl, hb2⟩
  go_wp2
  go_ret
  exact ⟨rfl, (hb.alloc hsz _).trans (hb2.mono (by simp; omega))⟩
end Go.Proofs.YtpdlnpllhjcejaaDoor
