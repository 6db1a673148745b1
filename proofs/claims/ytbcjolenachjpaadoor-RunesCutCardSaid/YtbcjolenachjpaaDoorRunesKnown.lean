/- known, by which each law ends, answers true. -/
import Derived.Test.YtbcjolenachjpaaDoorRunesPure
import Derived.Test.YtbcjolenachjpaaDoorRunesCls
import Derived.Test.YtbcjolenachjpaaDoorRunesEach
import Derived.Test.YtbcjolenachjpaaDoorRows
import Derived.WalkKit
import Derived.WalkLawsBesides
import Derived.WalkSpells
import Derived.ProofKit
import Derived.Outline
import Derived.Deep.QuietTactic
import Derived.BigQuiet
import Derived.Deep.Light
import Derived.Deep.CutBlock
import Derived.Deep.DeepCutAuto
import Derived.Deep.DeepFit
import Derived.Deep.LoopGhost
import Derived.Lib.Hide
import Derived.Lib.OthersKept
import Derived.IntWalk
namespace Go.Proofs.YtbcjolenachjpaaDoor
open Go.RowKit
theorem each_known : each { data := #[97, 206, 178] } = ([(97, 0), (946, 1)], -1) := by decide +kernel
set_option maxRecDepth 100000 in
set_option maxHeartbeats 1000000 in
theorem known_any (w : World) :
    Calls Tryd.prog 7 #[] w fun e w' => e = .returned (.bool true) ∧ Below w.heap.size w w' := by
  have c33 : Tryd.prog.cellsOf 26 = 2 := by kernel_rfl
  go_enter Tryd.func7, Tryd.ntmps7
  go_wp2_with fail
  refine (each_any _ _ (by decide)).mono ?_
  rintro e w1 ⟨v, rfl, hown, hb⟩
  rw [each_known] at hown ⊢
  simp only [List.length_cons, List.length_nil, Nat.zero_add, Nat.reduceAdd] at hown
  obtain ⟨g, cap, rfl⟩ : ∃ g cap, v = .slice (some ⟨g, 0, none⟩) 2 cap := by
    rcases hown.2 with ⟨_, h0⟩ | ⟨g, cap, cur, hv, _⟩
    · simp at h0
    · exact ⟨g, cap, hv⟩
  have c2 := (hown.cellAt 2 (by decide)).trans (show (flat [(97, 0), (946, 1)])[2]? = some (.int .i32 946) from rfl)
  have c3 := (hown.cellAt 3 (by decide)).trans (show (flat [(97, 0), (946, 1)])[3]? = some (.int .i64 1) from rfl)
  have hsz := hb.size
  clear hown
  go_wp2_with fail
  refine (class_any _ _).mono ?_
  rintro e w2 ⟨rfl, rfl⟩
  rw [show cls 97 = 1 from by decide +kernel]
  go_wp2
  go_ret
  exact ⟨rfl, hb⟩
end Go.Proofs.YtbcjolenachjpaaDoor
