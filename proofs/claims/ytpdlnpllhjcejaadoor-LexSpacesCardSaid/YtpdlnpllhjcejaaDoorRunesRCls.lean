/- What sibylref1.Class answers: the class, by its ranges and signs; the world is left as it was. -/
import Derived.Test.YtpdlnpllhjcejaaDoorRunesPure
import Derived.Test.YtpdlnpllhjcejaaDoorRows
import Derived.WalkKit
import Derived.WalkLawsBesides
import Derived.WalkSpells
import Derived.ProofKit
import Derived.Outline
import Derived.Deep.QuietTactic
import Derived.BigQuiet
import Derived.Deep.Light
import Derived.Deep.CutBlock
import Derived.Deep.DeepCutAuto
import Derived.Deep.DeepFit
import Derived.Deep.LoopGhost
import Derived.Lib.Hide
import Derived.Lib.OthersKept
import Derived.IntWalk
namespace Go.Proofs.YtpdlnpllhjcejaaDoor
open Go.RowKit
set_option maxHeartbeats 1000000 in
theorem rclass_any (r : Int) (w : World) :
    Calls Tryd.prog 81 #[.int .i32 r] w fun e w' => e = .returned (.int .i64 (cls r)) ∧ w = w' := by
  go_enter Tryd.func81, Tryd.ntmps81
  go_upto_block 0 with fail
  go_cut [] from 5 (fun wc => w = wc ∧ noOther r)
  case first =>
    go_wp2
    all_goals first
      | (go_ret; refine ⟨ret_int ?_, rfl⟩; go_light; (try simp only [beq_iff_eq, beq_eq_false_iff_ne, ne_eq] at *); first | exact cls1 (by unfold isLet; omega) | exact cls2 (by omega) | exact cls3 (by omega))
      | (go_meet; case rel => (refine ⟨rfl, ?_⟩; go_light; (try simp only [beq_eq_false_iff_ne, ne_eq] at *); exact ⟨by unfold isLet; omega, by omega, by omega⟩))
  case rest =>
    obtain ⟨rfl, hno⟩ := hcut
    go_wp2
    go_loop [4] (fun i => ∃ k : Nat, k ≤ 17 ∧ i = .int .i64 k ∧ noSgn r k) (fun i => 17 - (intOf i).toNat)
    case atStart => exact ⟨0, by omega, rfl, by simp [noSgn]⟩
    case round =>
      obtain ⟨k, hk, rfl, hs⟩ := hrel
      by_cases hlt : k < 17
      · have hsg := all17 k hlt
        by_cases he : r = sgn[k]'hlt
        · have h1 : (r == sgn[k]'hlt) = true := by simpa using he
          have h4 := Lib.hid (cls4k r k hlt he)
          clear he
          go_wp2
          go_ret
          exact ⟨ret_int h4.out, rfl⟩
        · have h1 : (r == sgn[k]'hlt) = false := by simpa using he
          have h4 := noSgn_succ r k hlt hs he
          clear he
          go_wp2
          go_round
          case rel => exact ⟨k + 1, by omega, by go_num, h4⟩
          case measure => simp [intOf]; omega
      · have h0 := Lib.hid (cls0k r k hno (by omega) hs)
        go_wp2
        go_ret
        exact ⟨ret_int h0.out, rfl⟩
end Go.Proofs.YtpdlnpllhjcejaaDoor
