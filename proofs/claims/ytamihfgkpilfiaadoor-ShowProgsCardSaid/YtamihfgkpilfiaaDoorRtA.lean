/- x -/
import Derived.Test.YtamihfgkpilfiaaDoorShG
import Derived.Test.YtamihfgkpilfiaaDoorLexA
import Derived.Test.YtamihfgkpilfiaaDoorRows
import Derived.WalkKit
import Derived.WalkLawsBesides
import Derived.WalkSpells
import Derived.ProofKit
import Derived.Outline
import Derived.Deep.QuietTactic
import Derived.BigQuiet
import Derived.Deep.Light
import Derived.Deep.CutBlock
import Derived.Deep.DeepCutAuto
import Derived.Deep.DeepFit
import Derived.Deep.LoopGhost
import Derived.Lib.Hide
import Derived.Lib.OthersKept
import Derived.IntWalk
import Derived.StillTailTactics
import Derived.Lib.UnsafeStr
namespace Go.Proofs.YtamihfgkpilfiaaDoor
open Go.RowKit
/-! The reference of show: digits. -/
def dB (k : Nat) : UInt8 := UInt8.ofNat (48 + k % 10)
theorem dB_nat (k : Nat) : (dB k).toNat = 48 + k % 10 := by unfold dB; rw [UInt8.toNat_ofNat']; omega
theorem conv_d (w : World) (k : Nat) (b : Int) (hb : b = 48 + (k : Int) % 10) : (convert 42 9 (.slice (some ⟨w.heap.size, 0, none⟩) 1 1)).run Tryd.prog (w.alloc (.cells #[.int .u8 b] 5)) = .ok (.string ⟨#[dB k]⟩) (w.alloc (.cells #[.int .u8 b] 5)) :=
  run_convert_bytes_back _ 42 9 5 ⟨w.heap.size, 0, none⟩ 1 [dB k] Tryd.underlying42 Tryd.underlying5 Tryd.underlying9 (fun j hj => by
    obtain rfl : j = 0 := by simpa using hj
    rw [hb]
    simp [Addr.add, dB_nat])
theorem dgs_lo (k : Nat) (h : k < 10) : dgs k = [dB k] := by
  unfold dgs dB
  rw [Int.toNat_natCast, Lib.decDigits, dif_pos h, Nat.mod_eq_of_lt h]
theorem dgs_hi (k : Nat) (h : 10 ≤ k) (h2 : k < 100) : dgs k = [dB (k / 10)] ++ [dB k] := by
  rw [← dgs_lo (k / 10) (by omega)]
  unfold dgs dB
  rw [Int.toNat_natCast, Int.toNat_natCast, Lib.decDigits, dif_neg (by omega)]
set_option maxRecDepth 100000 in
set_option maxHeartbeats 2000000 in
theorem dig_lo (k : Nat) (h : k < 10) (w : World) : Calls Tryd.prog 27 #[.int .i64 k] w fun e w' => e = .returned (.string ⟨#[dB k]⟩) ∧ Below w.heap.size w w' := by
  have hcv := conv_d w k _ rfl
  have h1 : (k : Int) < 10 := by omega
  go_enter Tryd.func27, Tryd.ntmps27
  go_wp2_with fail
  go_ret
  exact ⟨rfl, below_box _ _⟩
set_option maxRecDepth 100000 in
set_option maxHeartbeats 2000000 in
theorem dig_hi (k : Nat) (h : 10 ≤ k) (h2 : k < 100) (w : World) : Calls Tryd.prog 27 #[.int .i64 k] w fun e w' => e = .returned (.string ⟨#[dB (k / 10), dB k]⟩) ∧ Below w.heap.size w w' := by
  have hcv := conv_d w k _ rfl
  have h1 : ¬ (k : Int) < 10 := by omega
  have HC := Lib.hid (dig_lo (k / 10) (by omega) (w.alloc (.cells #[.int .u8 (48 + (k : Int) % 10)] 5)))
  go_enter Tryd.func27, Tryd.ntmps27
  go_wp2_with fail
  refine HC.out.mono ?_
  rintro e w2 ⟨rfl, hb2⟩
  have hbb := box_then hb2
  clear hb2 HC hcv
  go_wp2_with fail
  go_ret
  exact ⟨rfl, hbb⟩
end Go.Proofs.YtamihfgkpilfiaaDoor
