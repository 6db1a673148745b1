/- The walk of ParseDeep. -/
import Derived.Test.YtmmicnjiikiklaaDoorPDeepK
import Derived.Test.YtmmicnjiikiklaaDoorLexA
import Derived.Test.YtmmicnjiikiklaaDoorRows
import Derived.WalkKit
import Derived.WalkLawsBesides
import Derived.WalkSpells
import Derived.ProofKit
import Derived.Outline
import Derived.Deep.QuietTactic
import Derived.BigQuiet
import Derived.Deep.Light
import Derived.Deep.CutBlock
import Derived.Deep.DeepCutAuto
import Derived.Deep.DeepFit
import Derived.Deep.LoopGhost
import Derived.Lib.Hide
import Derived.Lib.OthersKept
import Derived.IntWalk
import Derived.StillTailTactics
namespace Go.Proofs.YtmmicnjiikiklaaDoor
open Go.RowKit
/-! The walk of ParseDeep. -/
theorem lt30 (k : Nat) (h : k < 30) : decide ((k : Int) < 30) = true := by rw [decide_eq_true_eq]; omega
theorem ge30 (k : Nat) (h : ¬ k < 30) : decide ((k : Int) < 30) = false := by rw [decide_eq_false_iff_not]; omega
theorem pknown_alloc (w0 w : World) (o o2 : Obj) (hb : Below w0.heap.size w0 w) (hT : LTabs w0) (hPT : PTab w0) {R : Ending → World → Prop} (h : ∀ w', Below w0.heap.size w0 w' → R (.returned (.bool true)) w') : Calls Tryd.prog 13 #[] ((w.alloc o).alloc o2) R := by
  have hbx := (hb.alloc hb.size o).alloc (hb.alloc hb.size o).size o2
  refine (pknown_any _ (hT.below hbx) (hPT.below hbx)).mono ?_
  rintro e w2 ⟨rfl, hb2⟩
  exact h _ (hbx.trans (hb2.mono hbx.size))

set_option maxRecDepth 100000 in
set_option maxHeartbeats 4000000 in
theorem deep_walk0 (N : Nat) (hN : N ≤ 40) (w : World) (hT : LTabs w) (hPT : PTab w) :
    Calls Tryd.prog 5 #[.int .i64 N, .int .i64 0] w fun e w' => e = .returned (.bool true) ∧ Below w.heap.size w w' := by
  have hn0 : (0 : Int) ≤ N := by omega
  have hn1 : (N : Int) ≤ 40 := by omega
  have HK := Lib.hid (chkD_say N 0 hN (by decide))
  go_enter Tryd.func5, Tryd.ntmps5
  go_wp2
  go_loopw [5, 6, 7] (fun s t i wr => ∃ k : Nat, s = .string (repB ⟨#[40]⟩ ⟨#[]⟩ k) ∧ t = .string (repB ⟨#[41]⟩ ⟨#[116, 114, 117, 101]⟩ k) ∧ i = .int .i64 k ∧ k ≤ N ∧ Below w.heap.size w wr) (fun _ _ i _ => N - (intOf i).toNat)
  case atStart => exact ⟨0, rfl, rfl, rfl, by omega, Below.refl _ _⟩
  case round =>
    obtain ⟨k, rfl, rfl, rfl, hk, hbr⟩ := hrel
    have hs1 : (repB ⟨#[40]⟩ ⟨#[]⟩ k).size ≤ 240 := by rw [repB_size]; show 0 + k * 1 ≤ 240; omega
    have hs2 : (repB ⟨#[41]⟩ ⟨#[116, 114, 117, 101]⟩ k : ByteArray).size ≤ 44 := by rw [repB_size]; show 4 + k * 1 ≤ 44; omega
    have hs3 : (repB ⟨#[40]⟩ ⟨#[]⟩ k ++ (repB ⟨#[41]⟩ ⟨#[116, 114, 117, 101]⟩ k)).size ≤ 284 := by rw [cat_size]; omega
    by_cases hkn : k < N
    · go_wp2
      go_roundw
      case rel => exact ⟨k + 1, rfl, rfl, by go_num, by omega, hbr.alloc hbr.size _⟩
      case measure => simp [intOf]; omega
    · obtain rfl : k = N := by omega
      have hsz : (deepT k 0).size ≤ 1000000 := by
        show (repB ⟨#[40]⟩ ⟨#[]⟩ k ++ (repB ⟨#[41]⟩ ⟨#[116, 114, 117, 101]⟩ k) ++ ⟨#[59]⟩).size ≤ _
        rw [cat_size]
        have : (⟨#[59]⟩ : ByteArray).size = 1 := rfl
        omega
      by_cases h30 : k < 30
      · have hlt := lt30 k h30
        have HC := Lib.hid (parse_good (deepT k 0) hsz (by have := HK.out; rw [if_pos h30] at this; exact this) wr (hT.below hbr) (hPT.below hbr))
        clear hsz HK h30
        go_wp2_with fail
        refine HC.out.mono ?_
        rintro e w1 ⟨T, rfl, -, hb, -⟩
        have hbw : Below w.heap.size w w1 := hbr.trans (hb.mono hbr.size)
        clear hb HC hs1 hs2 hs3
        go_wp2_with fail
        refine pknown_alloc w w1 _ _ hbw hT hPT fun w2 hb2 => ?_
        go_wp2
        go_ret
        exact ⟨rfl, hb2⟩
      · have hge := ge30 k h30
        have HC := Lib.hid (parse_bad (deepT k 0) 30 4 hsz (by have := HK.out; rw [if_neg h30] at this; exact this) wr (hT.below hbr) (hPT.below hbr))
        clear hsz HK h30
        go_wp2_with fail
        refine HC.out.mono ?_
        rintro e w1 ⟨rfl, hb⟩
        have hbw : Below w.heap.size w w1 := hbr.trans (hb.mono hbr.size)
        clear hb HC hs1 hs2 hs3
        go_wp2_with fail
        refine pknown_alloc w w1 _ _ hbw hT hPT fun w2 hb2 => ?_
        go_wp2
        go_ret
        exact ⟨rfl, hb2⟩

set_option maxRecDepth 100000 in
set_option maxHeartbeats 4000000 in
theorem deep_walk1 (N : Nat) (hN : N ≤ 40) (w : World) (hT : LTabs w) (hPT : PTab w) :
    Calls Tryd.prog 5 #[.int .i64 N, .int .i64 1] w fun e w' => e = .returned (.bool true) ∧ Below w.heap.size w w' := by
  have hn0 : (0 : Int) ≤ N := by omega
  have hn1 : (N : Int) ≤ 40 := by omega
  have HK := Lib.hid (chkD_say N 1 hN (by decide))
  go_enter Tryd.func5, Tryd.ntmps5
  go_wp2
  go_loopw [5, 6, 7] (fun s t i wr => ∃ k : Nat, s = .string (repB ⟨#[126]⟩ ⟨#[]⟩ k) ∧ t = .string (⟨#[116, 114, 117, 101]⟩) ∧ i = .int .i64 k ∧ k ≤ N ∧ Below w.heap.size w wr) (fun _ _ i _ => N - (intOf i).toNat)
  case atStart => exact ⟨0, rfl, rfl, rfl, by omega, Below.refl _ _⟩
  case round =>
    obtain ⟨k, rfl, rfl, rfl, hk, hbr⟩ := hrel
    have hs1 : (repB ⟨#[126]⟩ ⟨#[]⟩ k).size ≤ 240 := by rw [repB_size]; show 0 + k * 1 ≤ 240; omega
    have hs2 : (⟨#[116, 114, 117, 101]⟩ : ByteArray).size ≤ 44 := by decide
    have hs3 : (repB ⟨#[126]⟩ ⟨#[]⟩ k ++ (⟨#[116, 114, 117, 101]⟩)).size ≤ 284 := by rw [cat_size]; omega
    by_cases hkn : k < N
    · go_wp2
      go_roundw
      case rel => exact ⟨k + 1, rfl, rfl, by go_num, by omega, hbr.alloc hbr.size _⟩
      case measure => simp [intOf]; omega
    · obtain rfl : k = N := by omega
      have hsz : (deepT k 1).size ≤ 1000000 := by
        show (repB ⟨#[126]⟩ ⟨#[]⟩ k ++ (⟨#[116, 114, 117, 101]⟩) ++ ⟨#[59]⟩).size ≤ _
        rw [cat_size]
        have : (⟨#[59]⟩ : ByteArray).size = 1 := rfl
        omega
      by_cases h30 : k < 30
      · have hlt := lt30 k h30
        have HC := Lib.hid (parse_good (deepT k 1) hsz (by have := HK.out; rw [if_pos h30] at this; exact this) wr (hT.below hbr) (hPT.below hbr))
        clear hsz HK h30
        go_wp2_with fail
        refine HC.out.mono ?_
        rintro e w1 ⟨T, rfl, -, hb, -⟩
        have hbw : Below w.heap.size w w1 := hbr.trans (hb.mono hbr.size)
        clear hb HC hs1 hs2 hs3
        go_wp2_with fail
        refine pknown_alloc w w1 _ _ hbw hT hPT fun w2 hb2 => ?_
        go_wp2
        go_ret
        exact ⟨rfl, hb2⟩
      · have hge := ge30 k h30
        have HC := Lib.hid (parse_bad (deepT k 1) 30 4 hsz (by have := HK.out; rw [if_neg h30] at this; exact this) wr (hT.below hbr) (hPT.below hbr))
        clear hsz HK h30
        go_wp2_with fail
        refine HC.out.mono ?_
        rintro e w1 ⟨rfl, hb⟩
        have hbw : Below w.heap.size w w1 := hbr.trans (hb.mono hbr.size)
        clear hb HC hs1 hs2 hs3
        go_wp2_with fail
        refine pknown_alloc w w1 _ _ hbw hT hPT fun w2 hb2 => ?_
        go_wp2
        go_ret
        exact ⟨rfl, hb2⟩

set_option maxRecDepth 100000 in
set_option maxHeartbeats 4000000 in
theorem deep_walk2 (N : Nat) (hN : N ≤ 40) (w : World) (hT : LTabs w) (hPT : PTab w) :
    Calls Tryd.prog 5 #[.int .i64 N, .int .i64 2] w fun e w' => e = .returned (.bool true) ∧ Below w.heap.size w w' := by
  have hn0 : (0 : Int) ≤ N := by omega
  have hn1 : (N : Int) ≤ 40 := by omega
  have HK := Lib.hid (chkD_say N 2 hN (by decide))
  go_enter Tryd.func5, Tryd.ntmps5
  go_wp2
  go_loopw [5, 6, 7] (fun s t i wr => ∃ k : Nat, s = .string (repB ⟨#[101, 120, 48, 32, 120, 58]⟩ ⟨#[]⟩ k) ∧ t = .string (⟨#[116, 114, 117, 101]⟩) ∧ i = .int .i64 k ∧ k ≤ N ∧ Below w.heap.size w wr) (fun _ _ i _ => N - (intOf i).toNat)
  case atStart => exact ⟨0, rfl, rfl, rfl, by omega, Below.refl _ _⟩
  case round =>
    obtain ⟨k, rfl, rfl, rfl, hk, hbr⟩ := hrel
    have hs1 : (repB ⟨#[101, 120, 48, 32, 120, 58]⟩ ⟨#[]⟩ k).size ≤ 240 := by rw [repB_size]; show 0 + k * 6 ≤ 240; omega
    have hs2 : (⟨#[116, 114, 117, 101]⟩ : ByteArray).size ≤ 44 := by decide
    have hs3 : (repB ⟨#[101, 120, 48, 32, 120, 58]⟩ ⟨#[]⟩ k ++ (⟨#[116, 114, 117, 101]⟩)).size ≤ 284 := by rw [cat_size]; omega
    by_cases hkn : k < N
    · go_wp2
      go_roundw
      case rel => exact ⟨k + 1, rfl, rfl, by go_num, by omega, hbr.alloc hbr.size _⟩
      case measure => simp [intOf]; omega
    · obtain rfl : k = N := by omega
      have hsz : (deepT k 2).size ≤ 1000000 := by
        show (repB ⟨#[101, 120, 48, 32, 120, 58]⟩ ⟨#[]⟩ k ++ (⟨#[116, 114, 117, 101]⟩) ++ ⟨#[59]⟩).size ≤ _
        rw [cat_size]
        have : (⟨#[59]⟩ : ByteArray).size = 1 := rfl
        omega
      by_cases h30 : k < 30
      · have hlt := lt30 k h30
        have HC := Lib.hid (parse_good (deepT k 2) hsz (by have := HK.out; rw [if_pos h30] at this; exact this) wr (hT.below hbr) (hPT.below hbr))
        clear hsz HK h30
        go_wp2_with fail
        refine HC.out.mono ?_
        rintro e w1 ⟨T, rfl, -, hb, -⟩
        have hbw : Below w.heap.size w w1 := hbr.trans (hb.mono hbr.size)
        clear hb HC hs1 hs2 hs3
        go_wp2_with fail
        refine pknown_alloc w w1 _ _ hbw hT hPT fun w2 hb2 => ?_
        go_wp2
        go_ret
        exact ⟨rfl, hb2⟩
      · have hge := ge30 k h30
        have HC := Lib.hid (parse_bad (deepT k 2) 180 4 hsz (by have := HK.out; rw [if_neg h30] at this; exact this) wr (hT.below hbr) (hPT.below hbr))
        clear hsz HK h30
        go_wp2_with fail
        refine HC.out.mono ?_
        rintro e w1 ⟨rfl, hb⟩
        have hbw : Below w.heap.size w w1 := hbr.trans (hb.mono hbr.size)
        clear hb HC hs1 hs2 hs3
        go_wp2_with fail
        refine pknown_alloc w w1 _ _ hbw hT hPT fun w2 hb2 => ?_
        go_wp2
        go_ret
        exact ⟨rfl, hb2⟩

set_option maxRecDepth 100000 in
theorem deep_walk (n way : Int) (w : World) (hT : LTabs w) (hPT : PTab w) :
    Calls Tryd.prog 5 #[.int .i64 n, .int .i64 way] w fun e w' => e = .returned (.bool true) ∧ Below w.heap.size w w' := by
  by_cases hr : (0 ≤ n ∧ n ≤ 40) ∧ (0 ≤ way ∧ way ≤ 2)
  · obtain ⟨⟨hn0, hn1⟩, hm0, hm1⟩ := hr
    obtain ⟨N, rfl⟩ : ∃ N : Nat, n = N := ⟨n.toNat, by omega⟩
    rcases (show way = 0 ∨ way = 1 ∨ way = 2 by omega) with rfl | rfl | rfl
    · exact deep_walk0 N (by omega) w hT hPT
    · exact deep_walk1 N (by omega) w hT hPT
    · exact deep_walk2 N (by omega) w hT hPT
  · rcases (show n < 0 ∨ (0 ≤ n ∧ 40 < n) ∨ ((0 ≤ n ∧ n ≤ 40) ∧ way < 0) ∨ ((0 ≤ n ∧ n ≤ 40) ∧ 0 ≤ way ∧ 2 < way) by omega) with h | ⟨h, h2⟩ | ⟨⟨h, h2⟩, h3⟩ | ⟨⟨h, h2⟩, h3, h4⟩
    all_goals
      go_enter Tryd.func5, Tryd.ntmps5
      go_wp2
      go_ret
      exact ⟨rfl, Below.refl _ _⟩

end Go.Proofs.YtmmicnjiikiklaaDoor
