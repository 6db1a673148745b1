/- What runes.Place and sibylref1.Place answer: the line and the column, counted along the text; below the heap as it was the world is left. -/
import Derived.Test.YtbcjolenachjpaaRunesPure
import Derived.Test.YtbcjolenachjpaaRows
import Derived.WalkKit
import Derived.WalkLawsBesides
import Derived.WalkSpells
import Derived.ProofKit
import Derived.Outline
import Derived.Deep.QuietTactic
import Derived.BigQuiet
import Derived.Deep.Light
import Derived.Deep.CutBlock
import Derived.Deep.DeepCutAuto
import Derived.Deep.DeepFit
import Derived.Deep.LoopGhost
import Derived.Lib.Hide
import Derived.Lib.OthersKept
import Derived.IntWalk
namespace Go.Proofs.Ytbcjolenachjpaa
open Go.RowKit
set_option maxRecDepth 1000000 in
set_option maxHeartbeats 1000000 in
theorem place_any (s : ByteArray) (at' : Int) (w : World) (hs : s.size ≤ 1000000) :
    Calls Try.prog 9 #[.string s, .int .i64 at'] w fun e w' => e = .returned (.tuple #[.int .i64 (pl s at').1, .int .i64 (pl s at').2]) ∧ Below w.heap.size w w' := by
  go_enter Try.func9, Try.ntmps9
  go_wp2
  go_loopw [4, 5] (fun l c w' => ∃ (pos b : Nat) (ln cn : Int), w' = w.iter s pos ∧ l = .int .i64 ln ∧ c = .int .i64 cn ∧ Hid (plF s at' b pos ln cn = pl s at') ∧ s.size ≤ pos + b ∧ 1 ≤ ln ∧ ln ≤ pos + 1 ∧ 1 ≤ cn ∧ cn ≤ pos + 1) (fun _ _ w' => s.size - w'.iterPos w.heap.size)
  case atStart => exact ⟨0, s.size, 1, 1, rfl, rfl, rfl, rfl, by omega, by omega, by omega, by omega, by omega⟩
  case round =>
    obtain ⟨pos, b, ln, cn, rfl, rfl, rfl, hc, hb, h1, h2, h3, h4⟩ := hrel
    by_cases hp : pos < s.size
    · have hnx : ∀ ty, (Instr.next (.pointer (some ⟨w.heap.size, 0, none⟩)) true ty).run Try.prog (w.iter s pos) = _ := fun ty => run_next_any w s pos ty hp
      have hwd := width_pos s pos hp
      obtain ⟨b, rfl⟩ : ∃ f', b = f' + 1 := ⟨b - 1, by omega⟩
      by_cases ha : (pos : Int) < at'
      · by_cases h10 : (Utf8.decode s pos).1 = 10
        · have h10b : (((Utf8.decode s pos).1 : Int) == 10) = true := by simp [h10]
          have HE : Hid (plF s at' b (pos + (Utf8.decode s pos).2) (ln + 1) 1 = pl s at') := by rw [← plF_lf s at' b pos ln cn ⟨hp, ha⟩ h10]; exact hc.out
          clear hc h10
          go_wp2
          go_roundw
          case rel => exact ⟨pos + (Utf8.decode s pos).2, b, ln + 1, 1, rfl, by go_num, by go_num, HE, by omega, by omega, by omega, by omega, by omega⟩
          case measure => simp; omega
        · have h10b : (((Utf8.decode s pos).1 : Int) == 10) = false := by rw [beq_eq_false_iff_ne]; omega
          have HE : Hid (plF s at' b (pos + (Utf8.decode s pos).2) ln (cn + 1) = pl s at') := by rw [← plF_no s at' b pos ln cn ⟨hp, ha⟩ h10]; exact hc.out
          clear hc h10
          go_wp2
          go_roundw
          case rel => exact ⟨pos + (Utf8.decode s pos).2, b, ln, cn + 1, rfl, by go_num, by go_num, HE, by omega, by omega, by omega, by omega, by omega⟩
          case measure => simp; omega
      · have HE : Hid ((ln, cn) = pl s at') := by rw [← plF_end s at' (b + 1) pos ln cn (fun h => ha h.2)]; exact hc.out
        clear hc
        go_wp2
        go_ret2
        exact ⟨ret_two HE.out, (Below.refl _ _).alloc (Nat.le_refl _) _⟩
    · have hnx : ∀ ty, (Instr.next (.pointer (some ⟨w.heap.size, 0, none⟩)) true ty).run Try.prog (w.iter s pos) = _ := fun ty => run_next_end w s pos ty hp
      have HE : Hid ((ln, cn) = pl s at') := by rw [← plF_end s at' b pos ln cn (fun h => hp h.1)]; exact hc.out
      clear hc
      go_wp2
      go_ret2
      exact ⟨ret_two HE.out, (Below.refl _ _).alloc (Nat.le_refl _) _⟩
set_option maxRecDepth 1000000 in
set_option maxHeartbeats 1000000 in
theorem rplace_any (s : ByteArray) (at' : Int) (w : World) (hs : s.size ≤ 1000000) :
    Calls Try.prog 10 #[.string s, .int .i64 at'] w fun e w' => e = .returned (.tuple #[.int .i64 (pl s at').1, .int .i64 (pl s at').2]) ∧ Below w.heap.size w w' := by
  obtain ⟨bt, hbt⟩ : ∃ bt : Int, bt = min (max at' 0) s.size := ⟨_, rfl⟩
  have hcl := Lib.hid (fun b pos l c => plF_clamp s at' bt hbt b pos l c)
  have hbr := Lib.hid hbt
  clear hbt
  go_enter Try.func10, Try.ntmps10
  go_upto_region 1 with fail
  go_cut [1] from 10 (fun s1 wc => w = wc ∧ s1 = .int .i64 bt)
  case first =>
    by_cases hn : at' < 0
    · have hb : bt = 0 := by have := hbr.out; omega
      go_wp2
      all_goals (go_meet; case rel => exact ⟨rfl, by go_num⟩)
    · by_cases hg : (s.size : Int) < at'
      · have hb : bt = s.size := by have := hbr.out; omega
        go_wp2
        all_goals (go_meet; case rel => exact ⟨rfl, by go_num⟩)
      · have hb : bt = at' := by have := hbr.out; omega
        go_wp2
        all_goals (go_meet; case rel => exact ⟨rfl, by go_num⟩)
  case rest =>
  obtain ⟨rfl, rfl⟩ := hcut
  go_wp2
  go_loopw [6, 7] (fun l c w' => ∃ (pos b : Nat) (ln cn : Int), w' = w.iter s pos ∧ l = .int .i64 ln ∧ c = .int .i64 cn ∧ Hid (plF s bt b pos ln cn = pl s at') ∧ s.size ≤ pos + b ∧ 1 ≤ ln ∧ ln ≤ pos + 1 ∧ 1 ≤ cn ∧ cn ≤ pos + 1) (fun _ _ w' => s.size - w'.iterPos w.heap.size)
  case atStart => exact ⟨0, s.size, 1, 1, rfl, rfl, rfl, (hcl.out _ _ _ _).symm, by omega, by omega, by omega, by omega, by omega⟩
  case round =>
    obtain ⟨pos, b, ln, cn, rfl, rfl, rfl, hc, hb, h1, h2, h3, h4⟩ := hrel
    by_cases hp : pos < s.size
    · have hnx : ∀ ty, (Instr.next (.pointer (some ⟨w.heap.size, 0, none⟩)) true ty).run Try.prog (w.iter s pos) = _ := fun ty => run_next_any w s pos ty hp
      have hwd := width_pos s pos hp
      obtain ⟨b, rfl⟩ : ∃ f', b = f' + 1 := ⟨b - 1, by omega⟩
      by_cases ha : (pos : Int) < bt
      · by_cases h10 : (Utf8.decode s pos).1 = 10
        · have h10b : (((Utf8.decode s pos).1 : Int) == 10) = true := by simp [h10]
          have HE : Hid (plF s bt b (pos + (Utf8.decode s pos).2) (ln + 1) 1 = pl s at') := by rw [← plF_lf s bt b pos ln cn ⟨hp, ha⟩ h10]; exact hc.out
          clear hc h10
          go_wp2
          go_roundw
          case rel => exact ⟨pos + (Utf8.decode s pos).2, b, ln + 1, 1, rfl, by go_num, by go_num, HE, by omega, by omega, by omega, by omega, by omega⟩
          case measure => simp; omega
        · have h10b : (((Utf8.decode s pos).1 : Int) == 10) = false := by rw [beq_eq_false_iff_ne]; omega
          have HE : Hid (plF s bt b (pos + (Utf8.decode s pos).2) ln (cn + 1) = pl s at') := by rw [← plF_no s bt b pos ln cn ⟨hp, ha⟩ h10]; exact hc.out
          clear hc h10
          go_wp2
          go_roundw
          case rel => exact ⟨pos + (Utf8.decode s pos).2, b, ln, cn + 1, rfl, by go_num, by go_num, HE, by omega, by omega, by omega, by omega, by omega⟩
          case measure => simp; omega
      · have HE : Hid ((ln, cn) = pl s at') := by rw [← plF_end s bt (b + 1) pos ln cn (fun h => ha h.2)]; exact hc.out
        clear hc
        go_wp2
        go_ret2
        exact ⟨ret_two HE.out, (Below.refl _ _).alloc (Nat.le_refl _) _⟩
    · have hnx : ∀ ty, (Instr.next (.pointer (some ⟨w.heap.size, 0, none⟩)) true ty).run Try.prog (w.iter s pos) = _ := fun ty => run_next_end w s pos ty hp
      have HE : Hid ((ln, cn) = pl s at') := by rw [← plF_end s bt b pos ln cn (fun h => hp h.1)]; exact hc.out
      clear hc
      go_wp2
      go_ret2
      exact ⟨ret_two HE.out, (Below.refl _ _).alloc (Nat.le_refl _) _⟩
end Go.Proofs.Ytbcjolenachjpaa
