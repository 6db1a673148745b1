/- The signs of parse. -/
import Derived.Test.YtmmicnjiikiklaaDoorPNow
import Derived.Test.YtmmicnjiikiklaaDoorLexA
import Derived.Test.YtmmicnjiikiklaaDoorRows
import Derived.WalkKit
import Derived.WalkLawsBesides
import Derived.WalkSpells
import Derived.ProofKit
import Derived.Outline
import Derived.Deep.QuietTactic
import Derived.BigQuiet
import Derived.Deep.Light
import Derived.Deep.CutBlock
import Derived.Deep.DeepCutAuto
import Derived.Deep.DeepFit
import Derived.Deep.LoopGhost
import Derived.Lib.Hide
import Derived.Lib.OthersKept
import Derived.IntWalk
import Derived.StillTailTactics
namespace Go.Proofs.YtmmicnjiikiklaaDoor
open Go.RowKit
/-! The table of signs; sign. -/
def psgCells : Array Value := (psigs.flatMap fun s => [Value.int .i64 s.1, .string s.2.1, .string s.2.2]).toArray
def PTab (w : World) : Prop := ∃ t f, w.heap[1]? = some (.cells psgCells t f)
theorem PTab.below {w w' : World} (h : PTab w) (hb : Below w.heap.size w w') : PTab w' := by
  obtain ⟨t, f, h⟩ := h
  exact ⟨t, f, by rw [hb.block _ (lt_heap h)]; exact h⟩
/-- The table stands, and is not the reader. -/
def PTB (B : Nat) (w : World) : Prop := PTab w ∧ 1 ≠ B
theorem PTB.kp {B : Nat} {w w' : World} (h : PTB B w) (hk : Kp B w w') : PTB B w' := by
  obtain ⟨⟨t, f, h⟩, hne⟩ := h
  exact ⟨⟨t, f, hk.blk h hne⟩, hne⟩
theorem PTB.below {B : Nat} {w w' : World} (h : PTB B w) (hb : Below w.heap.size w w') : PTB B w' := ⟨h.1.below hb, h.2⟩
theorem psg_index (k : Nat) (hk : k < 14) (w : World) : Sem.run Tryd.prog (Instr.index 113 (.agg psgCells) (.int .i64 k)) w = .ok (.agg #[.int .i64 (psigs[k]'hk).1, .string (psigs[k]'hk).2.1, .string (psigs[k]'hk).2.2]) w := by
  rcases (show k = 0 ∨ k = 1 ∨ k = 2 ∨ k = 3 ∨ k = 4 ∨ k = 5 ∨ k = 6 ∨ k = 7 ∨ k = 8 ∨ k = 9 ∨ k = 10 ∨ k = 11 ∨ k = 12 ∨ k = 13 by omega) with rfl | rfl | rfl | rfl | rfl | rfl | rfl | rfl | rfl | rfl | rfl | rfl | rfl | rfl
  all_goals kernel_rfl
theorem psgF_step (lv : Int) (x : ByteArray) (k : Nat) (hk : k < 14) (h : psgF lv x (psigs.drop k) = psg lv x) : (((psigs[k]'hk).1 == lv) = true → ((psigs[k]'hk).2.1.toList == x.toList) = true → psg lv x = (psigs[k]'hk).2.2) ∧ (((psigs[k]'hk).1 == lv) = false ∨ ((psigs[k]'hk).2.1.toList == x.toList) = false → psgF lv x (psigs.drop (k + 1)) = psg lv x) := by
  have hd : psigs.drop k = psigs[k]'hk :: psigs.drop (k + 1) := List.drop_eq_getElem_cons hk
  rw [hd] at h
  unfold psgF at h
  refine ⟨fun h1 h2 => ?_, fun h1 => ?_⟩
  · rw [h1, h2] at h; exact h.symm
  · rw [if_neg (by rcases h1 with h1 | h1 <;> simp [h1])] at h; exact h
theorem psgF_end (lv : Int) (x : ByteArray) (h : psgF lv x (psigs.drop 14) = psg lv x) : psg lv x = ⟨#[]⟩ := h.symm
set_option maxRecDepth 100000 in
set_option maxHeartbeats 4000000 in
theorem psign_any (s : St) (lv : Int) (w : World) (B : Nat) (d : Int) (hP : PTB B w) (h : RdS w B d s) : Calls Tryd.prog 90 #[.pointer (some ⟨B, 0, none⟩), .int .i64 lv] w fun e w' => e = .returned (.string (psg lv (wrd s.l))) ∧ Below w.heap.size w w' := by
  have HC := Lib.hid (word_any s w B d h)
  generalize wrd s.l = x at HC ⊢
  have HP := Lib.hid hP.1
  clear h hP
  go_enter Tryd.func90, Tryd.ntmps90
  go_wp2_with fail
  refine HC.out.mono ?_
  rintro e w1 ⟨rfl, hb1⟩
  obtain ⟨t, f, hg⟩ := HP.out.below hb1
  have HG := Lib.hid hg
  clear hg HC
  have hu := Tryd.underlying113
  have hi : (Tryd.prog.info? 113).map (·.size) = some psgCells.size := by kernel_rfl
  go_wp2_with (with_reducible refine wpList_load_row rfl _ _ rfl 1 rfl t psgCells f _ HG.out hu rfl hi ?_)
  clear hi hu HG
  go_loopw [11] (fun i wr => ∃ k : Nat, i = .int .i64 k ∧ k ≤ 14 ∧ RowKit.Hid (psgF lv x (psigs.drop k) = psg lv x) ∧ Below w.heap.size w wr) (fun i _ => 14 - (intOf i).toNat)
  case atStart => exact ⟨0, rfl, by omega, Lib.hid rfl, hb1⟩
  case round =>
    clear hb1
    obtain ⟨k, rfl, hk, HN, hbx⟩ := hrel
    by_cases hlt : k < 14
    · have hx := psg_index k hlt
      have hst := psgF_step lv x k hlt HN.out
      clear HN
      generalize (psigs[k]'hlt) = y at hx hst
      obtain ⟨y1, y2, y3⟩ := y
      simp only [] at hx hst
      have HST := Lib.hid hst
      clear hst
      by_cases h1 : (y1 == lv) = true
      · by_cases h2 : (y2.toList == x.toList) = true
        · have HE := Lib.hid (HST.out.1 h1 h2)
          clear HST
          go_wp2_with fail
          go_ret
          exact ⟨by rw [HE.out]; rfl, hbx.alloc hbx.size _⟩
        · have h2' : (y2.toList == x.toList) = false := by simpa using h2
          have HE := Lib.hid (HST.out.2 (.inr h2'))
          clear HST h2
          go_wp2_with fail
          go_roundw
          case rel => exact ⟨k + 1, by go_num, by omega, HE, hbx.alloc hbx.size _⟩
          case measure => (try simp [intOf]); omega
      · have h1' : (y1 == lv) = false := by simpa using h1
        have HE := Lib.hid (HST.out.2 (.inl h1'))
        clear HST h1
        go_wp2_with fail
        go_roundw
        case rel => exact ⟨k + 1, by go_num, by omega, HE, hbx.alloc hbx.size _⟩
        case measure => (try simp [intOf]); omega
    · obtain rfl : k = 14 := by omega
      have HE := Lib.hid (psgF_end lv x HN.out)
      clear HN
      go_wp2_with fail
      go_ret
      exact ⟨by rw [HE.out]; rfl, hbx⟩

end Go.Proofs.YtmmicnjiikiklaaDoor
