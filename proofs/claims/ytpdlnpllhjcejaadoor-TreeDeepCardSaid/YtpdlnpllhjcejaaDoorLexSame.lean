/- What same answers of two slices that hold the same tokens: true. -/
import Derived.Test.YtpdlnpllhjcejaaDoorLexToks
import Derived.Test.YtpdlnpllhjcejaaDoorLexPure2
import Derived.Test.YtpdlnpllhjcejaaDoorRows
import Derived.WalkKit
import Derived.WalkLawsBesides
import Derived.WalkSpells
import Derived.ProofKit
import Derived.Outline
import Derived.Deep.QuietTactic
import Derived.BigQuiet
import Derived.Deep.Light
import Derived.Deep.CutBlock
import Derived.Deep.DeepCutAuto
import Derived.Deep.DeepFit
import Derived.Deep.LoopGhost
import Derived.Lib.Hide
import Derived.Lib.OthersKept
import Derived.IntWalk
namespace Go.Proofs.YtpdlnpllhjcejaaDoor
open Go.RowKit
theorem below_drewN {B : Nat} {a w : World} (h : Below B a w) (n : Nat) : Below B a (w.drewN n) := h.trans ⟨rfl, rfl, rfl, Nat.le_refl _, fun _ _ => rfl⟩
theorem cellsTok : Tryd.prog.cellsOf 30 = 4 := by kernel_rfl
theorem flatT_get (l : List Tok) (i : Nat) (h : i < l.length) : (flatT l)[i * 4]? = some (.int .i64 (l[i]'h).kind) ∧ (flatT l)[i * 4 + 1]? = some (.string (l[i]'h).text) ∧ (flatT l)[i * 4 + 2]? = some (.int .i64 (l[i]'h).n) ∧ (flatT l)[i * 4 + 3]? = some (.int .i64 (l[i]'h).pos) := by
  induction l generalizing i with
  | nil => simp at h
  | cons q l ih =>
    cases i with
    | zero => exact ⟨rfl, rfl, rfl, rfl⟩
    | succ i =>
      have := ih i (by simpa using h)
      simp only [Nat.succ_mul]
      simpa [flatT] using this
/-- A slice of tokens, as the walk sees it. -/
theorem tok_slice {w : World} {B : Nat} {v : Value} {l : List Tok} (h : w.ownsRow B 30 4 v l.length (flatT l)) : ∃ a cap, v = .slice a l.length cap ∧ (l ≠ [] → ∃ g, a = some ⟨g, 0, none⟩) := by
  rcases h.2 with ⟨rfl, h0⟩ | ⟨g, cap, cur, rfl, _⟩
  · exact ⟨none, 0, by rw [h0], fun hn => (hn (List.eq_nil_of_length_eq_zero h0)).elim⟩
  · exact ⟨_, cap, rfl, fun _ => ⟨g, rfl⟩⟩
set_option maxRecDepth 100000 in
set_option maxHeartbeats 2000000 in
theorem same_any (l : List Tok) (B1 B2 : Nat) (v1 v2 : Value) (w : World) (hln : l.length ≤ 100000) (hown1 : w.ownsRow B1 30 4 v1 l.length (flatT l)) (hown2 : w.ownsRow B2 30 4 v2 l.length (flatT l)) :
    Calls Tryd.prog 13 #[v1, v2] w fun e w' => e = .returned (.bool true) ∧ Below w.heap.size w w' := by
  have c26 := cellsTok
  obtain ⟨a1, cp1, rfl, hs1⟩ := tok_slice hown1
  obtain ⟨a2, cp2, rfl, hs2⟩ := tok_slice hown2
  have e2 : ((l.length : Int) == (l.length : Int)) = true := by simp
  have e3 : ((l.length : Int) != (l.length : Int)) = false := by simp
  go_enter Tryd.func13, Tryd.ntmps13
  go_wp2
  go_loopw [5] (fun i wr => ∃ k : Nat, i = .int .i64 k ∧ k ≤ l.length ∧ Below w.heap.size w wr) (fun i _ => l.length - (intOf i).toNat)
  case atStart => exact ⟨0, rfl, by omega, Below.refl _ _⟩
  case round =>
    obtain ⟨k, rfl, hk, hbx⟩ := hrel
    by_cases hkl : k < l.length
    · have hne : l ≠ [] := by intro h; rw [h] at hkl; simp at hkl
      obtain ⟨g1, rfl⟩ := hs1 hne
      obtain ⟨g2, rfl⟩ := hs2 hne
      have hownA := own_below hown1 hbx
      have hownB := own_below hown2 hbx
      have hg := flatT_get l k hkl
      have c10 := (hownA.cellAt (k * 4) (by omega)).trans hg.1
      have c11 := (hownA.cellAt (k * 4 + 1) (by omega)).trans hg.2.1
      have c12 := (hownA.cellAt (k * 4 + 2) (by omega)).trans hg.2.2.1
      have c13 := (hownA.cellAt (k * 4 + 3) (by omega)).trans hg.2.2.2
      have c20 := (hownB.cellAt (k * 4) (by omega)).trans hg.1
      have c21 := (hownB.cellAt (k * 4 + 1) (by omega)).trans hg.2.1
      have c22 := (hownB.cellAt (k * 4 + 2) (by omega)).trans hg.2.2.1
      have c23 := (hownB.cellAt (k * 4 + 3) (by omega)).trans hg.2.2.2
      generalize l[k] = p at c10 c11 c12 c13 c20 c21 c22 c23
      obtain ⟨kd, tx, nn, po⟩ := p
      clear hownA hownB hown1 hown2 hg hs1 hs2
      simp only [] at c10 c11 c12 c13 c20 c21 c22 c23
      go_wp2
      go_quiet (fail)
      go_wp2
      go_roundw
      case rel => exact ⟨k + 1, by go_num, by omega, below_drewN hbx _⟩
      case measure => simp [intOf]; omega
    · clear hs1 hs2
      go_wp2
      go_ret
      exact ⟨rfl, hbx⟩
end Go.Proofs.YtpdlnpllhjcejaaDoor
