/- Plain mathematics on the numbers that LexNumbers writes: what lex gives of each. -/
import Derived.Test.YtaejbjcajilagaaDoorLexPure2
import Derived.Test.YtaejbjcajilagaaDoorRows
import Derived.WalkKit
import Derived.WalkLawsBesides
import Derived.WalkSpells
import Derived.ProofKit
import Derived.Outline
import Derived.Deep.QuietTactic
import Derived.BigQuiet
import Derived.Deep.Light
import Derived.Deep.CutBlock
import Derived.Deep.DeepCutAuto
import Derived.Deep.DeepFit
import Derived.Deep.LoopGhost
import Derived.Lib.Hide
import Derived.Lib.OthersKept
import Derived.IntWalk
import Derived.StillTailTactics
namespace Go.Proofs.YtaejbjcajilagaaDoor
open Go.RowKit
/-- The last digit, as a byte. -/
def digB (k : Nat) : UInt8 := UInt8.ofNat (48 + k % 10)
theorem digB_nat (k : Nat) : ((digB k).toNat : Int) = 48 + (k : Int) % 10 := by unfold digB; simp; omega
/-- A number's digits, ahead of what is there. -/
def numStr : Nat → Nat → ByteArray → ByteArray
  | 0, _, s => s
  | f + 1, k, s => if 0 < k ∨ s.size = 0 then numStr f (k / 10) (⟨#[digB k]⟩ ++ s) else s
def zs : Nat → ByteArray → ByteArray
  | 0, s => s
  | j + 1, s => ⟨#[48]⟩ ++ zs j s
theorem one_size (b : UInt8) (s : ByteArray) : ((⟨#[b]⟩ : ByteArray) ++ s).size = s.size + 1 := by
  rw [cat_size]; show 1 + s.size = _; omega
theorem zs_size (j : Nat) (s : ByteArray) : (zs j s).size = j + s.size := by
  induction j with
  | zero => simp [zs]
  | succ j ih => rw [zs, one_size, ih]; omega
theorem numStr_end (f k : Nat) (s : ByteArray) (h : ¬ (0 < k ∨ s.size = 0)) : numStr f k s = s := by
  cases f with
  | zero => rfl
  | succ f => rw [numStr, if_neg h]
theorem numStr_one (f k : Nat) (s : ByteArray) (h : 0 < k ∨ s.size = 0) : numStr (f + 1) k s = numStr f (k / 10) (⟨#[digB k]⟩ ++ s) := by
  rw [numStr, if_pos h]
/-- The text that is handed in. -/
def numText (n z : Nat) : ByteArray := ⟨#[32]⟩ ++ zs z (numStr 4 n ⟨#[]⟩)
def numChk (n z : Nat) : Bool :=
  let r := toks (numText n z)
  if z = 0 ∧ n ≤ 99 then decide (r.2.2 = 0) && decide (r.1.length = 2) && (match r.1 with | t :: _ => decide (t.n = n) | [] => false)
  else decide (r.1.length = 0) && decide (r.2.1 = 1) && decide (r.2.2 = 2)
def numChks (n : Nat) : Bool := numChk n 0 && numChk n 1 && numChk n 2 && numChk n 3
theorem num_all : (List.range 1001).all numChks = true := by decide +kernel
theorem num_chk (n z : Nat) (hn : n ≤ 1000) (hz : z ≤ 3) : numChk n z = true := by
  have h := List.all_eq_true.1 num_all n (by simp; omega)
  unfold numChks at h
  simp only [Bool.and_eq_true] at h
  match z, hz with
  | 0, _ => exact h.1.1.1
  | 1, _ => exact h.1.1.2
  | 2, _ => exact h.1.2
  | 3, _ => exact h.2
theorem num_yes (n z : Nat) (hn : n ≤ 1000) (hz : z ≤ 3) (h : z = 0 ∧ n ≤ 99) : ∃ t1 t2 at', toks (numText n z) = ([t1, t2], at', 0) ∧ t1.n = n := by
  have hc := num_chk n z hn hz
  unfold numChk at hc
  obtain ⟨⟨l, a, e⟩, hr⟩ : ∃ r, r = toks (numText n z) := ⟨_, rfl⟩
  rw [← hr] at hc ⊢
  simp only [] at hc
  rw [if_pos h] at hc
  simp only [Bool.and_eq_true, decide_eq_true_eq] at hc
  obtain ⟨⟨h1, h2⟩, h3⟩ := hc
  obtain ⟨t1, t2, rfl⟩ : ∃ t1 t2, l = [t1, t2] := by
    rcases l with _ | ⟨t1, _ | ⟨t2, _ | ⟨t3, l⟩⟩⟩
    · simp at h2
    · simp at h2
    · exact ⟨t1, t2, rfl⟩
    · simp at h2
  exact ⟨t1, t2, a, by rw [h1], by simpa using h3⟩
theorem num_no (n z : Nat) (hn : n ≤ 1000) (hz : z ≤ 3) (h : ¬ (z = 0 ∧ n ≤ 99)) : toks (numText n z) = ([], 1, 2) := by
  have hc := num_chk n z hn hz
  unfold numChk at hc
  obtain ⟨⟨l, a, e⟩, hr⟩ : ∃ r, r = toks (numText n z) := ⟨_, rfl⟩
  rw [← hr] at hc ⊢
  simp only [] at hc
  rw [if_neg h] at hc
  simp only [Bool.and_eq_true, decide_eq_true_eq] at hc
  obtain ⟨⟨h1, h2⟩, h3⟩ := hc
  rw [List.eq_nil_of_length_eq_zero h1, h2, h3]
end Go.Proofs.YtaejbjcajilagaaDoor
