/- Plain mathematics on the texts that LexLong writes: names of Greek letters, blanks. -/
import Derived.Test.YtaejbjcajilagaaDoorLexPure2
import Derived.Test.YtaejbjcajilagaaDoorRows
import Derived.WalkKit
import Derived.WalkLawsBesides
import Derived.WalkSpells
import Derived.ProofKit
import Derived.Outline
import Derived.Deep.QuietTactic
import Derived.BigQuiet
import Derived.Deep.Light
import Derived.Deep.CutBlock
import Derived.Deep.DeepCutAuto
import Derived.Deep.DeepFit
import Derived.Deep.LoopGhost
import Derived.Lib.Hide
import Derived.Lib.OthersKept
import Derived.IntWalk
import Derived.StillTailTactics
namespace Go.Proofs.YtaejbjcajilagaaDoor
open Go.RowKit
def al : Nat → ByteArray
  | 0 => ⟨#[]⟩
  | k + 1 => al k ++ ⟨#[206, 177]⟩
theorem al_size (k : Nat) : (al k).size = 2 * k := by
  induction k with
  | zero => rfl
  | succ k ih => rw [al, cat_size, ih]; show 2 * k + 2 = _; omega
theorem al_toks : ∀ n : Fin 21, 1 ≤ n.1 → (n.1 ≤ 12 → toks (al n.1) = ([⟨1, al n.1, 0, 0⟩, ⟨4, ⟨#[]⟩, 0, ((al n.1).size : Int)⟩], ((al n.1).size : Int), 0)) ∧ (12 < n.1 → toks (al n.1) = ([], 0, 2)) := by decide +kernel
def bl (m : Nat) : ByteArray := ⟨(List.replicate m (32 : UInt8)).toArray⟩
theorem bl_size (m : Nat) : (bl m).size = m := by rw [Lib.size_eq]; simp [bl]
theorem bl_get (m k : Nat) (h : k < m) : (bl m).get! k = 32 := by
  rw [← Lib.getD_get!']
  simp [bl, List.getD_eq_getElem?_getD, h]
theorem bl_each (m : Nat) : ∀ (b pos : Nat), (eachF (bl m) b pos).2 = -1 ∧ ∀ q ∈ (eachF (bl m) b pos).1, q.1 = 32 := by
  intro b
  induction b with
  | zero => intro pos; exact ⟨rfl, by simp [eachF]⟩
  | succ b ih =>
    intro pos
    by_cases hp : pos < (bl m).size
    · have hd := ascii_byte (bl m) pos (by rw [bl_get m pos (by rw [bl_size] at hp; exact hp)]; decide)
      rw [bl_get m pos (by rw [bl_size] at hp; exact hp)] at hd
      have hb : ¬ badAt (bl m) pos := by unfold badAt; rw [hd]; intro h; exact absurd h.1 (by decide)
      rw [eachF_one _ _ _ hp hb, hd]
      refine ⟨(ih _).1, ?_⟩
      intro q hq
      rcases List.mem_cons.1 hq with rfl | hq
      · rfl
      · exact (ih _).2 q hq
    · rw [eachF_end _ _ _ hp]; exact ⟨rfl, by simp⟩
theorem cnt_full (p : Int → Bool) : ∀ (L : RL), (∀ q ∈ L, p q.1 = true) → cnt p L = L.length := by
  intro L
  induction L with
  | nil => intro _; rfl
  | cons q L ih =>
    intro h
    rw [cnt_pos (h q (List.mem_cons_self ..)), ih (fun a ha => h a (List.mem_cons_of_mem _ ha))]
    rfl
theorem lexL_past (s : ByteArray) (e : Int) (L : RL) (h : srt e L) : lexL s e L e = ([], none) := by
  have := lexL_drop s e L L.length h
  rw [List.drop_length] at this
  exact this
theorem bl_lex (m : Nat) : lexT (bl m) = ([], none) := by
  unfold lexT
  have h := bl_each m (bl m).size 0
  have e : eachF (bl m) (bl m).size 0 = each (bl m) := rfl
  have hs := eachF_srt (bl m) (bl m).size 0 (by omega)
  have ha := each_at (bl m)
  rw [e] at h hs
  generalize (each (bl m)).1 = L at h hs ha ⊢
  cases L with
  | nil => rfl
  | cons q L =>
    have hq := h.2 q (List.mem_cons_self ..)
    have hq0 := ha q (List.mem_cons_self ..)
    have hsp : spB 32 = true := by decide +kernel
    have hc : cnt spB (q :: L) = (q :: L).length := cnt_full _ _ (fun a ha => by rw [h.2 a ha]; exact hsp)
    have hst : stepL (bl m) (endOf (bl m) (each (bl m)).2) (q :: L) = some (none, (q :: L).length) := by
      rw [stepL, if_pos (by rw [hq]; decide +kernel), hc]
    rw [lexL, if_neg (by omega), hst]
    simp only [List.drop_length, posOf, Option.toList, List.nil_append]
    rw [lexL_past _ _ _ hs.2]
theorem bl_toks (m : Nat) : toks (bl m) = if m ≤ 2000 then ([⟨4, ⟨#[]⟩, 0, (m : Int)⟩], (m : Int), 0) else ([], 0, 3) := by
  unfold toks
  rw [bl_size, bl_lex]
  have h : (each (bl m)).2 = -1 := (bl_each m (bl m).size 0).1
  simp only [h, if_true, List.nil_append]
end Go.Proofs.YtaejbjcajilagaaDoor
