/- What lex.sign answers: the first sign of the list that a text of runes begins with, or nothing. Condition: the list of the signs stands as laid. -/
import Derived.Test.YtmmicnjiikiklaaDoorLexB
import Derived.Test.YtmmicnjiikiklaaDoorLexA
import Derived.Test.YtmmicnjiikiklaaDoorRows
import Derived.WalkKit
import Derived.WalkLawsBesides
import Derived.WalkSpells
import Derived.ProofKit
import Derived.Outline
import Derived.Deep.QuietTactic
import Derived.BigQuiet
import Derived.Deep.Light
import Derived.Deep.CutBlock
import Derived.Deep.DeepCutAuto
import Derived.Deep.DeepFit
import Derived.Deep.LoopGhost
import Derived.Lib.Hide
import Derived.Lib.OthersKept
import Derived.IntWalk
namespace Go.Proofs.YtmmicnjiikiklaaDoor
open Go.RowKit
/-- The sign that a text begins with, or nothing. -/
def signOf (s : ByteArray) : ByteArray := (sigL (each s).1).getD ⟨#[]⟩
/-- None of the first k signs stands there. -/
def noSig (s : ByteArray) (k : Nat) : Prop := sigF (sigs.drop k) (each s).1 = sigL (each s).1
theorem noSig_start (s : ByteArray) : noSig s 0 := rfl
theorem noSig_step (s : ByteArray) (k : Nat) (hk : k < 18) (h : noSig s k) : (rpre (sigs[k]'hk).data.toList (each s).1 = true → signOf s = sigs[k]'hk) ∧ (rpre (sigs[k]'hk).data.toList (each s).1 = false → noSig s (k + 1)) := by
  unfold noSig at h ⊢
  have hd : sigs.drop k = sigs[k]'hk :: sigs.drop (k + 1) := List.drop_eq_getElem_cons hk
  rw [hd] at h
  unfold sigF at h
  constructor
  · intro h1
    rw [if_pos h1] at h
    unfold signOf
    rw [← h]; rfl
  · intro h1
    rw [if_neg (by rw [h1]; decide)] at h
    exact h
theorem noSig_end (s : ByteArray) (k : Nat) (hk : ¬ k < 18) (h : noSig s k) : signOf s = ⟨#[]⟩ := by
  unfold noSig at h
  rw [List.drop_of_length_le (by show sigs.length ≤ k; exact Nat.not_lt.1 hk)] at h
  unfold signOf
  rw [← h]; rfl
theorem run_index_sig (w : World) (cs : Array Value) (k : Nat) (v : Value) (hk : k < 18) (h : cs[k]? = some v) : (Instr.index 106 (.agg cs) (.int .i64 k)).run Tryd.prog w = .ok v w := by
  have h1 : (0 : Int) ≤ (k : Int) ∧ (k : Int) < (18 : Int) := by omega
  have h2 : (k : Int).toNat = k := by omega
  simp [Instr.index, asIntOf, run_underlying Tryd.underlying106, Tryd.sizeOf9, Tryd.isAgg9, part, h1, h2, h, go_sem]
  intro h18
  omega
theorem str_is {a b : ByteArray} (h : a = b) : Ending.returned (.string b) = .returned (.string a) := by rw [h]
set_option maxRecDepth 100000 in
set_option maxHeartbeats 1000000 in
theorem sign_any (s : ByteArray) (w : World) (hT : LTabs w) (h : (each s).2 = -1) :
    Calls Tryd.prog 66 #[.string s] w fun e w' => e = .returned (.string (signOf s)) ∧ w = w' := by
  obtain ⟨t, f, hl⟩ := hT.at
  have HP := Lib.hid (fun (k : Nat) (hk : k < 18) => hasPrefix_rpre s (sigs[k]'hk).data.toList (sigs_ascii _ (List.getElem_mem _)) s.size 0 (by omega) h)
  have c0 := (cell_of_row w 0 0 _ t f hl).trans (show _ = some (Value.string ⟨#[60, 61, 62]⟩) from rfl)
  have c1 := (cell_of_row w 0 1 _ t f hl).trans (show _ = some (Value.string ⟨#[61, 62]⟩) from rfl)
  have c2 := (cell_of_row w 0 2 _ t f hl).trans (show _ = some (Value.string ⟨#[60, 61]⟩) from rfl)
  have c3 := (cell_of_row w 0 3 _ t f hl).trans (show _ = some (Value.string ⟨#[126, 61]⟩) from rfl)
  have c4 := (cell_of_row w 0 4 _ t f hl).trans (show _ = some (Value.string ⟨#[61]⟩) from rfl)
  have c5 := (cell_of_row w 0 5 _ t f hl).trans (show _ = some (Value.string ⟨#[126]⟩) from rfl)
  have c6 := (cell_of_row w 0 6 _ t f hl).trans (show _ = some (Value.string ⟨#[60]⟩) from rfl)
  have c7 := (cell_of_row w 0 7 _ t f hl).trans (show _ = some (Value.string ⟨#[38]⟩) from rfl)
  have c8 := (cell_of_row w 0 8 _ t f hl).trans (show _ = some (Value.string ⟨#[124]⟩) from rfl)
  have c9 := (cell_of_row w 0 9 _ t f hl).trans (show _ = some (Value.string ⟨#[40]⟩) from rfl)
  have c10 := (cell_of_row w 0 10 _ t f hl).trans (show _ = some (Value.string ⟨#[41]⟩) from rfl)
  have c11 := (cell_of_row w 0 11 _ t f hl).trans (show _ = some (Value.string ⟨#[123]⟩) from rfl)
  have c12 := (cell_of_row w 0 12 _ t f hl).trans (show _ = some (Value.string ⟨#[125]⟩) from rfl)
  have c13 := (cell_of_row w 0 13 _ t f hl).trans (show _ = some (Value.string ⟨#[44]⟩) from rfl)
  have c14 := (cell_of_row w 0 14 _ t f hl).trans (show _ = some (Value.string ⟨#[59]⟩) from rfl)
  have c15 := (cell_of_row w 0 15 _ t f hl).trans (show _ = some (Value.string ⟨#[58]⟩) from rfl)
  have c16 := (cell_of_row w 0 16 _ t f hl).trans (show _ = some (Value.string ⟨#[43]⟩) from rfl)
  have c17 := (cell_of_row w 0 17 _ t f hl).trans (show _ = some (Value.string ⟨#[92]⟩) from rfl)
  have hat : ∀ k (hk : k < 18), (#[.string ⟨#[60, 61, 62]⟩, .string ⟨#[61, 62]⟩, .string ⟨#[60, 61]⟩, .string ⟨#[126, 61]⟩, .string ⟨#[61]⟩, .string ⟨#[126]⟩, .string ⟨#[60]⟩, .string ⟨#[38]⟩, .string ⟨#[124]⟩, .string ⟨#[40]⟩, .string ⟨#[41]⟩, .string ⟨#[123]⟩, .string ⟨#[125]⟩, .string ⟨#[44]⟩, .string ⟨#[59]⟩, .string ⟨#[58]⟩, .string ⟨#[43]⟩, .string ⟨#[92]⟩] : Array Value)[k]? = some (.string (sigs[k]'hk)) := by
    intro k hk
    have e : (#[.string ⟨#[60, 61, 62]⟩, .string ⟨#[61, 62]⟩, .string ⟨#[60, 61]⟩, .string ⟨#[126, 61]⟩, .string ⟨#[61]⟩, .string ⟨#[126]⟩, .string ⟨#[60]⟩, .string ⟨#[38]⟩, .string ⟨#[124]⟩, .string ⟨#[40]⟩, .string ⟨#[41]⟩, .string ⟨#[123]⟩, .string ⟨#[125]⟩, .string ⟨#[44]⟩, .string ⟨#[59]⟩, .string ⟨#[58]⟩, .string ⟨#[43]⟩, .string ⟨#[92]⟩] : Array Value) = (sigs.map Value.string).toArray := rfl
    rw [e, List.getElem?_toArray, List.getElem?_map, List.getElem?_eq_getElem hk]; rfl
  have HAt := Lib.hid hat
  clear h hT hl hat
  go_enter Tryd.func66, Tryd.ntmps66
  go_wp2
  go_loop [6] (fun i => ∃ k : Nat, i = .int .i64 k ∧ k ≤ 18 ∧ Hid (noSig s k)) (fun i => 18 - (intOf i).toNat)
  case atStart => exact ⟨0, rfl, by omega, noSig_start s⟩
  case round =>
    obtain ⟨k, rfl, hk, HN⟩ := hrel
    clear c0 c1 c2 c3 c4 c5 c6 c7 c8 c9 c10 c11 c12 c13 c14 c15 c16 c17
    by_cases hlt : k < 18
    · have hx : ∀ wr, (Instr.index 106 _ (.int .i64 k)).run Tryd.prog wr = _ := fun wr => run_index_sig wr _ k _ hlt (HAt.out k hlt)
      have hst := noSig_step s k hlt HN.out
      have hpk : Lib.hasPrefix s.data.toList (sigs[k]'hlt).data.toList = rpre (sigs[k]'hlt).data.toList (each s).1 := HP.out k hlt
      clear HN
      generalize (sigs[k]'hlt) = x at hx hst hpk
      by_cases hr : rpre x.data.toList (each s).1 = true
      · rw [hr] at hpk
        have HE := Lib.hid (hst.1 hr)
        clear hst hr
        go_wp2_with (go_at_call 88; refine (Tryd.strings_HasPrefix _ _ _).mono ?_; rintro e w' ⟨rfl, rfl⟩)
        go_ret
        exact ⟨str_is HE.out, rfl⟩
      · simp only [Bool.not_eq_true] at hr
        rw [hr] at hpk
        have HE := Lib.hid (hst.2 hr)
        clear hst hr
        go_wp2_with (go_at_call 88; refine (Tryd.strings_HasPrefix _ _ _).mono ?_; rintro e w' ⟨rfl, rfl⟩)
        go_round
        case rel => exact ⟨k + 1, by go_num, by omega, HE.out⟩
        case measure => simp [intOf]; omega
    · have HE := Lib.hid (noSig_end s k hlt HN.out)
      clear HN
      go_wp2
      go_ret
      exact ⟨str_is HE.out, rfl⟩
end Go.Proofs.YtmmicnjiikiklaaDoor
