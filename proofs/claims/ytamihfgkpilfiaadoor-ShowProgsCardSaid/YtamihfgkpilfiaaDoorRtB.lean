/- The reference of show: sign. -/
import Derived.Test.YtamihfgkpilfiaaDoorRtA
import Derived.Test.YtamihfgkpilfiaaDoorLexA
import Derived.Test.YtamihfgkpilfiaaDoorRows
import Derived.WalkKit
import Derived.WalkLawsBesides
import Derived.WalkSpells
import Derived.ProofKit
import Derived.Outline
import Derived.Deep.QuietTactic
import Derived.BigQuiet
import Derived.Deep.Light
import Derived.Deep.CutBlock
import Derived.Deep.DeepCutAuto
import Derived.Deep.DeepFit
import Derived.Deep.LoopGhost
import Derived.Lib.Hide
import Derived.Lib.OthersKept
import Derived.IntWalk
import Derived.StillTailTactics
namespace Go.Proofs.YtamihfgkpilfiaaDoor
open Go.RowKit
/-! sibylref5.sign. -/
def sgL (op : ByteArray) : List (L8 × L8) → L8
  | [] => op.data.toList
  | (a, b) :: r => if op.toList == a then b else sgL op r
def rsg : List (L8 × L8) := [([97, 110, 100], [38]), ([111, 114], [124]), ([105, 109, 112], [61, 62]), ([105, 102, 102], [60, 61, 62]), ([101, 113], [61]), ([110, 101], [126, 61]), ([108, 116], [60]), ([108, 101], [60, 61])]
theorem sgL_op (op : ByteArray) (h : opF2 op = true ∨ opFr op = true) : opSign op = sgL op rsg := by
  have hm : (op.toList == [109, 105, 110, 117, 115]) = false := by
    unfold opF2 opFr at h
    simp only [Bool.or_eq_true, beq_iff_eq] at h
    rcases h with (((h | h) | h) | h) | ((((((h | h) | h) | h) | h) | h) | h) <;> (rw [h]; decide)
  unfold opSign rsg
  rw [if_neg (c := (op.toList == [109, 105, 110, 117, 115]) = true) (by simp [hm])]
  rfl
abbrev opsC : Array Value := #[.string ⟨#[97, 110, 100]⟩, .string ⟨#[111, 114]⟩, .string ⟨#[105, 109, 112]⟩, .string ⟨#[105, 102, 102]⟩, .string ⟨#[101, 113]⟩, .string ⟨#[110, 101]⟩, .string ⟨#[108, 116]⟩, .string ⟨#[108, 101]⟩]
abbrev sgsC : Array Value := #[.string ⟨#[38]⟩, .string ⟨#[124]⟩, .string ⟨#[61, 62]⟩, .string ⟨#[60, 61, 62]⟩, .string ⟨#[61]⟩, .string ⟨#[126, 61]⟩, .string ⟨#[60]⟩, .string ⟨#[60, 61]⟩]
set_option maxRecDepth 100000 in
set_option maxHeartbeats 4000000 in
theorem rsgn_any (op : ByteArray) (h : opF2 op = true ∨ opFr op = true) (w : World) : Calls Tryd.prog 29 #[.string op] w fun e w' => e = .returned (.string ⟨(opSign op).toArray⟩) ∧ Below w.heap.size w w' := by
  rw [sgL_op op h]
  clear h
  obtain ⟨s, hs⟩ : ∃ s, s = sgL op rsg := ⟨_, rfl⟩
  have HS := Lib.hid hs
  rw [← hs]
  clear hs
  go_enter Tryd.func29, Tryd.ntmps29
  go_wp2
  go_loopw [5] (fun i wr => ∃ k : Nat, i = .int .i64 k ∧ k ≤ 8 ∧ Hid (s = sgL op (rsg.drop k)) ∧ Hid (wr.heap[w.heap.size]? = some (.cells opsC 9)) ∧ Hid (wr.heap[w.heap.size + 1]? = some (.cells sgsC 9)) ∧ Hid (Below w.heap.size w wr)) (fun i _ => 8 - (intOf i).toNat)
  case atStart =>
    refine ⟨0, rfl, by omega, HS, Lib.hid ?_, Lib.hid (second_at w _ _), Lib.hid (two_boxes _ _ _)⟩
    rw [Below.heap_alloc _ _ _ (by simp)]
    exact new_at _ _
  case round =>
    obtain ⟨k, rfl, hk, HE, H1, H2, HB⟩ := hrel
    have hcs : k = 0 ∨ k = 1 ∨ k = 2 ∨ k = 3 ∨ k = 4 ∨ k = 5 ∨ k = 6 ∨ k = 7 ∨ k = 8 := by omega
    clear hk
    rcases hcs with rfl | rfl | rfl | rfl | rfl | rfl | rfl | rfl | rfl
    · have c1 : wr.cell? ⟨w.heap.size, 0, none⟩ = some (.string ⟨#[97, 110, 100]⟩) := by rw [cell_of_row _ _ _ _ _ _ H1.out]; rfl
      have c2 : wr.cell? ⟨w.heap.size + 1, 0, none⟩ = some (.string ⟨#[38]⟩) := by rw [cell_of_row _ _ _ _ _ _ H2.out]; rfl
      have he : s = if (op.toList == [97, 110, 100]) = true then [38] else sgL op (rsg.drop 1) := HE.out
      rcases bool_cases (op.toList == [97, 110, 100]) with hb | hb
      · rw [if_pos hb] at he
        subst he
        have hb' : ([97, 110, 100] == op.toList) = true := by rw [← hb]; exact BEq.comm
        clear HE HS
        go_wp2
        go_ret
        exact ⟨rfl, HB.out⟩
      · rw [if_neg (by simp [hb])] at he
        have hb' : ([97, 110, 100] == op.toList) = false := by rw [← hb]; exact BEq.comm
        have HE2 := Lib.hid he
        clear HE HS he
        go_wp2
        go_roundw
        case rel => exact ⟨1, by go_num, by omega, HE2, H1, H2, HB⟩
        case measure => (try simp [intOf]); try omega
    · have c1 : wr.cell? ⟨w.heap.size, 1, none⟩ = some (.string ⟨#[111, 114]⟩) := by rw [cell_of_row _ _ _ _ _ _ H1.out]; rfl
      have c2 : wr.cell? ⟨w.heap.size + 1, 1, none⟩ = some (.string ⟨#[124]⟩) := by rw [cell_of_row _ _ _ _ _ _ H2.out]; rfl
      have he : s = if (op.toList == [111, 114]) = true then [124] else sgL op (rsg.drop 2) := HE.out
      rcases bool_cases (op.toList == [111, 114]) with hb | hb
      · rw [if_pos hb] at he
        subst he
        have hb' : ([111, 114] == op.toList) = true := by rw [← hb]; exact BEq.comm
        clear HE HS
        go_wp2
        go_ret
        exact ⟨rfl, HB.out⟩
      · rw [if_neg (by simp [hb])] at he
        have hb' : ([111, 114] == op.toList) = false := by rw [← hb]; exact BEq.comm
        have HE2 := Lib.hid he
        clear HE HS he
        go_wp2
        go_roundw
        case rel => exact ⟨2, by go_num, by omega, HE2, H1, H2, HB⟩
        case measure => (try simp [intOf]); try omega
    · have c1 : wr.cell? ⟨w.heap.size, 2, none⟩ = some (.string ⟨#[105, 109, 112]⟩) := by rw [cell_of_row _ _ _ _ _ _ H1.out]; rfl
      have c2 : wr.cell? ⟨w.heap.size + 1, 2, none⟩ = some (.string ⟨#[61, 62]⟩) := by rw [cell_of_row _ _ _ _ _ _ H2.out]; rfl
      have he : s = if (op.toList == [105, 109, 112]) = true then [61, 62] else sgL op (rsg.drop 3) := HE.out
      rcases bool_cases (op.toList == [105, 109, 112]) with hb | hb
      · rw [if_pos hb] at he
        subst he
        have hb' : ([105, 109, 112] == op.toList) = true := by rw [← hb]; exact BEq.comm
        clear HE HS
        go_wp2
        go_ret
        exact ⟨rfl, HB.out⟩
      · rw [if_neg (by simp [hb])] at he
        have hb' : ([105, 109, 112] == op.toList) = false := by rw [← hb]; exact BEq.comm
        have HE2 := Lib.hid he
        clear HE HS he
        go_wp2
        go_roundw
        case rel => exact ⟨3, by go_num, by omega, HE2, H1, H2, HB⟩
        case measure => (try simp [intOf]); try omega
    · have c1 : wr.cell? ⟨w.heap.size, 3, none⟩ = some (.string ⟨#[105, 102, 102]⟩) := by rw [cell_of_row _ _ _ _ _ _ H1.out]; rfl
      have c2 : wr.cell? ⟨w.heap.size + 1, 3, none⟩ = some (.string ⟨#[60, 61, 62]⟩) := by rw [cell_of_row _ _ _ _ _ _ H2.out]; rfl
      have he : s = if (op.toList == [105, 102, 102]) = true then [60, 61, 62] else sgL op (rsg.drop 4) := HE.out
      rcases bool_cases (op.toList == [105, 102, 102]) with hb | hb
      · rw [if_pos hb] at he
        subst he
        have hb' : ([105, 102, 102] == op.toList) = true := by rw [← hb]; exact BEq.comm
        clear HE HS
        go_wp2
        go_ret
        exact ⟨rfl, HB.out⟩
      · rw [if_neg (by simp [hb])] at he
        have hb' : ([105, 102, 102] == op.toList) = false := by rw [← hb]; exact BEq.comm
        have HE2 := Lib.hid he
        clear HE HS he
        go_wp2
        go_roundw
        case rel => exact ⟨4, by go_num, by omega, HE2, H1, H2, HB⟩
        case measure => (try simp [intOf]); try omega
    · have c1 : wr.cell? ⟨w.heap.size, 4, none⟩ = some (.string ⟨#[101, 113]⟩) := by rw [cell_of_row _ _ _ _ _ _ H1.out]; rfl
      have c2 : wr.cell? ⟨w.heap.size + 1, 4, none⟩ = some (.string ⟨#[61]⟩) := by rw [cell_of_row _ _ _ _ _ _ H2.out]; rfl
      have he : s = if (op.toList == [101, 113]) = true then [61] else sgL op (rsg.drop 5) := HE.out
      rcases bool_cases (op.toList == [101, 113]) with hb | hb
      · rw [if_pos hb] at he
        subst he
        have hb' : ([101, 113] == op.toList) = true := by rw [← hb]; exact BEq.comm
        clear HE HS
        go_wp2
        go_ret
        exact ⟨rfl, HB.out⟩
      · rw [if_neg (by simp [hb])] at he
        have hb' : ([101, 113] == op.toList) = false := by rw [← hb]; exact BEq.comm
        have HE2 := Lib.hid he
        clear HE HS he
        go_wp2
        go_roundw
        case rel => exact ⟨5, by go_num, by omega, HE2, H1, H2, HB⟩
        case measure => (try simp [intOf]); try omega
    · have c1 : wr.cell? ⟨w.heap.size, 5, none⟩ = some (.string ⟨#[110, 101]⟩) := by rw [cell_of_row _ _ _ _ _ _ H1.out]; rfl
      have c2 : wr.cell? ⟨w.heap.size + 1, 5, none⟩ = some (.string ⟨#[126, 61]⟩) := by rw [cell_of_row _ _ _ _ _ _ H2.out]; rfl
      have he : s = if (op.toList == [110, 101]) = true then [126, 61] else sgL op (rsg.drop 6) := HE.out
      rcases bool_cases (op.toList == [110, 101]) with hb | hb
      · rw [if_pos hb] at he
        subst he
        have hb' : ([110, 101] == op.toList) = true := by rw [← hb]; exact BEq.comm
        clear HE HS
        go_wp2
        go_ret
        exact ⟨rfl, HB.out⟩
      · rw [if_neg (by simp [hb])] at he
        have hb' : ([110, 101] == op.toList) = false := by rw [← hb]; exact BEq.comm
        have HE2 := Lib.hid he
        clear HE HS he
        go_wp2
        go_roundw
        case rel => exact ⟨6, by go_num, by omega, HE2, H1, H2, HB⟩
        case measure => (try simp [intOf]); try omega
    · have c1 : wr.cell? ⟨w.heap.size, 6, none⟩ = some (.string ⟨#[108, 116]⟩) := by rw [cell_of_row _ _ _ _ _ _ H1.out]; rfl
      have c2 : wr.cell? ⟨w.heap.size + 1, 6, none⟩ = some (.string ⟨#[60]⟩) := by rw [cell_of_row _ _ _ _ _ _ H2.out]; rfl
      have he : s = if (op.toList == [108, 116]) = true then [60] else sgL op (rsg.drop 7) := HE.out
      rcases bool_cases (op.toList == [108, 116]) with hb | hb
      · rw [if_pos hb] at he
        subst he
        have hb' : ([108, 116] == op.toList) = true := by rw [← hb]; exact BEq.comm
        clear HE HS
        go_wp2
        go_ret
        exact ⟨rfl, HB.out⟩
      · rw [if_neg (by simp [hb])] at he
        have hb' : ([108, 116] == op.toList) = false := by rw [← hb]; exact BEq.comm
        have HE2 := Lib.hid he
        clear HE HS he
        go_wp2
        go_roundw
        case rel => exact ⟨7, by go_num, by omega, HE2, H1, H2, HB⟩
        case measure => (try simp [intOf]); try omega
    · have c1 : wr.cell? ⟨w.heap.size, 7, none⟩ = some (.string ⟨#[108, 101]⟩) := by rw [cell_of_row _ _ _ _ _ _ H1.out]; rfl
      have c2 : wr.cell? ⟨w.heap.size + 1, 7, none⟩ = some (.string ⟨#[60, 61]⟩) := by rw [cell_of_row _ _ _ _ _ _ H2.out]; rfl
      have he : s = if (op.toList == [108, 101]) = true then [60, 61] else sgL op (rsg.drop 8) := HE.out
      rcases bool_cases (op.toList == [108, 101]) with hb | hb
      · rw [if_pos hb] at he
        subst he
        have hb' : ([108, 101] == op.toList) = true := by rw [← hb]; exact BEq.comm
        clear HE HS
        go_wp2
        go_ret
        exact ⟨rfl, HB.out⟩
      · rw [if_neg (by simp [hb])] at he
        have hb' : ([108, 101] == op.toList) = false := by rw [← hb]; exact BEq.comm
        have HE2 := Lib.hid he
        clear HE HS he
        go_wp2
        go_roundw
        case rel => exact ⟨8, by go_num, by omega, HE2, H1, H2, HB⟩
        case measure => (try simp [intOf]); try omega
    · have he : s = op.data.toList := HE.out
      subst he
      clear HE HS
      go_wp2
      go_ret
      exact ⟨by rw [Lib.mk_data]; rfl, HB.out⟩
end Go.Proofs.YtamihfgkpilfiaaDoor
