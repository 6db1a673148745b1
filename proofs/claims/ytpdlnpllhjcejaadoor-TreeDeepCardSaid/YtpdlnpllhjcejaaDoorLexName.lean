/- What lex.nameOrWord answers of a text of runes: a name or a word, in new memory, if it has no more than twelve. Condition: the tables stand as laid. -/
import Derived.Test.YtpdlnpllhjcejaaDoorLexWds
import Derived.Test.YtpdlnpllhjcejaaDoorLexPure2
import Derived.Test.YtpdlnpllhjcejaaDoorRows
import Derived.WalkKit
import Derived.WalkLawsBesides
import Derived.WalkSpells
import Derived.ProofKit
import Derived.Outline
import Derived.Deep.QuietTactic
import Derived.BigQuiet
import Derived.Deep.Light
import Derived.Deep.CutBlock
import Derived.Deep.DeepCutAuto
import Derived.Deep.DeepFit
import Derived.Deep.LoopGhost
import Derived.Lib.Hide
import Derived.Lib.OthersKept
import Derived.IntWalk
namespace Go.Proofs.YtpdlnpllhjcejaaDoor
open Go.RowKit
theorem bcell {W w1 : World} (hb : Below W.heap.size W w1) : (∀ b o, b < W.heap.size → w1.cell? ⟨b, o, none⟩ = W.cell? ⟨b, o, none⟩) ∧ (∀ b o, b < W.heap.size → w1.frozen? ⟨b, o, none⟩ = W.frozen? ⟨b, o, none⟩) :=
  ⟨fun b o h => hb.cell (p := ⟨b, o, none⟩) h, fun b o h => hb.frozen (p := ⟨b, o, none⟩) h⟩
theorem count_any (s : ByteArray) (n : Nat) (w : World) (hs : s.size ≤ 1000000) (h : (each s).2 = -1) (hn : (each s).1.length = n) :
    Calls Tryd.prog 84 #[.string s] w fun e w' => e = .returned (.int .i64 n) ∧ Below w.heap.size w w' := by
  refine (Tryd.utf8_RuneCountInString s w (by omega)).mono ?_
  rintro e w' ⟨rfl, pos, rfl⟩
  refine ⟨?_, (Below.refl _ _).alloc (Nat.le_refl _) _⟩
  rw [show Lib.runeCount s = n by rw [← hn]; exact runeCount_each s s.size 0 (by omega) h]
set_option maxHeartbeats 400000 in
theorem clone_any (s : ByteArray) (w : World) (hs : s.size ≤ 1000000) :
    Calls Tryd.prog 87 #[.string s] w fun e w' => e = .returned (.string s) ∧ Below w.heap.size w w' := by
  go_enter Tryd.func87, Tryd.ntmps87
  go_wp2_with (go_at_call 92; refine (Tryd.stringslite_Clone _ _ (by omega)).mono ?_; rintro e w' ⟨rfl, hb⟩)
  go_ret
  exact ⟨rfl, by assumption⟩
/-- Whether the words have a text, as the program asks it. -/
theorem words_has (t : ByteArray) : Lib.containsS wrds t = isWrd t := by
  rw [Bool.eq_iff_iff, Lib.containsS_iff]
  unfold isWrd
  rw [List.any_eq_true]
  constructor
  · intro h; exact ⟨t, h, by simp⟩
  · rintro ⟨x, hx, he⟩
    rw [beq_iff_eq] at he
    obtain rfl : x = t := ByteArray.ext (Array.ext' he)
    exact hx
theorem has_any (t : ByteArray) (b : Nat) (w : World) (hc : ∀ j, j < 17 → w.cell? ⟨b, j, none⟩ = some (.string (wrds.getD j ByteArray.empty))) :
    Calls Tryd.prog 85 #[wrdsV b, .string t] w fun e w' => e = .returned (.bool (isWrd t)) ∧ w = w' := by
  have c := Tryd.slices_Contains_string b 0 17 17 wrds t w (by decide) (by decide) (fun j hj => by rw [Nat.zero_add]; exact hc j hj)
  rw [show wrds.take 17 = wrds from rfl, words_has] at c
  refine c.mono ?_
  rintro e w' ⟨rfl, rfl⟩
  exact ⟨rfl, rfl⟩
theorem wrds_cells (w : World) : ∀ j, j < 17 → (w.alloc (.cells wrdsCells 9)).cell? ⟨w.heap.size, j, none⟩ = some (.string (wrds.getD j ByteArray.empty)) := by
  intro j hj
  rw [cell_of_row (w.alloc (.cells wrdsCells 9)) w.heap.size j wrdsCells 9 (0, 0) (by show (w.heap.push _)[w.heap.size]? = _; simp)]
  unfold wrdsCells
  simp only [List.getElem?_toArray, List.getElem?_map]
  rw [List.getElem?_eq_getElem (show j < wrds.length from hj), List.getD_eq_getElem?_getD, List.getElem?_eq_getElem (show j < wrds.length from hj)]
  rfl
set_option maxHeartbeats 1000000 in
theorem name_big (s : ByteArray) (n : Nat) (w : World) (hs : s.size ≤ 1000000) (h : (each s).2 = -1) (hn : (each s).1.length = n) (h12 : 12 < n) :
    Calls Tryd.prog 65 #[.string s] w fun e w' => e = .returned (.tuple #[.agg #[.int .i64 0, .string ⟨#[]⟩, .int .i64 0, .int .i64 0], .bool false]) ∧ Below w.heap.size w w' := by
  have HE := Lib.hid h
  have HN := Lib.hid hn
  clear h hn
  go_enter Tryd.func65, Tryd.ntmps65
  go_wp2_with fail
  refine (count_any _ n _ hs HE.out HN.out).mono ?_
  rintro e w1 ⟨rfl, hb⟩
  obtain ⟨hc, hf⟩ := bcell hb
  have hz : w.heap.size < w1.heap.size := by have := hb.size; simp at this; omega
  have h12' : (12 : Int) < (n : Int) := by omega
  go_wp2
  exact bodyPost_ret (v := .tuple #[.agg #[.int .i64 0, .string ⟨#[]⟩, .int .i64 0, .int .i64 0], .bool false]) (by simp [results, Tryd.results65, go_sem, hc]) rfl
    ⟨rfl, ((((((Below.refl _ _).alloc (Nat.le_refl _) _).trans (hb.mono (by simp))).setCell (by simp) _).setCell (by simp) _).setCell (by simp) _).setCell (by simp) _⟩

set_option maxHeartbeats 2000000 in
theorem name_ok (s : ByteArray) (n : Nat) (w : World) (hT : LTabs w) (hs : s.size ≤ 1000000) (h : (each s).2 = -1) (hn : (each s).1.length = n) (h12 : n ≤ 12) :
    Calls Tryd.prog 65 #[.string s] w fun e w' => e = .returned (.tuple #[.agg #[.int .i64 (if isWrd s then 3 else 1), .string s, .int .i64 0, .int .i64 0], .bool true]) ∧ Below w.heap.size w w' := by
  have HE := Lib.hid h
  have HN := Lib.hid hn
  clear h hn
  have hq : (isWrd s = true ∧ (if isWrd s then (3 : Int) else 1) = 3) ∨ (isWrd s = false ∧ (if isWrd s then (3 : Int) else 1) = 1) := by cases isWrd s <;> simp
  rcases hq with ⟨hq, hv⟩ | ⟨hq, hv⟩
  all_goals
    rw [hv]
    clear hv
    go_enter Tryd.func65, Tryd.ntmps65
    go_wp2_with fail
    refine (count_any _ n _ hs HE.out HN.out).mono ?_
    rintro e w1 ⟨rfl, hb⟩
    have hb0 : Below w.heap.size w w1 := ((Below.refl _ _).alloc (Nat.le_refl _) _).trans (hb.mono (by simp))
    obtain ⟨hc, hf⟩ := bcell hb
    have hz : w.heap.size < w1.heap.size := by have := hb.size; simp at this; omega
    have h12' : (n : Int) ≤ (12 : Int) := by omega
    have hT1 := hT.below hb0
    go_wp2_with fail
    refine (words_any _ hT1.sp).mono ?_
    rintro e w2 ⟨rfl, rfl⟩
    go_wp2_with fail
    refine (has_any _ _ _ (wrds_cells w1)).mono ?_
    rintro e w' ⟨rfl, rfl⟩
    go_wp2_with fail
    refine (clone_any _ _ hs).mono ?_
    rintro e w3 ⟨rfl, hb3⟩
    obtain ⟨hc3, hf3⟩ := bcell hb3
    have hz3 : w1.heap.size + 1 ≤ w3.heap.size := by have := hb3.size; simp at this; omega
    have hz4 : w.heap.size < w3.heap.size := by omega
    have hz5 : w.heap.size < w1.heap.size + 1 := by omega
    go_wp2
    exact bodyPost_ret (v := .tuple #[.agg #[_, .string s, .int .i64 0, .int .i64 0], .bool true]) (by simp [results, Tryd.results65, go_sem, hc, hz, hc3, hz5]) rfl
      ⟨rfl, (((((hb0.alloc (by omega) _).trans (hb3.mono (by simp; omega))).setCell (by simp) _).setCell (by simp) _).setCell (by simp) _).setCell (by simp) _⟩
end Go.Proofs.YtpdlnpllhjcejaaDoor
