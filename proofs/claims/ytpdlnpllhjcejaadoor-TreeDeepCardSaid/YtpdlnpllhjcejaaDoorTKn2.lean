/- known of the laws of trees answers true. -/
import Derived.Test.YtpdlnpllhjcejaaDoorTKnown
import Derived.Test.YtpdlnpllhjcejaaDoorLexPure2
import Derived.Test.YtpdlnpllhjcejaaDoorRows
import Derived.WalkKit
import Derived.WalkLawsBesides
import Derived.WalkSpells
import Derived.ProofKit
import Derived.Outline
import Derived.Deep.QuietTactic
import Derived.BigQuiet
import Derived.Deep.Light
import Derived.Deep.CutBlock
import Derived.Deep.DeepCutAuto
import Derived.Deep.DeepFit
import Derived.Deep.LoopGhost
import Derived.Lib.Hide
import Derived.Lib.OthersKept
import Derived.IntWalk
import Derived.StillTailTactics
namespace Go.Proofs.YtpdlnpllhjcejaaDoor
open Go.RowKit
/-- The node that the law's known asks of: not of true. -/
def K1 (B : Nat) : Nd := ⟨tNot, emp, 0, 0, some ⟨B, 0, none⟩, 1, .cons tTrue emp 0 0 none 0 .nil .nil⟩
theorem k1_nots (B : Nat) : (K1 B).nots 1 := ⟨rfl, rfl, rfl, 0, none, 0, rfl⟩
theorem k1_in {W : World} {B : Nat} (h : W.heap[B]? = some (boxOf tTrue emp 0 0 none 0 0)) : (K1 B).In W := by
  obtain ⟨h0, h1, h2, h3, h4⟩ := box_cells h
  refine .inr ⟨B, 0, rfl, by show 1 ≤ _; omega, ⟨Nat.lt_succ_self 0, ?_⟩, ⟨⟨h0, h1, h2, h3, h4⟩, .inl rfl, trivial⟩⟩
  unfold World.frozen?
  simp only [h]
  rfl
/-- The world in which that node lies. -/
def KW (w W : World) : Prop := W.heap[w.heap.size]? = some (boxOf tTrue emp 0 0 none 0 0) ∧ W.heap[w.heap.size + 1]? = some (boxOf tNot emp 0 0 (some ⟨w.heap.size, 0, none⟩) 1 1) ∧ Below w.heap.size w W
theorem KW.next {w W W' : World} (h : KW w W) (hb : Below W.heap.size W W') : KW w W' :=
  ⟨by rw [hb.block _ (lt_heap h.1)]; exact h.1, by rw [hb.block _ (lt_heap h.2.1)]; exact h.2.1, h.2.2.trans (hb.mono h.2.2.size)⟩
theorem KW.start (w : World) : KW w ((w.alloc (boxOf tTrue emp 0 0 none 0 0)).alloc (boxOf tNot emp 0 0 (some ⟨w.heap.size, 0, none⟩) 1 1)) := by
  refine ⟨?_, ?_, two_boxes _ _ _⟩
  · rw [Below.heap_alloc _ _ _ (by simp)]; exact new_at _ _
  · have := new_at (w.alloc (boxOf tTrue emp 0 0 none 0 0)) (boxOf tNot emp 0 0 (some ⟨w.heap.size, 0, none⟩) 1 1)
    rw [alloc_size] at this
    exact this
theorem k1_facts (B : Nat) : (K1 B).size = 2 ∧ (K1 B).deep = 2 ∧ (K1 B).line ∧ (K1 B).kids.len ≤ 1 := nd_nots_facts 1 _ (k1_nots B)
abbrev k1V (B : Nat) : Value := .agg #[.string ⟨#[110, 111, 116]⟩, .string ⟨#[]⟩, .int .i64 0, .int .i64 0, .slice (some ⟨B, 0, none⟩) 1 1]
theorem k_depth {w W : World} (h : KW w W) : Calls Tryd.prog 21 #[k1V w.heap.size] W fun e w' => e = .returned (.int .i64 2) ∧ KW w w' := by
  obtain ⟨f1, f2, f3, _⟩ := k1_facts w.heap.size
  refine (depth_any (K1 w.heap.size) W (k1_in h.1) (by rw [f1]; omega)).mono ?_
  rintro e w' ⟨⟨d, rfl, hd⟩, hb⟩
  have := hd.2.2.2 f3
  rw [f2] at this
  have h2 : d = 2 := by omega
  rw [h2]
  exact ⟨rfl, h.next hb⟩
theorem k_size {w W : World} (h : KW w W) : Calls Tryd.prog 19 #[k1V w.heap.size] W fun e w' => e = .returned (.int .i64 2) ∧ KW w w' := by
  obtain ⟨f1, _, _, _⟩ := k1_facts w.heap.size
  refine (tsize_any (K1 w.heap.size) W (k1_in h.1)).mono ?_
  rintro e w' ⟨rfl, hb⟩
  rw [f1]
  exact ⟨rfl, h.next hb⟩
theorem k_form {w W : World} (h : KW w W) : Calls Tryd.prog 15 #[k1V w.heap.size] W fun e w' => e = .returned (.bool true) ∧ KW w w' := by
  obtain ⟨f1, f2, f3, _⟩ := k1_facts w.heap.size
  refine (isFormula_of (K1 w.heap.size) true W (k1_in h.1) (by rw [f1]; omega) f3 (formula_nots 1 _ (k1_nots _))).mono ?_
  rintro e w' ⟨rfl, hb⟩
  rw [f2]
  exact ⟨rfl, h.next hb⟩
theorem k_term {w W : World} (h : KW w W) : Calls Tryd.prog 17 #[k1V w.heap.size] W fun e w' => e = .returned (.bool false) ∧ KW w w' := by
  obtain ⟨f1, f2, f3, _⟩ := k1_facts w.heap.size
  refine (isTerm_of (K1 w.heap.size) false W (k1_in h.1) (by rw [f1]; omega) f3 (fun W' _ => term_not _ _ _ _ _ _ W')).mono ?_
  rintro e w' ⟨rfl, hb⟩
  rw [f2]
  exact ⟨rfl, h.next hb⟩
theorem k_empty {w W : World} (h : KW w W) : Calls Tryd.prog 15 #[.agg #[.string ⟨#[]⟩, .string ⟨#[]⟩, .int .i64 0, .int .i64 0, .slice none 0 0]] W fun e w' => e = .returned (.bool false) ∧ KW w w' := by
  refine (isFormula_of ⟨emp, emp, 0, 0, none, 0, .nil⟩ false W (.inl rfl) (show (0 + 1 : Nat) ≤ 2000 by omega) (show Fo.line .nil from trivial) (fun W' _ => formula_empty _ _ _ _ _ _ W')).mono ?_
  rintro e w' ⟨rfl, hb⟩
  exact ⟨rfl, h.next hb⟩
set_option maxRecDepth 100000 in
set_option maxHeartbeats 8000000 in
theorem tknown_any (w : World) : Calls Tryd.prog 23 #[] w fun e w' => e = .returned (.bool true) ∧ Below w.heap.size w w' := by
  have hc5 := cellsNode
  have H0 := Lib.hid (KW.start w)
  go_enter Tryd.func23, Tryd.ntmps23
  go_wp2_with fail
  have HC1 := Lib.hid (k_depth H0.out)
  refine HC1.out.mono ?_
  rintro e w1 ⟨rfl, h1⟩
  obtain ⟨b0, b1, b2, b3, b4⟩ := box_cells h1.2.1
  have HK1 := Lib.hid h1
  clear h1 HC1
  go_wp2_with fail
  have HC2 := Lib.hid (k_size HK1.out)
  refine HC2.out.mono ?_
  rintro e w2 ⟨rfl, h2⟩
  clear b0 b1 b2 b3 b4 HC2
  obtain ⟨b0, b1, b2, b3, b4⟩ := box_cells h2.2.1
  have HK2 := Lib.hid h2
  clear h2
  go_wp2_with fail
  have HC3 := Lib.hid (k_form HK2.out)
  refine HC3.out.mono ?_
  rintro e w3 ⟨rfl, h3⟩
  clear b0 b1 b2 b3 b4 HC3
  obtain ⟨b0, b1, b2, b3, b4⟩ := box_cells h3.2.1
  have HK3 := Lib.hid h3
  clear h3
  go_wp2_with fail
  have HC4 := Lib.hid (k_term HK3.out)
  refine HC4.out.mono ?_
  rintro e w4 ⟨rfl, h4⟩
  have HK4 := Lib.hid h4
  clear h4 b0 b1 b2 b3 b4 HC4
  go_wp2_with fail
  have HC5 := Lib.hid (k_empty HK4.out)
  refine HC5.out.mono ?_
  rintro e w5 ⟨rfl, h5⟩
  go_wp2
  go_ret
  exact ⟨rfl, h5.2.2⟩
end Go.Proofs.YtpdlnpllhjcejaaDoor
