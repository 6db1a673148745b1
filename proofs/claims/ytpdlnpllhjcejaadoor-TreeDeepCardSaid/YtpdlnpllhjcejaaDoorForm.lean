/- tree.formula of nots; tree.IsFormula. -/
import Derived.Test.YtpdlnpllhjcejaaDoorFits
import Derived.Test.YtpdlnpllhjcejaaDoorLexPure2
import Derived.Test.YtpdlnpllhjcejaaDoorRows
import Derived.WalkKit
import Derived.WalkLawsBesides
import Derived.WalkSpells
import Derived.ProofKit
import Derived.Outline
import Derived.Deep.QuietTactic
import Derived.BigQuiet
import Derived.Deep.Light
import Derived.Deep.CutBlock
import Derived.Deep.DeepCutAuto
import Derived.Deep.DeepFit
import Derived.Deep.LoopGhost
import Derived.Lib.Hide
import Derived.Lib.OthersKept
import Derived.IntWalk
import Derived.StillTailTactics
namespace Go.Proofs.YtpdlnpllhjcejaaDoor
open Go.RowKit
/-! tree.formula of nots; IsFormula, IsTerm; what the law's known asks. -/
set_option maxRecDepth 100000 in
set_option maxHeartbeats 4000000 in
theorem formula_true (pos : Int) (a : Option Addr) (cap : Nat) (w : World) : Calls Tryd.prog 37 #[.agg #[.string ⟨#[116, 114, 117, 101]⟩, .string ⟨#[]⟩, .int .i64 0, .int .i64 pos, .slice a 0 cap]] w fun e w' => e = .returned (.bool true) ∧ Below w.heap.size w w' := by
  have hc5 := cellsNode
  have hcall := fits_none ⟨#[116, 114, 117, 101]⟩ pos a cap (w.alloc (boxOf ⟨#[116, 114, 117, 101]⟩ ⟨#[]⟩ 0 pos a 0 cap))
  have HC := Lib.hid hcall
  clear hcall
  go_enter Tryd.func37, Tryd.ntmps37
  go_wp2_with fail
  refine HC.out.mono ?_
  rintro e w2 ⟨rfl, hb2⟩
  have hb3 := box_then hb2
  go_wp2
  go_ret
  exact ⟨rfl, hb3⟩
set_option maxRecDepth 100000 in
set_option maxHeartbeats 4000000 in
theorem formula_not (pos : Int) (b o cap : Nat) (op1 name1 : ByteArray) (n1 pos1 : Int) (a1 : Option Addr) (cap1 : Nat) (kids1 : Fo) (w : World)
    (hin : (Fo.cons op1 name1 n1 pos1 a1 cap1 kids1 .nil).In w b o) (hs : SaysF ⟨op1, name1, n1, pos1, a1, cap1, kids1⟩) :
    Calls Tryd.prog 37 #[.agg #[.string ⟨#[110, 111, 116]⟩, .string ⟨#[]⟩, .int .i64 0, .int .i64 pos, .slice (some ⟨b, o, none⟩) 1 cap]] w fun e w' => e = .returned (.bool true) ∧ Below w.heap.size w w' := by
  have hc5 := cellsNode
  have hcall := fits_one ⟨#[110, 111, 116]⟩ pos b o cap op1 name1 n1 pos1 a1 cap1 kids1 (w.alloc (boxOf ⟨#[110, 111, 116]⟩ ⟨#[]⟩ 0 pos (some ⟨b, o, none⟩) 1 cap)) (hin.below (below_box _ _)) hs
  have HC := Lib.hid hcall
  clear hcall hs hin
  go_enter Tryd.func37, Tryd.ntmps37
  go_wp2_with fail
  refine HC.out.mono ?_
  rintro e w2 ⟨rfl, hb2⟩
  have hb3 := box_then hb2
  go_wp2
  go_ret
  exact ⟨rfl, hb3⟩
theorem formula_nots : ∀ (j : Nat) (T : Nd), T.nots j → SaysF T := by
  intro j
  induction j with
  | zero =>
    rintro ⟨op, name, n, pos, a, cap, kids⟩ ⟨rfl, rfl, rfl, rfl⟩ w _
    exact formula_true pos a cap w
  | succ j ih =>
    rintro ⟨op, name, n, pos, a, cap, kids⟩ ⟨rfl, rfl, rfl, hk⟩ w hin
    have hk' : kids.nots j := hk
    obtain ⟨op1, name1, n1, pos1, a1, cap1, kids1, rfl, hn1⟩ : ∃ op1 name1 n1 pos1 a1 cap1 kids1, kids = .cons op1 name1 n1 pos1 a1 cap1 kids1 .nil ∧ Nd.nots j ⟨op1, name1, n1, pos1, a1, cap1, kids1⟩ := by
      cases j with
      | zero => obtain ⟨pos, a, cap, rfl⟩ := hk'; exact ⟨_, _, _, _, _, _, _, rfl, rfl, rfl, rfl, rfl⟩
      | succ j => obtain ⟨pos, a, cap, kids, rfl, h⟩ := hk'; exact ⟨_, _, _, _, _, _, _, rfl, rfl, rfl, rfl, h⟩
    rcases hin with h | ⟨b, o, hab, _, _, hin⟩
    · cases h
    · obtain rfl : a = some ⟨b, o, none⟩ := hab
      exact formula_not pos b o cap op1 name1 n1 pos1 a1 cap1 kids1 w hin (ih _ hn1)
/-- A node's cells behind other calls. -/
theorem box_cells {w : World} {B : Nat} {op name : ByteArray} {n pos : Int} {a : Option Addr} {k cap : Nat} (h : w.heap[B]? = some (boxOf op name n pos a k cap)) :
    w.cell? ⟨B, 0, none⟩ = some (.string op) ∧ w.cell? ⟨B, 1, none⟩ = some (.string name) ∧ w.cell? ⟨B, 2, none⟩ = some (.int .i64 n) ∧ w.cell? ⟨B, 3, none⟩ = some (.int .i64 pos) ∧ w.cell? ⟨B, 4, none⟩ = some (.slice a k cap) := by
  refine ⟨?_, ?_, ?_, ?_, ?_⟩ <;> (rw [cell_of_row _ _ _ _ _ _ h]; rfl)
theorem lt_heap {w : World} {B : Nat} {ob : Obj} (h : w.heap[B]? = some ob) : B < w.heap.size := (Array.getElem?_eq_some_iff.1 h).1
set_option maxRecDepth 100000 in
set_option maxHeartbeats 4000000 in
/-- tree.IsFormula of a node of which tree.formula's answer is known. -/
theorem isFormula_of (T : Nd) (b : Bool) (w : World) (hT : T.In w) (hs : T.size ≤ 2000) (hl : T.line) (hf : ∀ w : World, T.In w → Calls Tryd.prog 37 #[T.val] w fun e w' => e = .returned (.bool b) ∧ Below w.heap.size w w') :
    Calls Tryd.prog 15 #[T.val] w fun e w' => e = .returned (.bool (decide (T.deep ≤ 30) && b)) ∧ Below w.heap.size w w' := by
  obtain ⟨op, name, n, pos, a, cap, kids⟩ := T
  have hc1 := inBounds_any ⟨op, name, n, pos, a, cap, kids⟩ (w.alloc (boxOf op name n pos a kids.len cap)) (hT.below (below_box _ _)) hs
  have HC1 := Lib.hid hc1
  have HT := Lib.hid hT
  have HF := Lib.hid hf
  have HL := Lib.hid hl
  have HB := Lib.hid (new_at w (boxOf op name n pos a kids.len cap))
  have hc5 := cellsNode
  have HZ := Lib.hid (alloc_size w (boxOf op name n pos a kids.len cap))
  clear hc1 hT hs hl hf
  rw [Nd.val_def]
  generalize hdd : (Nd.mk op name n pos a cap kids).deep = dd
  have HDD := Lib.hid hdd
  clear hdd
  go_enter Tryd.func15, Tryd.ntmps15
  go_wp2_with fail
  refine HC1.out.mono ?_
  rintro e w2 ⟨⟨d, hd, rfl⟩, hb2⟩
  have hdv := hd.2.2.2 HL.out
  rw [HDD.out] at hdv
  have hblk : w2.heap[w.heap.size]? = some (boxOf op name n pos a kids.len cap) := by
    rw [hb2.block _ (by have := HZ.out; omega)]; exact HB.out
  obtain ⟨b0, b1, b2, b3, b4⟩ := box_cells hblk
  have hbb := box_then hb2
  have hc2 := HF.out w2 (HT.out.below hbb)
  rw [Nd.val_def] at hc2
  have HC2 := Lib.hid hc2
  clear hc2 hb2 hblk HC1 hd
  by_cases h30 : dd ≤ 30
  · have hd30 : d ≤ 30 := by omega
    have he : decide (dd ≤ 30) = true := by simpa using h30
    have HE := Lib.hid he
    clear hdv he h30
    go_wp2_with fail
    refine HC2.out.mono ?_
    rintro e w3 ⟨rfl, hb3⟩
    go_wp2
    go_ret
    exact ⟨by rw [HE.out]; rfl, hbb.trans (hb3.mono hbb.size)⟩
  · have hd30 : ¬ d ≤ 30 := by omega
    have he : decide (dd ≤ 30) = false := by simpa using h30
    have HE := Lib.hid he
    clear hdv he h30
    go_wp2_with fail
    go_ret
    exact ⟨by rw [HE.out]; rfl, hbb⟩
end Go.Proofs.YtpdlnpllhjcejaaDoor
