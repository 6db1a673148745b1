/- The walk of TreeDeep. -/
import Derived.Test.YtpdlnpllhjcejaaDoorTKn2
import Derived.Test.YtpdlnpllhjcejaaDoorLexPure2
import Derived.Test.YtpdlnpllhjcejaaDoorRows
import Derived.WalkKit
import Derived.WalkLawsBesides
import Derived.WalkSpells
import Derived.ProofKit
import Derived.Outline
import Derived.Deep.QuietTactic
import Derived.BigQuiet
import Derived.Deep.Light
import Derived.Deep.CutBlock
import Derived.Deep.DeepCutAuto
import Derived.Deep.DeepFit
import Derived.Deep.LoopGhost
import Derived.Lib.Hide
import Derived.Lib.OthersKept
import Derived.IntWalk
import Derived.StillTailTactics
namespace Go.Proofs.YtpdlnpllhjcejaaDoor
open Go.RowKit
/-! The walk of TreeDeep. -/
/-- No kids of a row lie in a block. -/
def Fo.off (B : Nat) : Fo → Prop
  | .nil => True
  | .cons _ _ _ _ a _ kids rest => (kids = .nil ∨ ∃ b o, a = some ⟨b, o, none⟩ ∧ b ≠ B) ∧ Fo.off B kids ∧ Fo.off B rest
theorem cell_grown {w w' : World} {B : Nat} (hg : w.grownBy w' (some B)) {p : Addr} {v : Value} (hne : p.block ≠ B) (hc : w.cell? p = some v) : w'.cell? p = some v := hg.cell hc (fun h => hne (Option.some.inj h))
theorem Fo.In.grown {w w' : World} {B : Nat} (hg : w.grownBy w' (some B)) : ∀ {F : Fo} {b o : Nat}, F.In w b o → b ≠ B → F.off B → F.In w' b o := by
  intro F
  induction F with
  | nil => intro b o _ _ _; trivial
  | cons op name n pos a cap kids rest ihk ihr =>
    rintro b o ⟨⟨h0, h1, h2, h3, h4⟩, hk, hr⟩ hb ⟨ho, hok, hor⟩
    refine ⟨⟨cell_grown hg hb h0, cell_grown hg hb h1, cell_grown hg hb h2, cell_grown hg hb h3, cell_grown hg hb h4⟩, ?_, ihr hr hb hor⟩
    rcases hk with hk | ⟨b', o', ha, hl, ⟨h5, hf⟩, hin⟩
    · exact .inl hk
    · rcases ho with ho | ⟨b2, o2, ha2, hb2⟩
      · exact .inl ho
      · rw [ha] at ha2
        have e1 : b' = b2 := congrArg Addr.block (Option.some.inj ha2)
        have hb' : b' ≠ B := by rw [e1]; exact hb2
        refine .inr ⟨b', o', ha, hl, ⟨h5, ?_⟩, ihk hin hb' hok⟩
        have := hg.block b' (hin.lt h5) (fun h => hb' (Option.some.inj h))
        rw [World.frozen?_of_block this]
        exact hf
def Nd.off (B : Nat) (T : Nd) : Prop := (T.kids = .nil ∨ ∃ b o, T.a = some ⟨b, o, none⟩ ∧ b ≠ B) ∧ T.kids.off B
theorem Nd.In.grown {w w' : World} {B : Nat} (hg : w.grownBy w' (some B)) {T : Nd} (h : T.In w) (ho : T.off B) : T.In w' := by
  obtain ⟨ho, hok⟩ := ho
  rcases h with h | ⟨b', o', ha, hl, ⟨h5, hf⟩, hin⟩
  · exact .inl h
  · rcases ho with ho | ⟨b2, o2, ha2, hb2⟩
    · exact .inl ho
    · rw [ha] at ha2
      have e1 : b' = b2 := congrArg Addr.block (Option.some.inj ha2)
      have hb' : b' ≠ B := by rw [e1]; exact hb2
      refine .inr ⟨b', o', ha, hl, ⟨h5, ?_⟩, hin.grown hg hb' hok⟩
      have := hg.block b' (hin.lt h5) (fun h => hb' (Option.some.inj h))
      rw [World.frozen?_of_block this]
      exact hf
theorem box_free {w : World} {B : Nat} {op name : ByteArray} {n pos : Int} {a : Option Addr} {k cap : Nat} (h : w.heap[B]? = some (boxOf op name n pos a k cap)) (i : Nat) : w.frozen? ⟨B, i, none⟩ = false := by
  unfold World.frozen?
  simp only [h]
  simp
theorem box_alloc {w : World} {B : Nat} {op name : ByteArray} {n pos : Int} {a : Option Addr} {k cap : Nat} (h : w.heap[B]? = some (boxOf op name n pos a k cap)) (ob : Obj) : (w.alloc ob).heap[B]? = some (boxOf op name n pos a k cap) := by
  rw [Below.heap_alloc _ _ _ (lt_heap h)]; exact h
/-- A node is stored over a node. -/
abbrev stored (W : World) (B : Nat) (op' name' : ByteArray) (n' pos' : Int) (a' : Option Addr) (k' cap' : Nat) : World :=
  ((((W.setCell ⟨B, 0, none⟩ (.string op')).setCell ⟨B, 1, none⟩ (.string name')).setCell ⟨B, 2, none⟩ (.int .i64 n')).setCell ⟨B, 3, none⟩ (.int .i64 pos')).setCell ⟨B, 4, none⟩ (.slice a' k' cap')
def Blk5 (w : World) (B : Nat) (a b c d e : Value) : Prop := w.heap[B]? = some (.cells #[a, b, c, d, e] 37)
theorem Blk5.set {w : World} {B : Nat} {a b c d e : Value} (h : Blk5 w B a b c d e) (a' b' c' d' e' : Value) : Blk5 (((((w.setCell ⟨B, 0, none⟩ a').setCell ⟨B, 1, none⟩ b').setCell ⟨B, 2, none⟩ c').setCell ⟨B, 3, none⟩ d').setCell ⟨B, 4, none⟩ e') B a' b' c' d' e' := by
  unfold Blk5 at *
  have h0 := heap_setCell_same w B 0 _ _ a' h
  have h1 := heap_setCell_same _ B 1 _ _ b' h0
  have h2 := heap_setCell_same _ B 2 _ _ c' h1
  have h3 := heap_setCell_same _ B 3 _ _ d' h2
  have h4 := heap_setCell_same _ B 4 _ _ e' h3
  exact h4
theorem setCell_grown (w : World) (B i : Nat) (v : Value) : w.grownBy (w.setCell ⟨B, i, none⟩ v) (some B) :=
  ⟨rfl, rfl, rfl, by simp, fun q _ hq => Below.heap_setCell _ _ _ _ (fun e => hq (by rw [e]))⟩
theorem box_set {W : World} {B : Nat} {op name : ByteArray} {n pos : Int} {a : Option Addr} {k cap : Nat} (h : W.heap[B]? = some (boxOf op name n pos a k cap)) (op' name' : ByteArray) (n' pos' : Int) (a' : Option Addr) (k' cap' : Nat) :
    (stored W B op' name' n' pos' a' k' cap').heap[B]? = some (boxOf op' name' n' pos' a' k' cap') ∧ W.grownBy (stored W B op' name' n' pos' a' k' cap') (some B) := by
  have hb : Blk5 W B (.string op) (.string name) (.int .i64 n) (.int .i64 pos) (.slice a k cap) := h
  have hs := Blk5.set hb (.string op') (.string name') (.int .i64 n') (.int .i64 pos') (.slice a' k' cap')
  exact ⟨hs, ((((setCell_grown W B 0 _).trans (setCell_grown _ B 1 _)).trans (setCell_grown _ B 2 _)).trans (setCell_grown _ B 3 _)).trans (setCell_grown _ B 4 _)⟩
set_option maxRecDepth 100000 in
set_option maxHeartbeats 8000000 in
theorem deep_walk (n : Int) (w : World) : Calls Tryd.prog 9 #[.int .i64 n] w fun e w' => e = .returned (.bool true) ∧ Below w.heap.size w w' := by
  have hc5 := cellsNode
  by_cases hr : 0 ≤ n ∧ n ≤ 40
  · obtain ⟨hn0, hn40⟩ := hr
    obtain ⟨N, rfl⟩ : ∃ N : Nat, n = N := ⟨n.toNat, by omega⟩
    have HB0 := Lib.hid (new_at w (boxOf tTrue emp 0 0 none 0 0))
    go_enter Tryd.func9, Tryd.ntmps9
    go_wp2_with fail
    go_loopw [4] (fun i wr => ∃ (k : Nat) (op name : ByteArray) (n pos : Int) (a : Option Addr) (cap : Nat) (kids : Fo), i = .int .i64 k ∧ k ≤ N ∧ RowKit.Hid (Nd.nots k ⟨op, name, n, pos, a, cap, kids⟩) ∧ RowKit.Hid (Nd.In wr ⟨op, name, n, pos, a, cap, kids⟩) ∧ RowKit.Hid (Nd.off w.heap.size ⟨op, name, n, pos, a, cap, kids⟩) ∧ RowKit.Hid (wr.heap[w.heap.size]? = some (boxOf op name n pos a kids.len cap)) ∧ Below w.heap.size w wr) (fun i _ => N - (intOf i).toNat)
    case atStart => exact ⟨0, tTrue, emp, 0, 0, none, 0, .nil, rfl, by omega, Lib.hid ⟨rfl, rfl, rfl, rfl⟩, Lib.hid (.inl rfl), Lib.hid ⟨.inl rfl, trivial⟩, HB0, below_box _ _⟩
    case round =>
      obtain ⟨k, op, name, n, pos, a, cap, kids, rfl, hkn, HN, HI, HO, HB, hbx⟩ := hrel
      obtain ⟨b0, b1, b2, b3, b4⟩ := box_cells HB.out
      by_cases hkl : k < N
      · have hkl2 : (k : Int) < N := by omega
        have hset := box_set (box_alloc HB.out (boxOf op name n pos a kids.len cap)) tNot emp 0 0 (some ⟨wr.heap.size, 0, none⟩) 1 1
        have HSET := Lib.hid hset
        have hnew := new_at wr (boxOf op name n pos a kids.len cap)
        have HNEW := Lib.hid hnew
        have hbl := lt_heap HB.out
        have HBL := Lib.hid hbl
        clear hset hnew hbl
        have d0 := fun ob : Obj => (box_cells (box_alloc HB.out ob)).1
        have d1 := fun ob : Obj => (box_cells (box_alloc HB.out ob)).2.1
        have d2 := fun ob : Obj => (box_cells (box_alloc HB.out ob)).2.2.1
        have d3 := fun ob : Obj => (box_cells (box_alloc HB.out ob)).2.2.2.1
        have d4 := fun ob : Obj => (box_cells (box_alloc HB.out ob)).2.2.2.2
        have f0 := fun ob : Obj => box_free (box_alloc HB.out ob) 0
        have f1 := fun ob : Obj => box_free (box_alloc HB.out ob) 1
        have f2 := fun ob : Obj => box_free (box_alloc HB.out ob) 2
        have f3 := fun ob : Obj => box_free (box_alloc HB.out ob) 3
        have f4 := fun ob : Obj => box_free (box_alloc HB.out ob) 4
        go_wp2_with fail
        have hB2 := HSET.out.1
        have hg2 := HSET.out.2
        have hin2 : Nd.In (stored (wr.alloc (boxOf op name n pos a kids.len cap)) w.heap.size tNot emp 0 0 (some ⟨wr.heap.size, 0, none⟩) 1 1) ⟨op, name, n, pos, a, cap, kids⟩ := (HI.out.below (below_box wr (boxOf op name n pos a kids.len cap))).grown hg2 HO.out
        have hbA : Below w.heap.size w (wr.alloc (boxOf op name n pos a kids.len cap)) := hbx.alloc hbx.size _
        have hbx2 := Below.grown hbA hg2 hbA.size (by rintro q hq; cases hq; exact Nat.le_refl _)
        have hne : wr.heap.size ≠ w.heap.size := by have := HBL.out; omega
        have hk2 := HNEW.out
        have hk3 := (hg2.block wr.heap.size (by rw [alloc_size]; omega) (fun h => hne (Option.some.inj h))).trans hk2
        have hin3 : Nd.In (stored (wr.alloc (boxOf op name n pos a kids.len cap)) w.heap.size tNot emp 0 0 (some ⟨wr.heap.size, 0, none⟩) 1 1) ⟨tNot, emp, 0, 0, some ⟨wr.heap.size, 0, none⟩, 1, .cons op name n pos a cap kids .nil⟩ := by
          obtain ⟨e0, e1, e2, e3, e4⟩ := box_cells hk3
          exact .inr ⟨wr.heap.size, 0, rfl, by show 1 ≤ _; omega, ⟨Nat.lt_succ_self 0, box_free hk3 0⟩, ⟨⟨e0, e1, e2, e3, e4⟩, hin2, trivial⟩⟩
        have hoff : Nd.off w.heap.size ⟨tNot, emp, 0, 0, some ⟨wr.heap.size, 0, none⟩, 1, .cons op name n pos a cap kids .nil⟩ := ⟨.inr ⟨_, _, rfl, hne⟩, HO.out.1, HO.out.2, trivial⟩
        have hnots : Nd.nots (k + 1) ⟨tNot, emp, 0, 0, some ⟨wr.heap.size, 0, none⟩, 1, .cons op name n pos a cap kids .nil⟩ := by
          refine ⟨rfl, rfl, rfl, ?_⟩
          have hn := HN.out
          cases k with
          | zero => obtain ⟨rfl, rfl, rfl, rfl⟩ := hn; exact ⟨pos, a, cap, rfl⟩
          | succ k => obtain ⟨rfl, rfl, rfl, hn⟩ := hn; exact ⟨pos, a, cap, kids, rfl, hn⟩
        have H1 := Lib.hid hin3
        have H2 := Lib.hid hoff
        have H3 := Lib.hid hnots
        have H4 := Lib.hid hB2
        clear hin3 hoff hnots hB2 hg2 hin2 hbA hk2 hk3 d0 d1 d2 d3 d4 f0 f1 f2 f3 f4 HSET
        go_roundw
        case rel => exact ⟨k + 1, tNot, emp, 0, 0, some ⟨wr.heap.size, 0, none⟩, 1, .cons op name n pos a cap kids .nil, by go_num, by omega, H3, H1, H2, H4, hbx2⟩
        case measure => (try simp [intOf]); omega
      · obtain rfl : k = N := by omega
        obtain ⟨f1, f2, f3, f4⟩ := nd_nots_facts k _ HN.out
        have hc1 := isFormula_of ⟨op, name, n, pos, a, cap, kids⟩ true wr HI.out (by rw [f1]; omega) f3 (formula_nots k _ HN.out)
        rw [Nd.val_def, f2, Bool.and_true] at hc1
        have HC1 := Lib.hid hc1
        have HF := Lib.hid (show (Nd.mk op name n pos a cap kids).size ≤ 3000 ∧ (Nd.mk op name n pos a cap kids).line ∧ (Nd.mk op name n pos a cap kids).deep = k + 1 from ⟨by rw [f1]; omega, f3, f2⟩)
        have hb30 : decide (k + 1 ≤ 30) = decide ((k : Int) < 30) := by
          by_cases h : k + 1 ≤ 30
          · rw [decide_eq_true h, decide_eq_true (by omega)]
          · rw [decide_eq_false h, decide_eq_false (by omega)]
        have HB30 := Lib.hid hb30
        clear hc1 f1 f2 f3 f4 hb30
        go_wp2_with fail
        refine HC1.out.mono ?_
        rintro e w2 ⟨rfl, hb2⟩
        rw [HB30.out]
        obtain ⟨b0, b1, b2, b3, b4⟩ := box_cells (show w2.heap[w.heap.size]? = _ by rw [hb2.block _ (lt_heap HB.out)]; exact HB.out)
        have hbx2 := hbx.trans (hb2.mono hbx.size)
        have hc2 := depth_any ⟨op, name, n, pos, a, cap, kids⟩ w2 (HI.out.below hb2) HF.out.1
        rw [Nd.val_def] at hc2
        have HC2 := Lib.hid hc2
        have hbe : (decide ((k : Int) < 30) == decide ((k : Int) < 30)) = true := by simp
        clear hc2 hb2 HC1
        go_wp2_with fail
        refine HC2.out.mono ?_
        rintro e w3 ⟨⟨d, rfl, hd⟩, hb3⟩
        have hdv := hd.2.2.2 HF.out.2.1
        rw [HF.out.2.2] at hdv
        have hbx3 := hbx2.trans (hb3.mono hbx2.size)
        have hdm : d = min ((k : Int) + 1) 31 := by rw [hdv]; omega
        subst hdm
        clear hdv hd hb3 HC2
        go_wp2_with fail
        refine (tknown_any w3).mono ?_
        rintro e w4 ⟨rfl, hb4⟩
        go_wp2
        go_ret
        exact ⟨rfl, hbx3.trans (hb4.mono hbx3.size)⟩
  · rcases (show n < 0 ∨ (0 ≤ n ∧ 40 < n) by omega) with h | ⟨h, h2⟩
    all_goals
      go_enter Tryd.func9, Tryd.ntmps9
      go_wp2
      go_ret
      exact ⟨rfl, Below.refl _ _⟩
end Go.Proofs.YtpdlnpllhjcejaaDoor
