/- quantified. -/
import Derived.Test.YtmmicnjiikiklaaDoorPFm2
import Derived.Test.YtmmicnjiikiklaaDoorLexA
import Derived.Test.YtmmicnjiikiklaaDoorRows
import Derived.WalkKit
import Derived.WalkLawsBesides
import Derived.WalkSpells
import Derived.ProofKit
import Derived.Outline
import Derived.Deep.QuietTactic
import Derived.BigQuiet
import Derived.Deep.Light
import Derived.Deep.CutBlock
import Derived.Deep.DeepCutAuto
import Derived.Deep.DeepFit
import Derived.Deep.LoopGhost
import Derived.Lib.Hide
import Derived.Lib.OthersKept
import Derived.IntWalk
import Derived.StillTailTactics
import Derived.Deep.RegionHeld3
namespace Go.Proofs.YtmmicnjiikiklaaDoor
open Go.RowKit
/-! quantified. -/
theorem drew_heap {w : World} {i : Nat} {ob : Option Obj} (h : w.heap[i]? = ob) : w.drew.heap[i]? = ob := h
theorem Nd.Good.drew {S : Nat → Prop} {w : World} {T : Nd} (h : T.Good S w) : T.Good S w.drew := h.from ⟨Nat.le_refl _, fun _ _ _ => rfl⟩
theorem node_setd {w : World} {B : Nat} {op name : ByteArray} {n pos : Int} {a : Option Addr} {k cap : Nat} (h : w.heap[B]? = some (boxOf op name n pos a k cap)) (op' name' : ByteArray) (n' pos' : Int) (a' : Option Addr) (k' cap' : Nat) : (((((w.drew.setCell ⟨B, 0, none⟩ (.string op')).setCell ⟨B, 1, none⟩ (.string name')).setCell ⟨B, 2, none⟩ (.int .i64 n')).setCell ⟨B, 3, none⟩ (.int .i64 pos')).setCell ⟨B, 4, none⟩ (.slice a' k' cap')).heap[B]? = some (boxOf op' name' n' pos' a' k' cap') := node_set (w := w.drew) h _ _ _ _ _ _ _
set_option maxRecDepth 100000 in
set_option maxHeartbeats 16000000 in
theorem quant_ok (op : ByteArray) (nn : Int) (l : List Tok) (w : World) (B d : Nat) (hP : PTB B w) (hS : RdS w B (d : Int) (.good l)) (hord : ∀ W, Calls Tryd.prog 89 #[.string (hd l).text] W fun e w' => e = .returned (.int .i64 nn) ∧ W = w') (hk1 : ((hd l.tail).kind == 1) = true) (hm : ((wrd l.tail.tail).toList == (ByteArray.mk #[58]).toList) = true) (r r2 : Res Nd) (hk : ∀ W, PTB B W → RdS W B (d : Int) (.good l.tail.tail.tail) → Calls Tryd.prog 107 #[.pointer (some ⟨B, 0, none⟩), .func (.func 42) #[.pointer (some ⟨B, 0, none⟩)] #[]] W (PostN B d W r2)) (h1 : ∀ m l2, r2 = .ok m l2 → r = .ok (mkN op (hd l.tail).text nn (hd l).pos [m]) l2) (h2 : ∀ a e, r2 = .bad a e → r = .bad a e) : Calls Tryd.prog 108 #[.pointer (some ⟨B, 0, none⟩), .string op] w (PostN B d w (r)) := by
  have HDK := Lib.hid hk
  have HORD := Lib.hid hord
  clear hk hord
  have HKIND := Lib.hid hk1
  clear hk1
  have HM := Lib.hid hm
  clear hm
  have H1 := Lib.hid h1
  have H2 := Lib.hid h2
  clear h1 h2
  have hc5 := cellsNode
  have hc4 := cellsTok
  have hB := hS.lt
  have q3 := tok_f3
  have q0 := tok_f0
  have q2 := tok_f2
  have HS := Lib.hid hS
  have HP := Lib.hid hP
  clear hS hP
  go_enter Tryd.func108, Tryd.ntmps108
  have HC1 := Lib.hid (take_g l (w.alloc (boxOf ⟨#[]⟩ ⟨#[]⟩ 0 0 none 0 0)) B d (HS.out.alloc _))
  go_wp2_with fail
  refine HC1.out.mono ?_
  rintro e1 w1 ⟨rfl, hk1, hr1⟩
  have HK1 := Lib.hid (((Kp.refl B w).alloc _).trans hk1)
  have HR1 := Lib.hid hr1
  have HBZ1 := Lib.hid (hk1.blk (new_at w (boxOf ⟨#[]⟩ ⟨#[]⟩ 0 0 none 0 0)) (by omega))
  have hzZ1 := lt_heap HBZ1.out
  clear hk1
  have HC2 := Lib.hid (kind_g l.tail 1 (w1.alloc (tokBox (hd l).kind (hd l).text (hd l).n (hd l).pos)) B d HKIND.out (HR1.out.alloc _))
  go_wp2_with fail
  refine HC2.out.mono ?_
  rintro e2 w2 ⟨rfl, hk2, hr2⟩
  have HK2 := Lib.hid ((HK1.out.alloc _).trans hk2)
  have HR2 := Lib.hid hr2
  have HBZ2 := Lib.hid (hk2.blk ((Below.heap_alloc _ _ _ (lt_heap HBZ1.out)).trans HBZ1.out) (by omega))
  have hzZ2 := lt_heap HBZ2.out
  have HBT2 := Lib.hid (hk2.blk (new_at w1 (tokBox (hd l).kind (hd l).text (hd l).n (hd l).pos)) (by omega))
  have hzT2 := lt_heap HBT2.out
  clear hk2
  have HC3 := Lib.hid (must_yes l.tail.tail ⟨#[58]⟩ (w2.alloc (tokBox (hd l.tail).kind (hd l.tail).text (hd l.tail).n (hd l.tail).pos)) B d HM.out (HR2.out.alloc _))
  go_wp2_with fail
  refine HC3.out.mono ?_
  rintro e3 w3 ⟨rfl, hk3, hr3⟩
  have HK3 := Lib.hid ((HK2.out.alloc _).trans hk3)
  have HR3 := Lib.hid hr3
  have HBZ3 := Lib.hid (hk3.blk ((Below.heap_alloc _ _ _ (lt_heap HBZ2.out)).trans HBZ2.out) (by omega))
  have hzZ3 := lt_heap HBZ3.out
  have HBT3 := Lib.hid (hk3.blk ((Below.heap_alloc _ _ _ (lt_heap HBT2.out)).trans HBT2.out) (by omega))
  have hzT3 := lt_heap HBT3.out
  have HBQ3 := Lib.hid (hk3.blk (new_at w2 (tokBox (hd l.tail).kind (hd l.tail).text (hd l.tail).n (hd l.tail).pos)) (by omega))
  have hzQ3 := lt_heap HBQ3.out
  clear hk3
  have HC4 := Lib.hid (HDK.out w3 (HP.out.kp HK3.out) HR3.out)
  go_wp2_with fail
  refine HC4.out.mono ?_
  rintro e4 w4 ⟨U, rfl, hk4, ho4⟩
  have HO4 := Lib.hid ho4
  clear ho4
  have HK4 := Lib.hid (HK3.out.trans hk4)
  have HBZ4 := Lib.hid (hk4.blk HBZ3.out (by omega))
  have hzZ4 := lt_heap HBZ4.out
  have HBT4 := Lib.hid (hk4.blk HBT3.out (by omega))
  have hzT4 := lt_heap HBT4.out
  have HBQ4 := Lib.hid (hk4.blk HBQ3.out (by omega))
  have hzQ4 := lt_heap HBQ4.out
  have HKL4 := Lib.hid hk4
  clear hk4
  obtain ⟨w5, hW⟩ : ∃ x, x = (w4.alloc (.cells #[.string U.op, .string U.name, .int .i64 U.n, .int .i64 U.pos, .slice U.a U.kids.len U.cap] 26)) := ⟨_, rfl⟩
  have hb5 : Below w4.heap.size w4 w5 := by rw [hW]; exact below_box _ _
  have HBN5 : RowKit.Hid (w5.heap[w4.heap.size]? = some (boxOf U.op U.name U.n U.pos U.a U.kids.len U.cap)) := Lib.hid (by rw [hW]; exact new_at _ _)
  have hzN5 := lt_heap HBN5.out
  have HPD := Lib.hid HS.out
  have HK5 := Lib.hid (HK4.out.below hb5)
  have HBZ5 := Lib.hid ((hb5.block _ (lt_heap HBZ4.out)).trans HBZ4.out)
  have hzZ5 := lt_heap HBZ5.out
  have HBT5 := Lib.hid ((hb5.block _ (lt_heap HBT4.out)).trans HBT4.out)
  have hzT5 := lt_heap HBT5.out
  have HBQ5 := Lib.hid ((hb5.block _ (lt_heap HBQ4.out)).trans HBQ4.out)
  have hzQ5 := lt_heap HBQ5.out
  have HBL := Lib.hid hb5
  clear hb5
  have hne1 : ¬ w.heap.size = w1.heap.size := by omega
  have hme1 : ¬ w1.heap.size = w.heap.size := by omega
  have hne2 : ¬ w.heap.size = w2.heap.size := by omega
  have hme2 : ¬ w2.heap.size = w.heap.size := by omega
  have hne3 : ¬ w.heap.size = w4.heap.size := by omega
  have hme3 : ¬ w4.heap.size = w.heap.size := by omega
  have hne4 : ¬ w1.heap.size = w2.heap.size := by omega
  have hme4 : ¬ w2.heap.size = w1.heap.size := by omega
  have hne5 : ¬ w1.heap.size = w4.heap.size := by omega
  have hme5 : ¬ w4.heap.size = w1.heap.size := by omega
  have hne6 : ¬ w2.heap.size = w4.heap.size := by omega
  have hme6 : ¬ w4.heap.size = w2.heap.size := by omega
  obtain ⟨bZ0, bZ1, bZ2, bZ3, bZ4⟩ := box_cells HBZ5.out
  obtain ⟨fZ0, fZ1, fZ2, fZ3, fZ4⟩ := box_frozen HBZ5.out
  obtain ⟨bN0, bN1, bN2, bN3, bN4⟩ := box_cells HBN5.out
  obtain ⟨fN0, fN1, fN2, fN3, fN4⟩ := box_frozen HBN5.out
  obtain ⟨⟨tT0, tT1, tT2, tT3⟩, tfT0, tfT1, tfT2, tfT3⟩ := tok_cells HBT5.out
  obtain ⟨⟨tQ0, tQ1, tQ2, tQ3⟩, tfQ0, tfQ1, tfQ2, tfQ3⟩ := tok_cells HBQ5.out
  go_wp2_with fail
  rw [← hW]
  clear hW
  go_region_held3 (fun w' => w'.cell? ⟨w1.heap.size, 1, none⟩ = some (.string (hd l).text) ∧ w'.cell? ⟨w1.heap.size, 3, none⟩ = some (.int .i64 (hd l).pos) ∧ w'.cell? ⟨w2.heap.size, 1, none⟩ = some (.string (hd l.tail).text) ∧ w'.cell? ⟨w4.heap.size, 0, none⟩ = some (.string U.op) ∧ w'.cell? ⟨w4.heap.size, 1, none⟩ = some (.string U.name) ∧ w'.cell? ⟨w4.heap.size, 2, none⟩ = some (.int .i64 U.n) ∧ w'.cell? ⟨w4.heap.size, 3, none⟩ = some (.int .i64 U.pos) ∧ w'.cell? ⟨w4.heap.size, 4, none⟩ = some (.slice U.a U.kids.len U.cap)) (go_keep) (first | (go_at_call 89; refine (HORD.out _).mono ?_; rintro eo wo ⟨rfl, rfl⟩))
  all_goals
    go_wp2_with fail
    refine ret_node (B := w.heap.size) op (hd l.tail).text nn (hd l).pos (some ⟨w5.heap.size, 0, none⟩) 1 1 Tryd.results108 rfl rfl (by repeat (with_reducible first | exact node_set HBZ5.out _ _ _ _ _ _ _ | exact node_setd HBZ5.out _ _ _ _ _ _ _ | refine drew_heap ?_ | refine (Below.heap_alloc _ _ _ (by simp; omega)).trans ?_)) ⟨⟨op, (hd l.tail).text, nn, (hd l).pos, some ⟨w5.heap.size, 0, none⟩, 1, .cons U.op U.name U.n U.pos U.a U.cap U.kids .nil⟩, rfl, (by repeat (with_reducible first | exact HK5.out | refine Kp.drew ?_ | refine Kp.alloc ?_ _ | refine Kp.set ?_ (Nat.le_refl _) _)), ?_⟩
    have hfr : From (fun b => ¬ b = w.heap.size) w5 (((((w5.setCell ⟨w.heap.size, 0, none⟩ (.string op)).setCell ⟨w.heap.size, 1, none⟩ (.string (hd l.tail).text)).setCell ⟨w.heap.size, 2, none⟩ (.int .i64 nn)).setCell ⟨w.heap.size, 3, none⟩ (.int .i64 (hd l).pos)).setCell ⟨w.heap.size, 4, none⟩ (.slice (some ⟨w5.heap.size, 0, none⟩) 1 1)) := set5_from _ (fun h => h rfl) _ _ _ _ _
    cases r2 with
    | ok m l2 =>
      obtain ⟨hr, hg, hs⟩ := HO4.out
      have hr := hr.below HBL.out
      rw [H1.out m l2 rfl]
      refine ⟨(by repeat (with_reducible first | exact hr | refine RdS.drew ?_ | refine RdS.alloc ?_ _ | refine RdS.set ?_ hB _)), ?_, ?_⟩
      · refine Nd.Good.mono (S := fun b => w.heap.size + 1 ≤ b) ?_ (fun b hb => by omega)
        have hU := (hg.mono (S' := fun b => w.heap.size + 1 ≤ b) (fun b hb => by have h5 : w3.heap.size ≤ b := hb; omega)).from (From.below HBL.out)
        have hX := good1 (op := op) (name := (hd l.tail).text) (n := nn) (pos := (hd l).pos) (cap := 1) (S := fun b => w.heap.size + 1 ≤ b) (G := w5.heap.size) (by omega) (new_sets w5 (.cells #[.string U.op, .string U.name, .int .i64 U.n, .int .i64 U.pos, .slice U.a U.kids.len U.cap] 26) w.heap.size (.string op) (.string (hd l.tail).text) (.int .i64 nn) (.int .i64 (hd l).pos) (.slice (some ⟨w5.heap.size, 0, none⟩) 1 1)) ((hU.from (hfr.mono (fun b hb => by omega))).from (From.alloc _ _ _))
        exact hX.drew
      · show Nd.mk _ _ _ _ _ _ _ = _
        rw [← hs]
        rfl
    | bad a e =>
      have hr : RdS w4 B (d : Int) (.bad a e) := HO4.out
      have hr := hr.below HBL.out
      rw [H2.out a e rfl]
      show RdS _ B (d : Int) (.bad a e)
      exact (by repeat (with_reducible first | exact hr | refine RdS.drew ?_ | refine RdS.alloc ?_ _ | refine RdS.set ?_ hB _))
set_option maxRecDepth 100000 in
set_option maxHeartbeats 16000000 in
theorem quant_colon (op : ByteArray) (nn : Int) (l : List Tok) (w : World) (B d : Nat) (hP : PTB B w) (hS : RdS w B (d : Int) (.good l)) (hord : ∀ W, Calls Tryd.prog 89 #[.string (hd l).text] W fun e w' => e = .returned (.int .i64 nn) ∧ W = w') (hk1 : ((hd l.tail).kind == 1) = true) (hm : ((wrd l.tail.tail).toList == (ByteArray.mk #[58]).toList) = false) (hk : ∀ W, PTB B W → RdS W B (d : Int) (.bad (hd l.tail.tail).pos 2) → Calls Tryd.prog 107 #[.pointer (some ⟨B, 0, none⟩), .func (.func 42) #[.pointer (some ⟨B, 0, none⟩)] #[]] W (PostN B d W (.bad (hd l.tail.tail).pos 2))) : Calls Tryd.prog 108 #[.pointer (some ⟨B, 0, none⟩), .string op] w (PostN B d w (.bad (hd l.tail.tail).pos 2)) := by
  have HDK := Lib.hid hk
  have HORD := Lib.hid hord
  clear hk hord
  have HKIND := Lib.hid hk1
  clear hk1
  have HM := Lib.hid hm
  clear hm
  have hc5 := cellsNode
  have hc4 := cellsTok
  have hB := hS.lt
  have q3 := tok_f3
  have q0 := tok_f0
  have q2 := tok_f2
  have HS := Lib.hid hS
  have HP := Lib.hid hP
  clear hS hP
  go_enter Tryd.func108, Tryd.ntmps108
  have HC1 := Lib.hid (take_g l (w.alloc (boxOf ⟨#[]⟩ ⟨#[]⟩ 0 0 none 0 0)) B d (HS.out.alloc _))
  go_wp2_with fail
  refine HC1.out.mono ?_
  rintro e1 w1 ⟨rfl, hk1, hr1⟩
  have HK1 := Lib.hid (((Kp.refl B w).alloc _).trans hk1)
  have HR1 := Lib.hid hr1
  have HBZ1 := Lib.hid (hk1.blk (new_at w (boxOf ⟨#[]⟩ ⟨#[]⟩ 0 0 none 0 0)) (by omega))
  have hzZ1 := lt_heap HBZ1.out
  clear hk1
  have HC2 := Lib.hid (kind_g l.tail 1 (w1.alloc (tokBox (hd l).kind (hd l).text (hd l).n (hd l).pos)) B d HKIND.out (HR1.out.alloc _))
  go_wp2_with fail
  refine HC2.out.mono ?_
  rintro e2 w2 ⟨rfl, hk2, hr2⟩
  have HK2 := Lib.hid ((HK1.out.alloc _).trans hk2)
  have HR2 := Lib.hid hr2
  have HBZ2 := Lib.hid (hk2.blk ((Below.heap_alloc _ _ _ (lt_heap HBZ1.out)).trans HBZ1.out) (by omega))
  have hzZ2 := lt_heap HBZ2.out
  have HBT2 := Lib.hid (hk2.blk (new_at w1 (tokBox (hd l).kind (hd l).text (hd l).n (hd l).pos)) (by omega))
  have hzT2 := lt_heap HBT2.out
  clear hk2
  have HC3 := Lib.hid (must_no l.tail.tail ⟨#[58]⟩ (w2.alloc (tokBox (hd l.tail).kind (hd l.tail).text (hd l.tail).n (hd l.tail).pos)) B d HM.out (HR2.out.alloc _))
  go_wp2_with fail
  refine HC3.out.mono ?_
  rintro e3 w3 ⟨rfl, hk3, hr3⟩
  have HK3 := Lib.hid ((HK2.out.alloc _).trans hk3)
  have HR3 := Lib.hid hr3
  have HBZ3 := Lib.hid (hk3.blk ((Below.heap_alloc _ _ _ (lt_heap HBZ2.out)).trans HBZ2.out) (by omega))
  have hzZ3 := lt_heap HBZ3.out
  have HBT3 := Lib.hid (hk3.blk ((Below.heap_alloc _ _ _ (lt_heap HBT2.out)).trans HBT2.out) (by omega))
  have hzT3 := lt_heap HBT3.out
  have HBQ3 := Lib.hid (hk3.blk (new_at w2 (tokBox (hd l.tail).kind (hd l.tail).text (hd l.tail).n (hd l.tail).pos)) (by omega))
  have hzQ3 := lt_heap HBQ3.out
  clear hk3
  have HC4 := Lib.hid (HDK.out w3 (HP.out.kp HK3.out) HR3.out)
  go_wp2_with fail
  refine HC4.out.mono ?_
  rintro e4 w4 ⟨U, rfl, hk4, ho4⟩
  have HO4 := Lib.hid ho4
  clear ho4
  have HK4 := Lib.hid (HK3.out.trans hk4)
  have HBZ4 := Lib.hid (hk4.blk HBZ3.out (by omega))
  have hzZ4 := lt_heap HBZ4.out
  have HBT4 := Lib.hid (hk4.blk HBT3.out (by omega))
  have hzT4 := lt_heap HBT4.out
  have HBQ4 := Lib.hid (hk4.blk HBQ3.out (by omega))
  have hzQ4 := lt_heap HBQ4.out
  have HKL4 := Lib.hid hk4
  clear hk4
  have HR4 := Lib.hid (show RdS w4 B (d : Int) (.bad (hd l.tail.tail).pos 2) from HO4.out)
  obtain ⟨w5, hW⟩ : ∃ x, x = (w4.alloc (.cells #[.string U.op, .string U.name, .int .i64 U.n, .int .i64 U.pos, .slice U.a U.kids.len U.cap] 26)) := ⟨_, rfl⟩
  have hb5 : Below w4.heap.size w4 w5 := by rw [hW]; exact below_box _ _
  have HBN5 : RowKit.Hid (w5.heap[w4.heap.size]? = some (boxOf U.op U.name U.n U.pos U.a U.kids.len U.cap)) := Lib.hid (by rw [hW]; exact new_at _ _)
  have hzN5 := lt_heap HBN5.out
  have HK5 := Lib.hid (HK4.out.below hb5)
  have HR5 := Lib.hid (HR4.out.below hb5)
  have HBZ5 := Lib.hid ((hb5.block _ (lt_heap HBZ4.out)).trans HBZ4.out)
  have hzZ5 := lt_heap HBZ5.out
  have HBT5 := Lib.hid ((hb5.block _ (lt_heap HBT4.out)).trans HBT4.out)
  have hzT5 := lt_heap HBT5.out
  have HBQ5 := Lib.hid ((hb5.block _ (lt_heap HBQ4.out)).trans HBQ4.out)
  have hzQ5 := lt_heap HBQ5.out
  have HBL := Lib.hid hb5
  clear hb5
  have hne1 : ¬ w.heap.size = w1.heap.size := by omega
  have hme1 : ¬ w1.heap.size = w.heap.size := by omega
  have hne2 : ¬ w.heap.size = w2.heap.size := by omega
  have hme2 : ¬ w2.heap.size = w.heap.size := by omega
  have hne3 : ¬ w.heap.size = w4.heap.size := by omega
  have hme3 : ¬ w4.heap.size = w.heap.size := by omega
  have hne4 : ¬ w1.heap.size = w2.heap.size := by omega
  have hme4 : ¬ w2.heap.size = w1.heap.size := by omega
  have hne5 : ¬ w1.heap.size = w4.heap.size := by omega
  have hme5 : ¬ w4.heap.size = w1.heap.size := by omega
  have hne6 : ¬ w2.heap.size = w4.heap.size := by omega
  have hme6 : ¬ w4.heap.size = w2.heap.size := by omega
  obtain ⟨bZ0, bZ1, bZ2, bZ3, bZ4⟩ := box_cells HBZ5.out
  obtain ⟨fZ0, fZ1, fZ2, fZ3, fZ4⟩ := box_frozen HBZ5.out
  obtain ⟨bN0, bN1, bN2, bN3, bN4⟩ := box_cells HBN5.out
  obtain ⟨fN0, fN1, fN2, fN3, fN4⟩ := box_frozen HBN5.out
  obtain ⟨⟨tT0, tT1, tT2, tT3⟩, tfT0, tfT1, tfT2, tfT3⟩ := tok_cells HBT5.out
  obtain ⟨⟨tQ0, tQ1, tQ2, tQ3⟩, tfQ0, tfQ1, tfQ2, tfQ3⟩ := tok_cells HBQ5.out
  go_wp2_with fail
  rw [← hW]
  clear hW
  go_region_held3 (fun w' => w'.cell? ⟨w1.heap.size, 1, none⟩ = some (.string (hd l).text) ∧ w'.cell? ⟨w1.heap.size, 3, none⟩ = some (.int .i64 (hd l).pos) ∧ w'.cell? ⟨w2.heap.size, 1, none⟩ = some (.string (hd l.tail).text) ∧ w'.cell? ⟨w4.heap.size, 0, none⟩ = some (.string U.op) ∧ w'.cell? ⟨w4.heap.size, 1, none⟩ = some (.string U.name) ∧ w'.cell? ⟨w4.heap.size, 2, none⟩ = some (.int .i64 U.n) ∧ w'.cell? ⟨w4.heap.size, 3, none⟩ = some (.int .i64 U.pos) ∧ w'.cell? ⟨w4.heap.size, 4, none⟩ = some (.slice U.a U.kids.len U.cap)) (go_keep) (first | (go_at_call 89; refine (HORD.out _).mono ?_; rintro eo wo ⟨rfl, rfl⟩))
  all_goals
    go_wp2_with fail
    refine ret_node (B := w.heap.size) op (hd l.tail).text nn (hd l).pos (some ⟨w5.heap.size, 0, none⟩) 1 1 Tryd.results108 rfl rfl (by repeat (with_reducible first | exact node_set HBZ5.out _ _ _ _ _ _ _ | exact node_setd HBZ5.out _ _ _ _ _ _ _ | refine drew_heap ?_ | refine (Below.heap_alloc _ _ _ (by simp; omega)).trans ?_)) ⟨⟨op, (hd l.tail).text, nn, (hd l).pos, some ⟨w5.heap.size, 0, none⟩, 1, .cons U.op U.name U.n U.pos U.a U.cap U.kids .nil⟩, rfl, (by repeat (with_reducible first | exact HK5.out | refine Kp.drew ?_ | refine Kp.alloc ?_ _ | refine Kp.set ?_ (Nat.le_refl _) _)), ?_⟩
    show RdS _ B (d : Int) (.bad _ 2)
    exact (by repeat (with_reducible first | exact HR5.out | refine RdS.drew ?_ | refine RdS.alloc ?_ _ | refine RdS.set ?_ hB _))
set_option maxRecDepth 100000 in
set_option maxHeartbeats 16000000 in
theorem quant_name (op : ByteArray) (nn : Int) (l : List Tok) (w : World) (B d : Nat) (hP : PTB B w) (hS : RdS w B (d : Int) (.good l)) (hord : ∀ W, Calls Tryd.prog 89 #[.string (hd l).text] W fun e w' => e = .returned (.int .i64 nn) ∧ W = w') (hk1 : ((hd l.tail).kind == 1) = false) (hk : ∀ W, PTB B W → RdS W B (d : Int) (.bad (hd l.tail).pos 2) → Calls Tryd.prog 107 #[.pointer (some ⟨B, 0, none⟩), .func (.func 42) #[.pointer (some ⟨B, 0, none⟩)] #[]] W (PostN B d W (.bad (hd l.tail).pos 2))) : Calls Tryd.prog 108 #[.pointer (some ⟨B, 0, none⟩), .string op] w (PostN B d w (.bad (hd l.tail).pos 2)) := by
  have HDK := Lib.hid hk
  have HORD := Lib.hid hord
  clear hk hord
  have HKIND := Lib.hid hk1
  clear hk1
  have hc5 := cellsNode
  have hc4 := cellsTok
  have hB := hS.lt
  have q3 := tok_f3
  have q0 := tok_f0
  have q2 := tok_f2
  have HS := Lib.hid hS
  have HP := Lib.hid hP
  clear hS hP
  go_enter Tryd.func108, Tryd.ntmps108
  have HC1 := Lib.hid (take_g l (w.alloc (boxOf ⟨#[]⟩ ⟨#[]⟩ 0 0 none 0 0)) B d (HS.out.alloc _))
  go_wp2_with fail
  refine HC1.out.mono ?_
  rintro e1 w1 ⟨rfl, hk1, hr1⟩
  have HK1 := Lib.hid (((Kp.refl B w).alloc _).trans hk1)
  have HR1 := Lib.hid hr1
  have HBZ1 := Lib.hid (hk1.blk (new_at w (boxOf ⟨#[]⟩ ⟨#[]⟩ 0 0 none 0 0)) (by omega))
  have hzZ1 := lt_heap HBZ1.out
  clear hk1
  have HC2 := Lib.hid (kind_n l.tail 1 (w1.alloc (tokBox (hd l).kind (hd l).text (hd l).n (hd l).pos)) B d HKIND.out (HR1.out.alloc _))
  go_wp2_with fail
  refine HC2.out.mono ?_
  rintro e2 w2 ⟨rfl, hk2, hr2⟩
  have HK2 := Lib.hid ((HK1.out.alloc _).trans hk2)
  have HR2 := Lib.hid hr2
  have HBZ2 := Lib.hid (hk2.blk ((Below.heap_alloc _ _ _ (lt_heap HBZ1.out)).trans HBZ1.out) (by omega))
  have hzZ2 := lt_heap HBZ2.out
  have HBT2 := Lib.hid (hk2.blk (new_at w1 (tokBox (hd l).kind (hd l).text (hd l).n (hd l).pos)) (by omega))
  have hzT2 := lt_heap HBT2.out
  clear hk2
  have HC3 := Lib.hid (must_b ⟨#[58]⟩ (w2.alloc (tokBox 0 ⟨#[]⟩ 0 0)) B d _ _ (by decide +kernel) (HR2.out.alloc _))
  go_wp2_with fail
  refine HC3.out.mono ?_
  rintro e3 w3 ⟨rfl, hk3, hr3⟩
  have HK3 := Lib.hid ((HK2.out.alloc _).trans hk3)
  have HR3 := Lib.hid hr3
  have HBZ3 := Lib.hid (hk3.blk ((Below.heap_alloc _ _ _ (lt_heap HBZ2.out)).trans HBZ2.out) (by omega))
  have hzZ3 := lt_heap HBZ3.out
  have HBT3 := Lib.hid (hk3.blk ((Below.heap_alloc _ _ _ (lt_heap HBT2.out)).trans HBT2.out) (by omega))
  have hzT3 := lt_heap HBT3.out
  have HBQ3 := Lib.hid (hk3.blk (new_at w2 (tokBox 0 ⟨#[]⟩ 0 0)) (by omega))
  have hzQ3 := lt_heap HBQ3.out
  clear hk3
  have HC4 := Lib.hid (HDK.out w3 (HP.out.kp HK3.out) HR3.out)
  go_wp2_with fail
  refine HC4.out.mono ?_
  rintro e4 w4 ⟨U, rfl, hk4, ho4⟩
  have HO4 := Lib.hid ho4
  clear ho4
  have HK4 := Lib.hid (HK3.out.trans hk4)
  have HBZ4 := Lib.hid (hk4.blk HBZ3.out (by omega))
  have hzZ4 := lt_heap HBZ4.out
  have HBT4 := Lib.hid (hk4.blk HBT3.out (by omega))
  have hzT4 := lt_heap HBT4.out
  have HBQ4 := Lib.hid (hk4.blk HBQ3.out (by omega))
  have hzQ4 := lt_heap HBQ4.out
  have HKL4 := Lib.hid hk4
  clear hk4
  have HR4 := Lib.hid (show RdS w4 B (d : Int) (.bad (hd l.tail).pos 2) from HO4.out)
  obtain ⟨w5, hW⟩ : ∃ x, x = (w4.alloc (.cells #[.string U.op, .string U.name, .int .i64 U.n, .int .i64 U.pos, .slice U.a U.kids.len U.cap] 26)) := ⟨_, rfl⟩
  have hb5 : Below w4.heap.size w4 w5 := by rw [hW]; exact below_box _ _
  have HBN5 : RowKit.Hid (w5.heap[w4.heap.size]? = some (boxOf U.op U.name U.n U.pos U.a U.kids.len U.cap)) := Lib.hid (by rw [hW]; exact new_at _ _)
  have hzN5 := lt_heap HBN5.out
  have HK5 := Lib.hid (HK4.out.below hb5)
  have HR5 := Lib.hid (HR4.out.below hb5)
  have HBZ5 := Lib.hid ((hb5.block _ (lt_heap HBZ4.out)).trans HBZ4.out)
  have hzZ5 := lt_heap HBZ5.out
  have HBT5 := Lib.hid ((hb5.block _ (lt_heap HBT4.out)).trans HBT4.out)
  have hzT5 := lt_heap HBT5.out
  have HBQ5 := Lib.hid ((hb5.block _ (lt_heap HBQ4.out)).trans HBQ4.out)
  have hzQ5 := lt_heap HBQ5.out
  have HBL := Lib.hid hb5
  clear hb5
  have hne1 : ¬ w.heap.size = w1.heap.size := by omega
  have hme1 : ¬ w1.heap.size = w.heap.size := by omega
  have hne2 : ¬ w.heap.size = w2.heap.size := by omega
  have hme2 : ¬ w2.heap.size = w.heap.size := by omega
  have hne3 : ¬ w.heap.size = w4.heap.size := by omega
  have hme3 : ¬ w4.heap.size = w.heap.size := by omega
  have hne4 : ¬ w1.heap.size = w2.heap.size := by omega
  have hme4 : ¬ w2.heap.size = w1.heap.size := by omega
  have hne5 : ¬ w1.heap.size = w4.heap.size := by omega
  have hme5 : ¬ w4.heap.size = w1.heap.size := by omega
  have hne6 : ¬ w2.heap.size = w4.heap.size := by omega
  have hme6 : ¬ w4.heap.size = w2.heap.size := by omega
  obtain ⟨bZ0, bZ1, bZ2, bZ3, bZ4⟩ := box_cells HBZ5.out
  obtain ⟨fZ0, fZ1, fZ2, fZ3, fZ4⟩ := box_frozen HBZ5.out
  obtain ⟨bN0, bN1, bN2, bN3, bN4⟩ := box_cells HBN5.out
  obtain ⟨fN0, fN1, fN2, fN3, fN4⟩ := box_frozen HBN5.out
  obtain ⟨⟨tT0, tT1, tT2, tT3⟩, tfT0, tfT1, tfT2, tfT3⟩ := tok_cells HBT5.out
  obtain ⟨⟨tQ0, tQ1, tQ2, tQ3⟩, tfQ0, tfQ1, tfQ2, tfQ3⟩ := tok_cells HBQ5.out
  go_wp2_with fail
  rw [← hW]
  clear hW
  go_region_held3 (fun w' => w'.cell? ⟨w1.heap.size, 1, none⟩ = some (.string (hd l).text) ∧ w'.cell? ⟨w1.heap.size, 3, none⟩ = some (.int .i64 (hd l).pos) ∧ w'.cell? ⟨w2.heap.size, 1, none⟩ = some (.string ⟨#[]⟩) ∧ w'.cell? ⟨w4.heap.size, 0, none⟩ = some (.string U.op) ∧ w'.cell? ⟨w4.heap.size, 1, none⟩ = some (.string U.name) ∧ w'.cell? ⟨w4.heap.size, 2, none⟩ = some (.int .i64 U.n) ∧ w'.cell? ⟨w4.heap.size, 3, none⟩ = some (.int .i64 U.pos) ∧ w'.cell? ⟨w4.heap.size, 4, none⟩ = some (.slice U.a U.kids.len U.cap)) (go_keep) (first | (go_at_call 89; refine (HORD.out _).mono ?_; rintro eo wo ⟨rfl, rfl⟩))
  all_goals
    go_wp2_with fail
    refine ret_node (B := w.heap.size) op ⟨#[]⟩ nn (hd l).pos (some ⟨w5.heap.size, 0, none⟩) 1 1 Tryd.results108 rfl rfl (by repeat (with_reducible first | exact node_set HBZ5.out _ _ _ _ _ _ _ | exact node_setd HBZ5.out _ _ _ _ _ _ _ | refine drew_heap ?_ | refine (Below.heap_alloc _ _ _ (by simp; omega)).trans ?_)) ⟨⟨op, ⟨#[]⟩, nn, (hd l).pos, some ⟨w5.heap.size, 0, none⟩, 1, .cons U.op U.name U.n U.pos U.a U.cap U.kids .nil⟩, rfl, (by repeat (with_reducible first | exact HK5.out | refine Kp.drew ?_ | refine Kp.alloc ?_ _ | refine Kp.set ?_ (Nat.le_refl _) _)), ?_⟩
    show RdS _ B (d : Int) (.bad _ 2)
    exact (by repeat (with_reducible first | exact HR5.out | refine RdS.drew ?_ | refine RdS.alloc ?_ _ | refine RdS.set ?_ hB _))
end Go.Proofs.YtmmicnjiikiklaaDoor
