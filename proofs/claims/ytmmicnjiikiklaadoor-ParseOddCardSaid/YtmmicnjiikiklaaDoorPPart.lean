/- part, named. -/
import Derived.Test.YtmmicnjiikiklaaDoorPSay
import Derived.Test.YtmmicnjiikiklaaDoorLexA
import Derived.Test.YtmmicnjiikiklaaDoorRows
import Derived.WalkKit
import Derived.WalkLawsBesides
import Derived.WalkSpells
import Derived.ProofKit
import Derived.Outline
import Derived.Deep.QuietTactic
import Derived.BigQuiet
import Derived.Deep.Light
import Derived.Deep.CutBlock
import Derived.Deep.DeepCutAuto
import Derived.Deep.DeepFit
import Derived.Deep.LoopGhost
import Derived.Lib.Hide
import Derived.Lib.OthersKept
import Derived.IntWalk
import Derived.StillTailTactics
import Derived.Deep.RegionHeld3
namespace Go.Proofs.YtmmicnjiikiklaaDoor
open Go.RowKit
/-! part, named, the rows of kids. -/
theorem new_sets (w : World) (ob : Obj) (B : Nat) (a b c d e : Value) : ((((((w.setCell ⟨B, 0, none⟩ a).setCell ⟨B, 1, none⟩ b).setCell ⟨B, 2, none⟩ c).setCell ⟨B, 3, none⟩ d).setCell ⟨B, 4, none⟩ e).alloc ob).heap[w.heap.size]? = some ob := by
  have h := new_at (((((w.setCell ⟨B, 0, none⟩ a).setCell ⟨B, 1, none⟩ b).setCell ⟨B, 2, none⟩ c).setCell ⟨B, 3, none⟩ d).setCell ⟨B, 4, none⟩ e) ob
  rw [set5_size] at h
  exact h
set_option maxRecDepth 100000 in
set_option maxHeartbeats 16000000 in
theorem part_b : BadN 115 := by
  intro w B d a e hdd hP hS
  have hc5 := cellsNode
  have hc4 := cellsTok
  have hB := hS.lt
  have q3 := tok_f3
  have q0 := tok_f0
  have q2 := tok_f2
  have HS := Lib.hid hS
  have HP := Lib.hid hP
  clear hS hP
  go_enter Tryd.func115, Tryd.ntmps115
  have HC1 := Lib.hid (word_b (w.alloc (boxOf ⟨#[]⟩ ⟨#[]⟩ 0 0 none 0 0)) B d a e (HS.out.alloc _))
  go_wp2_with fail
  refine HC1.out.mono ?_
  rintro e1 w1 ⟨rfl, hb1⟩
  have HK1 := Lib.hid (((Kp.refl B w).alloc _).below hb1)
  have HR1 := Lib.hid ((HS.out.alloc _).below hb1)
  have HBZ1 := Lib.hid ((hb1.block _ (lt_heap (new_at w (boxOf ⟨#[]⟩ ⟨#[]⟩ 0 0 none 0 0)))).trans (new_at w (boxOf ⟨#[]⟩ ⟨#[]⟩ 0 0 none 0 0)))
  have hzZ1 := lt_heap HBZ1.out
  clear hb1
  have HC2 := Lib.hid (now_b w1 B d a e HR1.out)
  go_wp2_with fail
  refine HC2.out.mono ?_
  rintro e2 w2 ⟨rfl, hb2⟩
  have HK2 := Lib.hid (HK1.out.below hb2)
  have HR2 := Lib.hid (HR1.out.below hb2)
  have HBZ2 := Lib.hid ((hb2.block _ (lt_heap HBZ1.out)).trans HBZ1.out)
  have hzZ2 := lt_heap HBZ2.out
  clear hb2
  have HC3 := Lib.hid (unfit_b w2 B d a e HR2.out)
  go_wp2_with fail
  refine HC3.out.mono ?_
  rintro e3 w3 ⟨rfl, hk3, hr3⟩
  have HK3 := Lib.hid (HK2.out.trans hk3)
  have HR3 := Lib.hid hr3
  have HBZ3 := Lib.hid (hk3.blk HBZ2.out (by omega))
  have hzZ3 := lt_heap HBZ3.out
  clear hk3
  obtain ⟨bZ0, bZ1, bZ2, bZ3, bZ4⟩ := box_cells HBZ3.out
  obtain ⟨fZ0, fZ1, fZ2, fZ3, fZ4⟩ := box_frozen HBZ3.out
  go_wp2_with fail
  refine ret_node (B := w.heap.size) ⟨#[]⟩ ⟨#[]⟩ 0 0 none 0 0 Tryd.results115 rfl rfl (by repeat (with_reducible first | exact node_set HBZ3.out _ _ _ _ _ _ _ | refine (Below.heap_alloc _ _ _ (by simp; omega)).trans ?_)) ⟨⟨⟨#[]⟩, ⟨#[]⟩, 0, 0, none, 0, .nil⟩, rfl, (by repeat (with_reducible first | exact HK3.out | refine Kp.alloc ?_ _ | refine Kp.set ?_ (Nat.le_refl _) _)), ?_⟩
  show RdS _ B (d : Int) (.bad a e)
  exact (by repeat (with_reducible first | exact HR3.out | refine RdS.alloc ?_ _ | refine RdS.set ?_ hB _))
set_option maxRecDepth 100000 in
set_option maxHeartbeats 16000000 in
theorem named_no (l : List Tok) (w : World) (B d : Nat) (hP : PTB B w) (hS : RdS w B (d : Int) (.good l)) (hw : ((wrd l.tail).toList == (ByteArray.mk #[43]).toList) = false) : Calls Tryd.prog 117 #[.pointer (some ⟨B, 0, none⟩)] w (PostN B d w (.ok (mkN tVarB (hd l).text 0 (hd l).pos []) l.tail)) := by
  have hc5 := cellsNode
  have hc4 := cellsTok
  have hB := hS.lt
  have q3 := tok_f3
  have q0 := tok_f0
  have q2 := tok_f2
  have HS := Lib.hid hS
  have HP := Lib.hid hP
  clear hS hP
  go_enter Tryd.func117, Tryd.ntmps117
  have HC1 := Lib.hid (take_g l (w.alloc (boxOf ⟨#[]⟩ ⟨#[]⟩ 0 0 none 0 0)) B d (HS.out.alloc _))
  go_wp2_with fail
  refine HC1.out.mono ?_
  rintro e1 w1 ⟨rfl, hk1, hr1⟩
  have HK1 := Lib.hid (((Kp.refl B w).alloc _).trans hk1)
  have HR1 := Lib.hid hr1
  have HBZ1 := Lib.hid (hk1.blk (new_at w (boxOf ⟨#[]⟩ ⟨#[]⟩ 0 0 none 0 0)) (by omega))
  have hzZ1 := lt_heap HBZ1.out
  clear hk1
  have HC2 := Lib.hid (may_no l.tail ⟨#[43]⟩ ((w1.alloc (tokBox (hd l).kind (hd l).text (hd l).n (hd l).pos)).alloc (boxOf tVarB (hd l).text 0 (hd l).pos none 0 0)) B d hw ((HR1.out.alloc _).alloc _))
  go_wp2_with fail
  refine HC2.out.mono ?_
  rintro e2 w2 ⟨rfl, hk2, hr2⟩
  have HK2 := Lib.hid (((HK1.out.alloc _).alloc _).trans hk2)
  have HR2 := Lib.hid hr2
  have HBZ2 := Lib.hid (hk2.blk ((Below.heap_alloc _ _ _ (lt_heap ((Below.heap_alloc _ _ _ (lt_heap HBZ1.out)).trans HBZ1.out))).trans ((Below.heap_alloc _ _ _ (lt_heap HBZ1.out)).trans HBZ1.out)) (by omega))
  have hzZ2 := lt_heap HBZ2.out
  have HBT2 := Lib.hid (hk2.blk ((Below.heap_alloc _ _ _ (lt_heap (new_at w1 (tokBox (hd l).kind (hd l).text (hd l).n (hd l).pos)))).trans (new_at w1 (tokBox (hd l).kind (hd l).text (hd l).n (hd l).pos))) (by omega))
  have hzT2 := lt_heap HBT2.out
  have HBN2 := Lib.hid (hk2.blk (by have h := new_at (w1.alloc (tokBox (hd l).kind (hd l).text (hd l).n (hd l).pos)) (boxOf tVarB (hd l).text 0 (hd l).pos none 0 0); rw [alloc_size] at h; exact h) (by omega))
  have hzN2 := lt_heap HBN2.out
  clear hk2
  have hne1 : ¬ w.heap.size = w1.heap.size := by omega
  have hme1 : ¬ w1.heap.size = w.heap.size := by omega
  have hne2 : ¬ w.heap.size = w1.heap.size + 1 := by omega
  have hme2 : ¬ w1.heap.size + 1 = w.heap.size := by omega
  have hne3 : ¬ w1.heap.size = w1.heap.size + 1 := by omega
  have hme3 : ¬ w1.heap.size + 1 = w1.heap.size := by omega
  obtain ⟨bN0, bN1, bN2, bN3, bN4⟩ := box_cells HBN2.out
  obtain ⟨fN0, fN1, fN2, fN3, fN4⟩ := box_frozen HBN2.out
  obtain ⟨bZ0, bZ1, bZ2, bZ3, bZ4⟩ := box_cells HBZ2.out
  obtain ⟨fZ0, fZ1, fZ2, fZ3, fZ4⟩ := box_frozen HBZ2.out
  go_wp2_with fail
  refine ret_node (B := w.heap.size) tVarB (hd l).text 0 (hd l).pos none 0 0 Tryd.results117 rfl rfl (by repeat (with_reducible first | exact node_set HBZ2.out _ _ _ _ _ _ _ | refine (Below.heap_alloc _ _ _ (by simp; omega)).trans ?_)) ⟨⟨tVarB, (hd l).text, 0, (hd l).pos, none, 0, .nil⟩, rfl, (by repeat (with_reducible first | exact HK2.out | refine Kp.alloc ?_ _ | refine Kp.set ?_ (Nat.le_refl _) _)), ?_⟩
  exact ⟨(by repeat (with_reducible first | exact HR2.out | refine RdS.alloc ?_ _ | refine RdS.set ?_ hB _)), Nd.Good.leaf _ _ _ _ _ _ _ _, rfl⟩
set_option maxRecDepth 100000 in
set_option maxHeartbeats 16000000 in
theorem named_plus (l : List Tok) (w : World) (B d : Nat) (hP : PTB B w) (hS : RdS w B (d : Int) (.good l)) (hw : ((wrd l.tail).toList == (ByteArray.mk #[43]).toList) = true) (hk : ((hd l.tail.tail).kind == 2) = true) (hn : ((hd l.tail.tail).n == 0) = false) : Calls Tryd.prog 117 #[.pointer (some ⟨B, 0, none⟩)] w (PostN B d w (.ok (mkN tPlusB emp0 (hd l.tail.tail).n (hd l).pos [mkN tVarB (hd l).text 0 (hd l).pos []]) l.tail.tail.tail)) := by
  have hc5 := cellsNode
  have hc4 := cellsTok
  have hB := hS.lt
  have q3 := tok_f3
  have q0 := tok_f0
  have q2 := tok_f2
  have HS := Lib.hid hS
  have HP := Lib.hid hP
  clear hS hP
  go_enter Tryd.func117, Tryd.ntmps117
  have HC1 := Lib.hid (take_g l (w.alloc (boxOf ⟨#[]⟩ ⟨#[]⟩ 0 0 none 0 0)) B d (HS.out.alloc _))
  go_wp2_with fail
  refine HC1.out.mono ?_
  rintro e1 w1 ⟨rfl, hk1, hr1⟩
  have HK1 := Lib.hid (((Kp.refl B w).alloc _).trans hk1)
  have HR1 := Lib.hid hr1
  have HBZ1 := Lib.hid (hk1.blk (new_at w (boxOf ⟨#[]⟩ ⟨#[]⟩ 0 0 none 0 0)) (by omega))
  have hzZ1 := lt_heap HBZ1.out
  clear hk1
  have HC2 := Lib.hid (may_yes l.tail ⟨#[43]⟩ ((w1.alloc (tokBox (hd l).kind (hd l).text (hd l).n (hd l).pos)).alloc (boxOf tVarB (hd l).text 0 (hd l).pos none 0 0)) B d hw ((HR1.out.alloc _).alloc _))
  go_wp2_with fail
  refine HC2.out.mono ?_
  rintro e2 w2 ⟨rfl, hk2, hr2⟩
  have HK2 := Lib.hid (((HK1.out.alloc _).alloc _).trans hk2)
  have HR2 := Lib.hid hr2
  have HBZ2 := Lib.hid (hk2.blk ((Below.heap_alloc _ _ _ (lt_heap ((Below.heap_alloc _ _ _ (lt_heap HBZ1.out)).trans HBZ1.out))).trans ((Below.heap_alloc _ _ _ (lt_heap HBZ1.out)).trans HBZ1.out)) (by omega))
  have hzZ2 := lt_heap HBZ2.out
  have HBT2 := Lib.hid (hk2.blk ((Below.heap_alloc _ _ _ (lt_heap (new_at w1 (tokBox (hd l).kind (hd l).text (hd l).n (hd l).pos)))).trans (new_at w1 (tokBox (hd l).kind (hd l).text (hd l).n (hd l).pos))) (by omega))
  have hzT2 := lt_heap HBT2.out
  have HBN2 := Lib.hid (hk2.blk (by have h := new_at (w1.alloc (tokBox (hd l).kind (hd l).text (hd l).n (hd l).pos)) (boxOf tVarB (hd l).text 0 (hd l).pos none 0 0); rw [alloc_size] at h; exact h) (by omega))
  have hzN2 := lt_heap HBN2.out
  clear hk2
  have HC3 := Lib.hid (now_g l.tail.tail w2 B d HR2.out)
  go_wp2_with fail
  refine HC3.out.mono ?_
  rintro e3 w3 ⟨rfl, hb3⟩
  have HK3 := Lib.hid (HK2.out.below hb3)
  have HR3 := Lib.hid (HR2.out.below hb3)
  have HBZ3 := Lib.hid ((hb3.block _ (lt_heap HBZ2.out)).trans HBZ2.out)
  have hzZ3 := lt_heap HBZ3.out
  have HBT3 := Lib.hid ((hb3.block _ (lt_heap HBT2.out)).trans HBT2.out)
  have hzT3 := lt_heap HBT3.out
  have HBN3 := Lib.hid ((hb3.block _ (lt_heap HBN2.out)).trans HBN2.out)
  have hzN3 := lt_heap HBN3.out
  clear hb3
  have HC4 := Lib.hid (kind_g l.tail.tail 2 w3.drew B d hk (HR3.out.drew))
  have HC5 := Lib.hid (kind_g l.tail.tail 2 (w3.alloc (boxOf tVarB (hd l).text 0 (hd l).pos none 0 0)).drew B d hk ((HR3.out.alloc _).drew))
  have hne1 : ¬ w.heap.size = w1.heap.size := by omega
  have hme1 : ¬ w1.heap.size = w.heap.size := by omega
  have hne2 : ¬ w.heap.size = w1.heap.size + 1 := by omega
  have hme2 : ¬ w1.heap.size + 1 = w.heap.size := by omega
  have hne3 : ¬ w1.heap.size = w1.heap.size + 1 := by omega
  have hme3 : ¬ w1.heap.size + 1 = w1.heap.size := by omega
  obtain ⟨bN0, bN1, bN2, bN3, bN4⟩ := box_cells HBN3.out
  obtain ⟨fN0, fN1, fN2, fN3, fN4⟩ := box_frozen HBN3.out
  obtain ⟨bZ0, bZ1, bZ2, bZ3, bZ4⟩ := box_cells HBZ3.out
  obtain ⟨fZ0, fZ1, fZ2, fZ3, fZ4⟩ := box_frozen HBZ3.out
  obtain ⟨⟨tT0, tT1, tT2, tT3⟩, tfT0, tfT1, tfT2, tfT3⟩ := tok_cells HBT3.out
  go_wp2_with fail
  go_region_held3 (fun w' => w'.cell? ⟨w1.heap.size, 3, none⟩ = some (.int .i64 (hd l).pos) ∧ w'.cell? ⟨w1.heap.size + 1, 0, none⟩ = some (.string tVarB) ∧ w'.cell? ⟨w1.heap.size + 1, 1, none⟩ = some (.string (hd l).text) ∧ w'.cell? ⟨w1.heap.size + 1, 2, none⟩ = some (.int .i64 0) ∧ w'.cell? ⟨w1.heap.size + 1, 3, none⟩ = some (.int .i64 (hd l).pos) ∧ w'.cell? ⟨w1.heap.size + 1, 4, none⟩ = some (.slice none 0 0)) (go_keep) (first | (go_at_call 44; refine HC4.out.mono ?_; clear bN0 bN1 bN2 bN3 bN4 fN0 fN1 fN2 fN3 fN4; clear bZ0 bZ1 bZ2 bZ3 bZ4 fZ0 fZ1 fZ2 fZ3 fZ4; clear tT0 tT1 tT2 tT3 tfT0 tfT1 tfT2 tfT3; rintro e4 w4 ⟨rfl, hk4, hr4⟩; have HK4 := Lib.hid ((HK3.out.drew).trans hk4); have HR4 := Lib.hid hr4; have HBZ4 := Lib.hid (hk4.blk HBZ3.out (by omega)); have hzZ4 := lt_heap HBZ4.out; have HBT4 := Lib.hid (hk4.blk HBT3.out (by omega)); have hzT4 := lt_heap HBT4.out; have HBN4 := Lib.hid (hk4.blk HBN3.out (by omega)); have hzN4 := lt_heap HBN4.out; clear hk4; obtain ⟨bN0, bN1, bN2, bN3, bN4⟩ := box_cells HBN4.out; obtain ⟨fN0, fN1, fN2, fN3, fN4⟩ := box_frozen HBN4.out; obtain ⟨bZ0, bZ1, bZ2, bZ3, bZ4⟩ := box_cells HBZ4.out; obtain ⟨fZ0, fZ1, fZ2, fZ3, fZ4⟩ := box_frozen HBZ4.out; obtain ⟨⟨tT0, tT1, tT2, tT3⟩, tfT0, tfT1, tfT2, tfT3⟩ := tok_cells HBT4.out) | (go_at_call 44; refine HC5.out.mono ?_; clear bN0 bN1 bN2 bN3 bN4 fN0 fN1 fN2 fN3 fN4; clear bZ0 bZ1 bZ2 bZ3 bZ4 fZ0 fZ1 fZ2 fZ3 fZ4; clear tT0 tT1 tT2 tT3 tfT0 tfT1 tfT2 tfT3; rintro e5 w5 ⟨rfl, hk5, hr5⟩; have HK5 := Lib.hid (((HK3.out.alloc _).drew).trans hk5); have HR5 := Lib.hid hr5; have HBZ5 := Lib.hid (hk5.blk ((Below.heap_alloc _ _ _ (lt_heap HBZ3.out)).trans HBZ3.out) (by omega)); have hzZ5 := lt_heap HBZ5.out; have HBT5 := Lib.hid (hk5.blk ((Below.heap_alloc _ _ _ (lt_heap HBT3.out)).trans HBT3.out) (by omega)); have hzT5 := lt_heap HBT5.out; have HBN5 := Lib.hid (hk5.blk ((Below.heap_alloc _ _ _ (lt_heap HBN3.out)).trans HBN3.out) (by omega)); have hzN5 := lt_heap HBN5.out; have HBG5 := Lib.hid (hk5.blk (new_at w3 (boxOf tVarB (hd l).text 0 (hd l).pos none 0 0)) (by omega)); have hzG5 := lt_heap HBG5.out; clear hk5; obtain ⟨bN0, bN1, bN2, bN3, bN4⟩ := box_cells HBN5.out; obtain ⟨fN0, fN1, fN2, fN3, fN4⟩ := box_frozen HBN5.out; obtain ⟨bZ0, bZ1, bZ2, bZ3, bZ4⟩ := box_cells HBZ5.out; obtain ⟨fZ0, fZ1, fZ2, fZ3, fZ4⟩ := box_frozen HBZ5.out; obtain ⟨⟨tT0, tT1, tT2, tT3⟩, tfT0, tfT1, tfT2, tfT3⟩ := tok_cells HBT5.out))
  · go_wp2_with fail
    refine ret_node (B := w.heap.size) tPlusB ⟨#[]⟩ (hd l.tail.tail).n (hd l).pos (some ⟨w4.heap.size, 0, none⟩) 1 1 Tryd.results117 rfl rfl (by repeat (with_reducible first | exact node_set HBZ4.out _ _ _ _ _ _ _ | refine (Below.heap_alloc _ _ _ (by simp; omega)).trans ?_)) ⟨⟨tPlusB, ⟨#[]⟩, (hd l.tail.tail).n, (hd l).pos, some ⟨w4.heap.size, 0, none⟩, 1, .cons tVarB (hd l).text 0 (hd l).pos none 0 .nil .nil⟩, rfl, (by repeat (with_reducible first | exact HK4.out | refine Kp.alloc ?_ _ | refine Kp.set ?_ (Nat.le_refl _) _)), ?_⟩
    refine ⟨(by repeat (with_reducible first | exact HR4.out | refine RdS.alloc ?_ _ | refine RdS.set ?_ hB _)), ?_, rfl⟩
    exact good1 (G := w4.heap.size) (by show w.heap.size ≤ w4.heap.size; omega) (new_sets _ _ _ _ _ _ _ _) (T := ⟨tVarB, (hd l).text, 0, (hd l).pos, none, 0, .nil⟩) (Nd.Good.leaf _ _ _ _ _ _ _ _)
  · go_wp2_with fail
    refine ret_node (B := w.heap.size) tPlusB ⟨#[]⟩ (hd l.tail.tail).n (hd l).pos (some ⟨w3.heap.size, 0, none⟩) 1 1 Tryd.results117 rfl rfl (by repeat (with_reducible first | exact node_set HBZ5.out _ _ _ _ _ _ _ | refine (Below.heap_alloc _ _ _ (by simp; omega)).trans ?_)) ⟨⟨tPlusB, ⟨#[]⟩, (hd l.tail.tail).n, (hd l).pos, some ⟨w3.heap.size, 0, none⟩, 1, .cons tVarB (hd l).text 0 (hd l).pos none 0 .nil .nil⟩, rfl, (by repeat (with_reducible first | exact HK5.out | refine Kp.alloc ?_ _ | refine Kp.set ?_ (Nat.le_refl _) _)), ?_⟩
    refine ⟨(by repeat (with_reducible first | exact HR5.out | refine RdS.alloc ?_ _ | refine RdS.set ?_ hB _)), ?_, rfl⟩
    exact good1 (G := w3.heap.size) (by show w.heap.size ≤ w3.heap.size; omega) (node_set_other HBG5.out (by omega) _ _ _ _ _) (T := ⟨tVarB, (hd l).text, 0, (hd l).pos, none, 0, .nil⟩) (Nd.Good.leaf _ _ _ _ _ _ _ _)
set_option maxRecDepth 100000 in
set_option maxHeartbeats 16000000 in
theorem named_zero (l : List Tok) (w : World) (B d : Nat) (hP : PTB B w) (hS : RdS w B (d : Int) (.good l)) (hw : ((wrd l.tail).toList == (ByteArray.mk #[43]).toList) = true) (hn : ((hd l.tail.tail).n == 0) = true) : Calls Tryd.prog 117 #[.pointer (some ⟨B, 0, none⟩)] w (PostN B d w (.bad (hd l.tail.tail).pos 2)) := by
  have hc5 := cellsNode
  have hc4 := cellsTok
  have hB := hS.lt
  have q3 := tok_f3
  have q0 := tok_f0
  have q2 := tok_f2
  have HS := Lib.hid hS
  have HP := Lib.hid hP
  clear hS hP
  go_enter Tryd.func117, Tryd.ntmps117
  have HC1 := Lib.hid (take_g l (w.alloc (boxOf ⟨#[]⟩ ⟨#[]⟩ 0 0 none 0 0)) B d (HS.out.alloc _))
  go_wp2_with fail
  refine HC1.out.mono ?_
  rintro e1 w1 ⟨rfl, hk1, hr1⟩
  have HK1 := Lib.hid (((Kp.refl B w).alloc _).trans hk1)
  have HR1 := Lib.hid hr1
  have HBZ1 := Lib.hid (hk1.blk (new_at w (boxOf ⟨#[]⟩ ⟨#[]⟩ 0 0 none 0 0)) (by omega))
  have hzZ1 := lt_heap HBZ1.out
  clear hk1
  have HC2 := Lib.hid (may_yes l.tail ⟨#[43]⟩ ((w1.alloc (tokBox (hd l).kind (hd l).text (hd l).n (hd l).pos)).alloc (boxOf tVarB (hd l).text 0 (hd l).pos none 0 0)) B d hw ((HR1.out.alloc _).alloc _))
  go_wp2_with fail
  refine HC2.out.mono ?_
  rintro e2 w2 ⟨rfl, hk2, hr2⟩
  have HK2 := Lib.hid (((HK1.out.alloc _).alloc _).trans hk2)
  have HR2 := Lib.hid hr2
  have HBZ2 := Lib.hid (hk2.blk ((Below.heap_alloc _ _ _ (lt_heap ((Below.heap_alloc _ _ _ (lt_heap HBZ1.out)).trans HBZ1.out))).trans ((Below.heap_alloc _ _ _ (lt_heap HBZ1.out)).trans HBZ1.out)) (by omega))
  have hzZ2 := lt_heap HBZ2.out
  have HBT2 := Lib.hid (hk2.blk ((Below.heap_alloc _ _ _ (lt_heap (new_at w1 (tokBox (hd l).kind (hd l).text (hd l).n (hd l).pos)))).trans (new_at w1 (tokBox (hd l).kind (hd l).text (hd l).n (hd l).pos))) (by omega))
  have hzT2 := lt_heap HBT2.out
  have HBN2 := Lib.hid (hk2.blk (by have h := new_at (w1.alloc (tokBox (hd l).kind (hd l).text (hd l).n (hd l).pos)) (boxOf tVarB (hd l).text 0 (hd l).pos none 0 0); rw [alloc_size] at h; exact h) (by omega))
  have hzN2 := lt_heap HBN2.out
  clear hk2
  have HC3 := Lib.hid (now_g l.tail.tail w2 B d HR2.out)
  go_wp2_with fail
  refine HC3.out.mono ?_
  rintro e3 w3 ⟨rfl, hb3⟩
  have HK3 := Lib.hid (HK2.out.below hb3)
  have HR3 := Lib.hid (HR2.out.below hb3)
  have HBZ3 := Lib.hid ((hb3.block _ (lt_heap HBZ2.out)).trans HBZ2.out)
  have hzZ3 := lt_heap HBZ3.out
  have HBT3 := Lib.hid ((hb3.block _ (lt_heap HBT2.out)).trans HBT2.out)
  have hzT3 := lt_heap HBT3.out
  have HBN3 := Lib.hid ((hb3.block _ (lt_heap HBN2.out)).trans HBN2.out)
  have hzN3 := lt_heap HBN3.out
  clear hb3
  have HC4 := Lib.hid (unfit_g l.tail.tail w3 B d HR3.out)
  go_wp2_with fail
  refine HC4.out.mono ?_
  rintro e4 w4 ⟨rfl, hk4, hr4⟩
  have HK4 := Lib.hid (HK3.out.trans hk4)
  have HR4 := Lib.hid hr4
  have HBZ4 := Lib.hid (hk4.blk HBZ3.out (by omega))
  have hzZ4 := lt_heap HBZ4.out
  have HBT4 := Lib.hid (hk4.blk HBT3.out (by omega))
  have hzT4 := lt_heap HBT4.out
  have HBN4 := Lib.hid (hk4.blk HBN3.out (by omega))
  have hzN4 := lt_heap HBN4.out
  clear hk4
  have HC5 := Lib.hid (kind_b 2 w4.drew B d _ _ rfl (HR4.out.drew))
  have HC6 := Lib.hid (kind_b 2 (w4.alloc (boxOf tVarB (hd l).text 0 (hd l).pos none 0 0)).drew B d _ _ rfl ((HR4.out.alloc _).drew))
  have hne1 : ¬ w.heap.size = w1.heap.size := by omega
  have hme1 : ¬ w1.heap.size = w.heap.size := by omega
  have hne2 : ¬ w.heap.size = w1.heap.size + 1 := by omega
  have hme2 : ¬ w1.heap.size + 1 = w.heap.size := by omega
  have hne3 : ¬ w1.heap.size = w1.heap.size + 1 := by omega
  have hme3 : ¬ w1.heap.size + 1 = w1.heap.size := by omega
  obtain ⟨bN0, bN1, bN2, bN3, bN4⟩ := box_cells HBN4.out
  obtain ⟨fN0, fN1, fN2, fN3, fN4⟩ := box_frozen HBN4.out
  obtain ⟨bZ0, bZ1, bZ2, bZ3, bZ4⟩ := box_cells HBZ4.out
  obtain ⟨fZ0, fZ1, fZ2, fZ3, fZ4⟩ := box_frozen HBZ4.out
  obtain ⟨⟨tT0, tT1, tT2, tT3⟩, tfT0, tfT1, tfT2, tfT3⟩ := tok_cells HBT4.out
  go_wp2_with fail
  go_region_held3 (fun w' => w'.cell? ⟨w1.heap.size, 3, none⟩ = some (.int .i64 (hd l).pos) ∧ w'.cell? ⟨w1.heap.size + 1, 0, none⟩ = some (.string tVarB) ∧ w'.cell? ⟨w1.heap.size + 1, 1, none⟩ = some (.string (hd l).text) ∧ w'.cell? ⟨w1.heap.size + 1, 2, none⟩ = some (.int .i64 0) ∧ w'.cell? ⟨w1.heap.size + 1, 3, none⟩ = some (.int .i64 (hd l).pos) ∧ w'.cell? ⟨w1.heap.size + 1, 4, none⟩ = some (.slice none 0 0)) (go_keep) (first | (go_at_call 44; refine HC5.out.mono ?_; clear bN0 bN1 bN2 bN3 bN4 fN0 fN1 fN2 fN3 fN4; clear bZ0 bZ1 bZ2 bZ3 bZ4 fZ0 fZ1 fZ2 fZ3 fZ4; clear tT0 tT1 tT2 tT3 tfT0 tfT1 tfT2 tfT3; rintro e5 w5 ⟨rfl, hk5, hr5⟩; have HK5 := Lib.hid ((HK4.out.drew).trans hk5); have HR5 := Lib.hid hr5; have HBZ5 := Lib.hid (hk5.blk HBZ4.out (by omega)); have hzZ5 := lt_heap HBZ5.out; have HBT5 := Lib.hid (hk5.blk HBT4.out (by omega)); have hzT5 := lt_heap HBT5.out; have HBN5 := Lib.hid (hk5.blk HBN4.out (by omega)); have hzN5 := lt_heap HBN5.out; clear hk5; obtain ⟨bN0, bN1, bN2, bN3, bN4⟩ := box_cells HBN5.out; obtain ⟨fN0, fN1, fN2, fN3, fN4⟩ := box_frozen HBN5.out; obtain ⟨bZ0, bZ1, bZ2, bZ3, bZ4⟩ := box_cells HBZ5.out; obtain ⟨fZ0, fZ1, fZ2, fZ3, fZ4⟩ := box_frozen HBZ5.out; obtain ⟨⟨tT0, tT1, tT2, tT3⟩, tfT0, tfT1, tfT2, tfT3⟩ := tok_cells HBT5.out) | (go_at_call 44; refine HC6.out.mono ?_; clear bN0 bN1 bN2 bN3 bN4 fN0 fN1 fN2 fN3 fN4; clear bZ0 bZ1 bZ2 bZ3 bZ4 fZ0 fZ1 fZ2 fZ3 fZ4; clear tT0 tT1 tT2 tT3 tfT0 tfT1 tfT2 tfT3; rintro e6 w6 ⟨rfl, hk6, hr6⟩; have HK6 := Lib.hid (((HK4.out.alloc _).drew).trans hk6); have HR6 := Lib.hid hr6; have HBZ6 := Lib.hid (hk6.blk ((Below.heap_alloc _ _ _ (lt_heap HBZ4.out)).trans HBZ4.out) (by omega)); have hzZ6 := lt_heap HBZ6.out; have HBT6 := Lib.hid (hk6.blk ((Below.heap_alloc _ _ _ (lt_heap HBT4.out)).trans HBT4.out) (by omega)); have hzT6 := lt_heap HBT6.out; have HBN6 := Lib.hid (hk6.blk ((Below.heap_alloc _ _ _ (lt_heap HBN4.out)).trans HBN4.out) (by omega)); have hzN6 := lt_heap HBN6.out; have HBG6 := Lib.hid (hk6.blk (new_at w4 (boxOf tVarB (hd l).text 0 (hd l).pos none 0 0)) (by omega)); have hzG6 := lt_heap HBG6.out; clear hk6; obtain ⟨bN0, bN1, bN2, bN3, bN4⟩ := box_cells HBN6.out; obtain ⟨fN0, fN1, fN2, fN3, fN4⟩ := box_frozen HBN6.out; obtain ⟨bZ0, bZ1, bZ2, bZ3, bZ4⟩ := box_cells HBZ6.out; obtain ⟨fZ0, fZ1, fZ2, fZ3, fZ4⟩ := box_frozen HBZ6.out; obtain ⟨⟨tT0, tT1, tT2, tT3⟩, tfT0, tfT1, tfT2, tfT3⟩ := tok_cells HBT6.out))
  · go_wp2_with fail
    refine ret_node (B := w.heap.size) tPlusB ⟨#[]⟩ 0 (hd l).pos (some ⟨w5.heap.size, 0, none⟩) 1 1 Tryd.results117 rfl rfl (by repeat (with_reducible first | exact node_set HBZ5.out _ _ _ _ _ _ _ | refine (Below.heap_alloc _ _ _ (by simp; omega)).trans ?_)) ⟨⟨tPlusB, ⟨#[]⟩, 0, (hd l).pos, some ⟨w5.heap.size, 0, none⟩, 1, .cons tVarB (hd l).text 0 (hd l).pos none 0 .nil .nil⟩, rfl, (by repeat (with_reducible first | exact HK5.out | refine Kp.alloc ?_ _ | refine Kp.set ?_ (Nat.le_refl _) _)), ?_⟩
    show RdS _ B (d : Int) (.bad _ 2)
    exact (by repeat (with_reducible first | exact HR5.out | refine RdS.alloc ?_ _ | refine RdS.set ?_ hB _))
  · go_wp2_with fail
    refine ret_node (B := w.heap.size) tPlusB ⟨#[]⟩ 0 (hd l).pos (some ⟨w4.heap.size, 0, none⟩) 1 1 Tryd.results117 rfl rfl (by repeat (with_reducible first | exact node_set HBZ6.out _ _ _ _ _ _ _ | refine (Below.heap_alloc _ _ _ (by simp; omega)).trans ?_)) ⟨⟨tPlusB, ⟨#[]⟩, 0, (hd l).pos, some ⟨w4.heap.size, 0, none⟩, 1, .cons tVarB (hd l).text 0 (hd l).pos none 0 .nil .nil⟩, rfl, (by repeat (with_reducible first | exact HK6.out | refine Kp.alloc ?_ _ | refine Kp.set ?_ (Nat.le_refl _) _)), ?_⟩
    show RdS _ B (d : Int) (.bad _ 2)
    exact (by repeat (with_reducible first | exact HR6.out | refine RdS.alloc ?_ _ | refine RdS.set ?_ hB _))
set_option maxRecDepth 100000 in
set_option maxHeartbeats 16000000 in
theorem named_kind (l : List Tok) (w : World) (B d : Nat) (hP : PTB B w) (hS : RdS w B (d : Int) (.good l)) (hw : ((wrd l.tail).toList == (ByteArray.mk #[43]).toList) = true) (hk : ((hd l.tail.tail).kind == 2) = false) (hn : ((hd l.tail.tail).n == 0) = false) : Calls Tryd.prog 117 #[.pointer (some ⟨B, 0, none⟩)] w (PostN B d w (.bad (hd l.tail.tail).pos 2)) := by
  have hc5 := cellsNode
  have hc4 := cellsTok
  have hB := hS.lt
  have q3 := tok_f3
  have q0 := tok_f0
  have q2 := tok_f2
  have HS := Lib.hid hS
  have HP := Lib.hid hP
  clear hS hP
  go_enter Tryd.func117, Tryd.ntmps117
  have HC1 := Lib.hid (take_g l (w.alloc (boxOf ⟨#[]⟩ ⟨#[]⟩ 0 0 none 0 0)) B d (HS.out.alloc _))
  go_wp2_with fail
  refine HC1.out.mono ?_
  rintro e1 w1 ⟨rfl, hk1, hr1⟩
  have HK1 := Lib.hid (((Kp.refl B w).alloc _).trans hk1)
  have HR1 := Lib.hid hr1
  have HBZ1 := Lib.hid (hk1.blk (new_at w (boxOf ⟨#[]⟩ ⟨#[]⟩ 0 0 none 0 0)) (by omega))
  have hzZ1 := lt_heap HBZ1.out
  clear hk1
  have HC2 := Lib.hid (may_yes l.tail ⟨#[43]⟩ ((w1.alloc (tokBox (hd l).kind (hd l).text (hd l).n (hd l).pos)).alloc (boxOf tVarB (hd l).text 0 (hd l).pos none 0 0)) B d hw ((HR1.out.alloc _).alloc _))
  go_wp2_with fail
  refine HC2.out.mono ?_
  rintro e2 w2 ⟨rfl, hk2, hr2⟩
  have HK2 := Lib.hid (((HK1.out.alloc _).alloc _).trans hk2)
  have HR2 := Lib.hid hr2
  have HBZ2 := Lib.hid (hk2.blk ((Below.heap_alloc _ _ _ (lt_heap ((Below.heap_alloc _ _ _ (lt_heap HBZ1.out)).trans HBZ1.out))).trans ((Below.heap_alloc _ _ _ (lt_heap HBZ1.out)).trans HBZ1.out)) (by omega))
  have hzZ2 := lt_heap HBZ2.out
  have HBT2 := Lib.hid (hk2.blk ((Below.heap_alloc _ _ _ (lt_heap (new_at w1 (tokBox (hd l).kind (hd l).text (hd l).n (hd l).pos)))).trans (new_at w1 (tokBox (hd l).kind (hd l).text (hd l).n (hd l).pos))) (by omega))
  have hzT2 := lt_heap HBT2.out
  have HBN2 := Lib.hid (hk2.blk (by have h := new_at (w1.alloc (tokBox (hd l).kind (hd l).text (hd l).n (hd l).pos)) (boxOf tVarB (hd l).text 0 (hd l).pos none 0 0); rw [alloc_size] at h; exact h) (by omega))
  have hzN2 := lt_heap HBN2.out
  clear hk2
  have HC3 := Lib.hid (now_g l.tail.tail w2 B d HR2.out)
  go_wp2_with fail
  refine HC3.out.mono ?_
  rintro e3 w3 ⟨rfl, hb3⟩
  have HK3 := Lib.hid (HK2.out.below hb3)
  have HR3 := Lib.hid (HR2.out.below hb3)
  have HBZ3 := Lib.hid ((hb3.block _ (lt_heap HBZ2.out)).trans HBZ2.out)
  have hzZ3 := lt_heap HBZ3.out
  have HBT3 := Lib.hid ((hb3.block _ (lt_heap HBT2.out)).trans HBT2.out)
  have hzT3 := lt_heap HBT3.out
  have HBN3 := Lib.hid ((hb3.block _ (lt_heap HBN2.out)).trans HBN2.out)
  have hzN3 := lt_heap HBN3.out
  clear hb3
  have HC4 := Lib.hid (kind_n l.tail.tail 2 w3.drew B d hk (HR3.out.drew))
  have HC5 := Lib.hid (kind_n l.tail.tail 2 (w3.alloc (boxOf tVarB (hd l).text 0 (hd l).pos none 0 0)).drew B d hk ((HR3.out.alloc _).drew))
  have hne1 : ¬ w.heap.size = w1.heap.size := by omega
  have hme1 : ¬ w1.heap.size = w.heap.size := by omega
  have hne2 : ¬ w.heap.size = w1.heap.size + 1 := by omega
  have hme2 : ¬ w1.heap.size + 1 = w.heap.size := by omega
  have hne3 : ¬ w1.heap.size = w1.heap.size + 1 := by omega
  have hme3 : ¬ w1.heap.size + 1 = w1.heap.size := by omega
  obtain ⟨bN0, bN1, bN2, bN3, bN4⟩ := box_cells HBN3.out
  obtain ⟨fN0, fN1, fN2, fN3, fN4⟩ := box_frozen HBN3.out
  obtain ⟨bZ0, bZ1, bZ2, bZ3, bZ4⟩ := box_cells HBZ3.out
  obtain ⟨fZ0, fZ1, fZ2, fZ3, fZ4⟩ := box_frozen HBZ3.out
  obtain ⟨⟨tT0, tT1, tT2, tT3⟩, tfT0, tfT1, tfT2, tfT3⟩ := tok_cells HBT3.out
  go_wp2_with fail
  go_region_held3 (fun w' => w'.cell? ⟨w1.heap.size, 3, none⟩ = some (.int .i64 (hd l).pos) ∧ w'.cell? ⟨w1.heap.size + 1, 0, none⟩ = some (.string tVarB) ∧ w'.cell? ⟨w1.heap.size + 1, 1, none⟩ = some (.string (hd l).text) ∧ w'.cell? ⟨w1.heap.size + 1, 2, none⟩ = some (.int .i64 0) ∧ w'.cell? ⟨w1.heap.size + 1, 3, none⟩ = some (.int .i64 (hd l).pos) ∧ w'.cell? ⟨w1.heap.size + 1, 4, none⟩ = some (.slice none 0 0)) (go_keep) (first | (go_at_call 44; refine HC4.out.mono ?_; clear bN0 bN1 bN2 bN3 bN4 fN0 fN1 fN2 fN3 fN4; clear bZ0 bZ1 bZ2 bZ3 bZ4 fZ0 fZ1 fZ2 fZ3 fZ4; clear tT0 tT1 tT2 tT3 tfT0 tfT1 tfT2 tfT3; rintro e4 w4 ⟨rfl, hk4, hr4⟩; have HK4 := Lib.hid ((HK3.out.drew).trans hk4); have HR4 := Lib.hid hr4; have HBZ4 := Lib.hid (hk4.blk HBZ3.out (by omega)); have hzZ4 := lt_heap HBZ4.out; have HBT4 := Lib.hid (hk4.blk HBT3.out (by omega)); have hzT4 := lt_heap HBT4.out; have HBN4 := Lib.hid (hk4.blk HBN3.out (by omega)); have hzN4 := lt_heap HBN4.out; clear hk4; obtain ⟨bN0, bN1, bN2, bN3, bN4⟩ := box_cells HBN4.out; obtain ⟨fN0, fN1, fN2, fN3, fN4⟩ := box_frozen HBN4.out; obtain ⟨bZ0, bZ1, bZ2, bZ3, bZ4⟩ := box_cells HBZ4.out; obtain ⟨fZ0, fZ1, fZ2, fZ3, fZ4⟩ := box_frozen HBZ4.out; obtain ⟨⟨tT0, tT1, tT2, tT3⟩, tfT0, tfT1, tfT2, tfT3⟩ := tok_cells HBT4.out) | (go_at_call 44; refine HC5.out.mono ?_; clear bN0 bN1 bN2 bN3 bN4 fN0 fN1 fN2 fN3 fN4; clear bZ0 bZ1 bZ2 bZ3 bZ4 fZ0 fZ1 fZ2 fZ3 fZ4; clear tT0 tT1 tT2 tT3 tfT0 tfT1 tfT2 tfT3; rintro e5 w5 ⟨rfl, hk5, hr5⟩; have HK5 := Lib.hid (((HK3.out.alloc _).drew).trans hk5); have HR5 := Lib.hid hr5; have HBZ5 := Lib.hid (hk5.blk ((Below.heap_alloc _ _ _ (lt_heap HBZ3.out)).trans HBZ3.out) (by omega)); have hzZ5 := lt_heap HBZ5.out; have HBT5 := Lib.hid (hk5.blk ((Below.heap_alloc _ _ _ (lt_heap HBT3.out)).trans HBT3.out) (by omega)); have hzT5 := lt_heap HBT5.out; have HBN5 := Lib.hid (hk5.blk ((Below.heap_alloc _ _ _ (lt_heap HBN3.out)).trans HBN3.out) (by omega)); have hzN5 := lt_heap HBN5.out; have HBG5 := Lib.hid (hk5.blk (new_at w3 (boxOf tVarB (hd l).text 0 (hd l).pos none 0 0)) (by omega)); have hzG5 := lt_heap HBG5.out; clear hk5; obtain ⟨bN0, bN1, bN2, bN3, bN4⟩ := box_cells HBN5.out; obtain ⟨fN0, fN1, fN2, fN3, fN4⟩ := box_frozen HBN5.out; obtain ⟨bZ0, bZ1, bZ2, bZ3, bZ4⟩ := box_cells HBZ5.out; obtain ⟨fZ0, fZ1, fZ2, fZ3, fZ4⟩ := box_frozen HBZ5.out; obtain ⟨⟨tT0, tT1, tT2, tT3⟩, tfT0, tfT1, tfT2, tfT3⟩ := tok_cells HBT5.out))
  · go_wp2_with fail
    refine ret_node (B := w.heap.size) tPlusB ⟨#[]⟩ 0 (hd l).pos (some ⟨w4.heap.size, 0, none⟩) 1 1 Tryd.results117 rfl rfl (by repeat (with_reducible first | exact node_set HBZ4.out _ _ _ _ _ _ _ | refine (Below.heap_alloc _ _ _ (by simp; omega)).trans ?_)) ⟨⟨tPlusB, ⟨#[]⟩, 0, (hd l).pos, some ⟨w4.heap.size, 0, none⟩, 1, .cons tVarB (hd l).text 0 (hd l).pos none 0 .nil .nil⟩, rfl, (by repeat (with_reducible first | exact HK4.out | refine Kp.alloc ?_ _ | refine Kp.set ?_ (Nat.le_refl _) _)), ?_⟩
    show RdS _ B (d : Int) (.bad _ 2)
    exact (by repeat (with_reducible first | exact HR4.out | refine RdS.alloc ?_ _ | refine RdS.set ?_ hB _))
  · go_wp2_with fail
    refine ret_node (B := w.heap.size) tPlusB ⟨#[]⟩ 0 (hd l).pos (some ⟨w3.heap.size, 0, none⟩) 1 1 Tryd.results117 rfl rfl (by repeat (with_reducible first | exact node_set HBZ5.out _ _ _ _ _ _ _ | refine (Below.heap_alloc _ _ _ (by simp; omega)).trans ?_)) ⟨⟨tPlusB, ⟨#[]⟩, 0, (hd l).pos, some ⟨w3.heap.size, 0, none⟩, 1, .cons tVarB (hd l).text 0 (hd l).pos none 0 .nil .nil⟩, rfl, (by repeat (with_reducible first | exact HK5.out | refine Kp.alloc ?_ _ | refine Kp.set ?_ (Nat.le_refl _) _)), ?_⟩
    show RdS _ B (d : Int) (.bad _ 2)
    exact (by repeat (with_reducible first | exact HR5.out | refine RdS.alloc ?_ _ | refine RdS.set ?_ hB _))
end Go.Proofs.YtmmicnjiikiklaaDoor
