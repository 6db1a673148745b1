/- part, partInBraces, of every head. -/
import Derived.Test.YtmmicnjiikiklaaDoorPPart
import Derived.Test.YtmmicnjiikiklaaDoorPList
import Derived.Test.YtmmicnjiikiklaaDoorLexA
import Derived.Test.YtmmicnjiikiklaaDoorRows
import Derived.WalkKit
import Derived.WalkLawsBesides
import Derived.WalkSpells
import Derived.ProofKit
import Derived.Outline
import Derived.Deep.QuietTactic
import Derived.BigQuiet
import Derived.Deep.Light
import Derived.Deep.CutBlock
import Derived.Deep.DeepCutAuto
import Derived.Deep.DeepFit
import Derived.Deep.LoopGhost
import Derived.Lib.Hide
import Derived.Lib.OthersKept
import Derived.IntWalk
import Derived.StillTailTactics
namespace Go.Proofs.YtmmicnjiikiklaaDoor
open Go.RowKit
/-! part, partInBraces, of every head. -/
theorem set5_from {S : Nat → Prop} (w : World) {B : Nat} (hB : ¬ S B) (a b c d e : Value) : From S w (((((w.setCell ⟨B, 0, none⟩ a).setCell ⟨B, 1, none⟩ b).setCell ⟨B, 2, none⟩ c).setCell ⟨B, 3, none⟩ d).setCell ⟨B, 4, none⟩ e) :=
  (((((From.set _ hB _).trans (From.set _ hB _)).trans (From.set _ hB _)).trans (From.set _ hB _)).trans (From.set _ hB _))
set_option maxRecDepth 100000 in
set_option maxHeartbeats 16000000 in
theorem part_set (l : List Tok) (w : World) (B d : Nat) (hP : PTB B w) (hS : RdS w B (d : Int) (.good l)) (hw : ((wrd l).toList == [123]) = true) (rl : Res (List Nd)) (hl : ∀ W, PTB B W → RdS W B (d : Int) (.good l.tail) → Calls Tryd.prog 113 #[.pointer (some ⟨B, 0, none⟩), .string ⟨#[125]⟩, .func (.func 116) #[.pointer (some ⟨B, 0, none⟩)] #[]] W (PostL B d W rl)) (r : Res Nd) (h1 : ∀ ks l', rl = .ok ks l' → r = .ok (mkN tSetB emp0 0 (hd l).pos ks) l') (h2 : ∀ a e, rl = .bad a e → r = .bad a e) : Calls Tryd.prog 115 #[.pointer (some ⟨B, 0, none⟩)] w (PostN B d w (r)) := by
  have HL := Lib.hid hl
  have H1 := Lib.hid h1
  have H2 := Lib.hid h2
  clear hl h1 h2
  have hc5 := cellsNode
  have hc4 := cellsTok
  have hB := hS.lt
  have q3 := tok_f3
  have q0 := tok_f0
  have q2 := tok_f2
  have HS := Lib.hid hS
  have HP := Lib.hid hP
  clear hS hP
  go_enter Tryd.func115, Tryd.ntmps115
  have HC1 := Lib.hid (word_g l (w.alloc (boxOf ⟨#[]⟩ ⟨#[]⟩ 0 0 none 0 0)) B d (HS.out.alloc _))
  go_wp2_with fail
  refine HC1.out.mono ?_
  rintro e1 w1 ⟨rfl, hb1⟩
  have HK1 := Lib.hid (((Kp.refl B w).alloc _).below hb1)
  have HR1 := Lib.hid ((HS.out.alloc _).below hb1)
  have HBZ1 := Lib.hid ((hb1.block _ (lt_heap (new_at w (boxOf ⟨#[]⟩ ⟨#[]⟩ 0 0 none 0 0)))).trans (new_at w (boxOf ⟨#[]⟩ ⟨#[]⟩ 0 0 none 0 0)))
  have hzZ1 := lt_heap HBZ1.out
  clear hb1
  have HC2 := Lib.hid (take_g l w1 B d HR1.out)
  go_wp2_with fail
  refine HC2.out.mono ?_
  rintro e2 w2 ⟨rfl, hk2, hr2⟩
  have HK2 := Lib.hid (HK1.out.trans hk2)
  have HR2 := Lib.hid hr2
  have HBZ2 := Lib.hid (hk2.blk HBZ1.out (by omega))
  have hzZ2 := lt_heap HBZ2.out
  clear hk2
  have HC3 := Lib.hid (HL.out w2 (HP.out.kp HK2.out) HR2.out)
  go_wp2_with fail
  refine HC3.out.mono ?_
  rintro e3 w3 ⟨a, F, cap, rfl, hk3, ho3⟩
  have HO3 := Lib.hid ho3
  clear ho3
  have HK3 := Lib.hid (HK2.out.trans hk3)
  have HR3 := Lib.hid True.intro
  have HBZ3 := Lib.hid (hk3.blk HBZ2.out (by omega))
  have hzZ3 := lt_heap HBZ3.out
  clear hk3
  obtain ⟨bZ0, bZ1, bZ2, bZ3, bZ4⟩ := box_cells HBZ3.out
  obtain ⟨fZ0, fZ1, fZ2, fZ3, fZ4⟩ := box_frozen HBZ3.out
  go_wp2_with fail
  refine ret_node (B := w.heap.size) tSetB ⟨#[]⟩ 0 (hd l).pos a F.len cap Tryd.results115 rfl rfl (by repeat (with_reducible first | exact node_set HBZ3.out _ _ _ _ _ _ _ | refine (Below.heap_alloc _ _ _ (by simp; omega)).trans ?_)) ⟨⟨tSetB, ⟨#[]⟩, 0, (hd l).pos, a, cap, F⟩, rfl, (by repeat (with_reducible first | exact HK3.out | refine Kp.alloc ?_ _ | refine Kp.set ?_ (Nat.le_refl _) _)), ?_⟩
  cases rl with
  | ok ks l' =>
    obtain ⟨hr, hg, hs⟩ := HO3.out
    rw [H1.out ks l' rfl]
    refine ⟨(by repeat (with_reducible first | exact hr | refine RdS.alloc ?_ _ | refine RdS.set ?_ hB _)), ?_, ?_⟩
    · refine Nd.Good.mono (S := fun b => w2.heap.size ≤ b) ?_ (fun b hb => Nat.le_trans (by omega) hb)
      exact (hg _ _ _ _ _).from (set5_from _ (by omega) _ _ _ _ _)
    · show Nd.mk _ _ _ _ _ _ _ = Nd.mk _ _ _ _ _ _ _
      rw [hs]
  | bad a e =>
    have hr : RdS w3 B (d : Int) (.bad a e) := HO3.out
    rw [H2.out a e rfl]
    show RdS _ B (d : Int) (.bad a e)
    exact (by repeat (with_reducible first | exact hr | refine RdS.alloc ?_ _ | refine RdS.set ?_ hB _))
set_option maxRecDepth 100000 in
set_option maxHeartbeats 16000000 in
theorem part_name (l : List Tok) (w : World) (B d : Nat) (hP : PTB B w) (hS : RdS w B (d : Int) (.good l)) (hw : ((wrd l).toList == [123]) = false) (hk : ((hd l).kind == 1) = true) (r : Res Nd) (hn : ∀ W, PTB B W → RdS W B (d : Int) (.good l) → Calls Tryd.prog 117 #[.pointer (some ⟨B, 0, none⟩)] W (PostN B d W r)) : Calls Tryd.prog 115 #[.pointer (some ⟨B, 0, none⟩)] w (PostN B d w (r)) := by
  have HN := Lib.hid hn
  clear hn
  have hc5 := cellsNode
  have hc4 := cellsTok
  have hB := hS.lt
  have q3 := tok_f3
  have q0 := tok_f0
  have q2 := tok_f2
  have HS := Lib.hid hS
  have HP := Lib.hid hP
  clear hS hP
  go_enter Tryd.func115, Tryd.ntmps115
  have HC1 := Lib.hid (word_g l (w.alloc (boxOf ⟨#[]⟩ ⟨#[]⟩ 0 0 none 0 0)) B d (HS.out.alloc _))
  go_wp2_with fail
  refine HC1.out.mono ?_
  rintro e1 w1 ⟨rfl, hb1⟩
  have HK1 := Lib.hid (((Kp.refl B w).alloc _).below hb1)
  have HR1 := Lib.hid ((HS.out.alloc _).below hb1)
  have HBZ1 := Lib.hid ((hb1.block _ (lt_heap (new_at w (boxOf ⟨#[]⟩ ⟨#[]⟩ 0 0 none 0 0)))).trans (new_at w (boxOf ⟨#[]⟩ ⟨#[]⟩ 0 0 none 0 0)))
  have hzZ1 := lt_heap HBZ1.out
  clear hb1
  have HC2 := Lib.hid (now_g l w1 B d HR1.out)
  go_wp2_with fail
  refine HC2.out.mono ?_
  rintro e2 w2 ⟨rfl, hb2⟩
  have HK2 := Lib.hid (HK1.out.below hb2)
  have HR2 := Lib.hid (HR1.out.below hb2)
  have HBZ2 := Lib.hid ((hb2.block _ (lt_heap HBZ1.out)).trans HBZ1.out)
  have hzZ2 := lt_heap HBZ2.out
  clear hb2
  have HC3 := Lib.hid (HN.out w2 (HP.out.kp HK2.out) HR2.out)
  go_wp2_with fail
  refine HC3.out.mono ?_
  rintro e3 w3 ⟨T, rfl, hk3, ho3⟩
  have HO3 := Lib.hid ho3
  clear ho3
  have HK3 := Lib.hid (HK2.out.trans hk3)
  have HBZ3 := Lib.hid (hk3.blk HBZ2.out (by omega))
  have hzZ3 := lt_heap HBZ3.out
  have HKL3 := Lib.hid hk3
  clear hk3
  obtain ⟨bZ0, bZ1, bZ2, bZ3, bZ4⟩ := box_cells HBZ3.out
  obtain ⟨fZ0, fZ1, fZ2, fZ3, fZ4⟩ := box_frozen HBZ3.out
  go_wp2_with fail
  refine ret_node (B := w.heap.size) T.op T.name T.n T.pos T.a T.kids.len T.cap Tryd.results115 rfl rfl (by repeat (with_reducible first | exact node_set HBZ3.out _ _ _ _ _ _ _ | refine (Below.heap_alloc _ _ _ (by simp; omega)).trans ?_)) ⟨T, rfl, (by repeat (with_reducible first | exact HK3.out | refine Kp.alloc ?_ _ | refine Kp.set ?_ (Nat.le_refl _) _)), ?_⟩
  cases r with
  | ok t l' =>
    obtain ⟨hr, hg, hs⟩ := HO3.out
    refine ⟨(by repeat (with_reducible first | exact hr | refine RdS.alloc ?_ _ | refine RdS.set ?_ hB _)), ?_, hs⟩
    refine Nd.Good.mono (S := fun b => w2.heap.size ≤ b) ?_ (fun b hb => Nat.le_trans (by first | omega | (simp; done) | (simp; omega)) hb)
    exact hg.from (set5_from _ (by first | omega | (simp; done) | (simp; omega)) _ _ _ _ _)
  | bad a e =>
    have hr : RdS w3 B (d : Int) (.bad a e) := HO3.out
    show RdS _ B (d : Int) (.bad a e)
    exact (by repeat (with_reducible first | exact hr | refine RdS.alloc ?_ _ | refine RdS.set ?_ hB _))
set_option maxRecDepth 100000 in
set_option maxHeartbeats 16000000 in
theorem part_num (l : List Tok) (w : World) (B d : Nat) (hP : PTB B w) (hS : RdS w B (d : Int) (.good l)) (hw : ((wrd l).toList == [123]) = false) (hk : ((hd l).kind == 2) = true) : Calls Tryd.prog 115 #[.pointer (some ⟨B, 0, none⟩)] w (PostN B d w (.ok (mkN tNumB emp0 (hd l).n (hd l).pos []) l.tail)) := by
  have hk1 : ((hd l).kind == 1) = false := by rw [beq_iff_eq] at hk; rw [hk]; rfl
  have hc5 := cellsNode
  have hc4 := cellsTok
  have hB := hS.lt
  have q3 := tok_f3
  have q0 := tok_f0
  have q2 := tok_f2
  have HS := Lib.hid hS
  have HP := Lib.hid hP
  clear hS hP
  go_enter Tryd.func115, Tryd.ntmps115
  have HC1 := Lib.hid (word_g l (w.alloc (boxOf ⟨#[]⟩ ⟨#[]⟩ 0 0 none 0 0)) B d (HS.out.alloc _))
  go_wp2_with fail
  refine HC1.out.mono ?_
  rintro e1 w1 ⟨rfl, hb1⟩
  have HK1 := Lib.hid (((Kp.refl B w).alloc _).below hb1)
  have HR1 := Lib.hid ((HS.out.alloc _).below hb1)
  have HBZ1 := Lib.hid ((hb1.block _ (lt_heap (new_at w (boxOf ⟨#[]⟩ ⟨#[]⟩ 0 0 none 0 0)))).trans (new_at w (boxOf ⟨#[]⟩ ⟨#[]⟩ 0 0 none 0 0)))
  have hzZ1 := lt_heap HBZ1.out
  clear hb1
  have HC2 := Lib.hid (now_g l w1 B d HR1.out)
  go_wp2_with fail
  refine HC2.out.mono ?_
  rintro e2 w2 ⟨rfl, hb2⟩
  have HK2 := Lib.hid (HK1.out.below hb2)
  have HR2 := Lib.hid (HR1.out.below hb2)
  have HBZ2 := Lib.hid ((hb2.block _ (lt_heap HBZ1.out)).trans HBZ1.out)
  have hzZ2 := lt_heap HBZ2.out
  clear hb2
  have HC3 := Lib.hid (take_g l w2 B d HR2.out)
  go_wp2_with fail
  refine HC3.out.mono ?_
  rintro e3 w3 ⟨rfl, hk3, hr3⟩
  have HK3 := Lib.hid (HK2.out.trans hk3)
  have HR3 := Lib.hid hr3
  have HBZ3 := Lib.hid (hk3.blk HBZ2.out (by omega))
  have hzZ3 := lt_heap HBZ3.out
  clear hk3
  obtain ⟨bZ0, bZ1, bZ2, bZ3, bZ4⟩ := box_cells HBZ3.out
  obtain ⟨fZ0, fZ1, fZ2, fZ3, fZ4⟩ := box_frozen HBZ3.out
  go_wp2_with fail
  refine ret_node (B := w.heap.size) tNumB ⟨#[]⟩ (hd l).n (hd l).pos none 0 0 Tryd.results115 rfl rfl (by repeat (with_reducible first | exact node_set HBZ3.out _ _ _ _ _ _ _ | refine (Below.heap_alloc _ _ _ (by simp; omega)).trans ?_)) ⟨⟨tNumB, ⟨#[]⟩, (hd l).n, (hd l).pos, none, 0, .nil⟩, rfl, (by repeat (with_reducible first | exact HK3.out | refine Kp.alloc ?_ _ | refine Kp.set ?_ (Nat.le_refl _) _)), ?_⟩
  exact ⟨(by repeat (with_reducible first | exact HR3.out | refine RdS.alloc ?_ _ | refine RdS.set ?_ hB _)), Nd.Good.leaf _ _ _ _ _ _ _ _, rfl⟩
set_option maxRecDepth 100000 in
set_option maxHeartbeats 16000000 in
theorem part_no (l : List Tok) (w : World) (B d : Nat) (hP : PTB B w) (hS : RdS w B (d : Int) (.good l)) (hw : ((wrd l).toList == [123]) = false) (hk : ((hd l).kind == 1) = false) (hk2 : ((hd l).kind == 2) = false) : Calls Tryd.prog 115 #[.pointer (some ⟨B, 0, none⟩)] w (PostN B d w (.bad (hd l).pos 2)) := by
  have hc5 := cellsNode
  have hc4 := cellsTok
  have hB := hS.lt
  have q3 := tok_f3
  have q0 := tok_f0
  have q2 := tok_f2
  have HS := Lib.hid hS
  have HP := Lib.hid hP
  clear hS hP
  go_enter Tryd.func115, Tryd.ntmps115
  have HC1 := Lib.hid (word_g l (w.alloc (boxOf ⟨#[]⟩ ⟨#[]⟩ 0 0 none 0 0)) B d (HS.out.alloc _))
  go_wp2_with fail
  refine HC1.out.mono ?_
  rintro e1 w1 ⟨rfl, hb1⟩
  have HK1 := Lib.hid (((Kp.refl B w).alloc _).below hb1)
  have HR1 := Lib.hid ((HS.out.alloc _).below hb1)
  have HBZ1 := Lib.hid ((hb1.block _ (lt_heap (new_at w (boxOf ⟨#[]⟩ ⟨#[]⟩ 0 0 none 0 0)))).trans (new_at w (boxOf ⟨#[]⟩ ⟨#[]⟩ 0 0 none 0 0)))
  have hzZ1 := lt_heap HBZ1.out
  clear hb1
  have HC2 := Lib.hid (now_g l w1 B d HR1.out)
  go_wp2_with fail
  refine HC2.out.mono ?_
  rintro e2 w2 ⟨rfl, hb2⟩
  have HK2 := Lib.hid (HK1.out.below hb2)
  have HR2 := Lib.hid (HR1.out.below hb2)
  have HBZ2 := Lib.hid ((hb2.block _ (lt_heap HBZ1.out)).trans HBZ1.out)
  have hzZ2 := lt_heap HBZ2.out
  clear hb2
  have HC3 := Lib.hid (unfit_g l w2 B d HR2.out)
  go_wp2_with fail
  refine HC3.out.mono ?_
  rintro e3 w3 ⟨rfl, hk3, hr3⟩
  have HK3 := Lib.hid (HK2.out.trans hk3)
  have HR3 := Lib.hid hr3
  have HBZ3 := Lib.hid (hk3.blk HBZ2.out (by omega))
  have hzZ3 := lt_heap HBZ3.out
  clear hk3
  obtain ⟨bZ0, bZ1, bZ2, bZ3, bZ4⟩ := box_cells HBZ3.out
  obtain ⟨fZ0, fZ1, fZ2, fZ3, fZ4⟩ := box_frozen HBZ3.out
  go_wp2_with fail
  refine ret_node (B := w.heap.size) ⟨#[]⟩ ⟨#[]⟩ 0 0 none 0 0 Tryd.results115 rfl rfl (by repeat (with_reducible first | exact node_set HBZ3.out _ _ _ _ _ _ _ | refine (Below.heap_alloc _ _ _ (by simp; omega)).trans ?_)) ⟨⟨⟨#[]⟩, ⟨#[]⟩, 0, 0, none, 0, .nil⟩, rfl, (by repeat (with_reducible first | exact HK3.out | refine Kp.alloc ?_ _ | refine Kp.set ?_ (Nat.le_refl _) _)), ?_⟩
  show RdS _ B (d : Int) (.bad _ 2)
  exact (by repeat (with_reducible first | exact HR3.out | refine RdS.alloc ?_ _ | refine RdS.set ?_ hB _))
set_option maxRecDepth 100000 in
set_option maxHeartbeats 16000000 in
theorem partB_set (l : List Tok) (w : World) (B d : Nat) (hP : PTB B w) (hS : RdS w B (d : Int) (.good l)) (hw : ((wrd l).toList == [123]) = true) (hb : BadN 115) (hdd : d ≤ 30) : Calls Tryd.prog 116 #[.pointer (some ⟨B, 0, none⟩)] w (PostN B d w (.bad (hd l).pos 2)) := by
  have HBD := Lib.hid hb
  clear hb
  have hc5 := cellsNode
  have hc4 := cellsTok
  have hB := hS.lt
  have q3 := tok_f3
  have q0 := tok_f0
  have q2 := tok_f2
  have HS := Lib.hid hS
  have HP := Lib.hid hP
  clear hS hP
  go_enter Tryd.func116, Tryd.ntmps116
  have HC1 := Lib.hid (word_g l (w.alloc (boxOf ⟨#[]⟩ ⟨#[]⟩ 0 0 none 0 0)) B d (HS.out.alloc _))
  go_wp2_with fail
  refine HC1.out.mono ?_
  rintro e1 w1 ⟨rfl, hb1⟩
  have HK1 := Lib.hid (((Kp.refl B w).alloc _).below hb1)
  have HR1 := Lib.hid ((HS.out.alloc _).below hb1)
  have HBZ1 := Lib.hid ((hb1.block _ (lt_heap (new_at w (boxOf ⟨#[]⟩ ⟨#[]⟩ 0 0 none 0 0)))).trans (new_at w (boxOf ⟨#[]⟩ ⟨#[]⟩ 0 0 none 0 0)))
  have hzZ1 := lt_heap HBZ1.out
  clear hb1
  have HC2 := Lib.hid (unfit_g l w1 B d HR1.out)
  go_wp2_with fail
  refine HC2.out.mono ?_
  rintro e2 w2 ⟨rfl, hk2, hr2⟩
  have HK2 := Lib.hid (HK1.out.trans hk2)
  have HR2 := Lib.hid hr2
  have HBZ2 := Lib.hid (hk2.blk HBZ1.out (by omega))
  have hzZ2 := lt_heap HBZ2.out
  clear hk2
  have HC3 := Lib.hid (HBD.out w2 B d _ _ hdd (HP.out.kp HK2.out) HR2.out)
  go_wp2_with fail
  refine HC3.out.mono ?_
  rintro e3 w3 ⟨T, rfl, hk3, ho3⟩
  have HO3 := Lib.hid ho3
  clear ho3
  have HK3 := Lib.hid (HK2.out.trans hk3)
  have HBZ3 := Lib.hid (hk3.blk HBZ2.out (by omega))
  have hzZ3 := lt_heap HBZ3.out
  have HKL3 := Lib.hid hk3
  clear hk3
  obtain ⟨bZ0, bZ1, bZ2, bZ3, bZ4⟩ := box_cells HBZ3.out
  obtain ⟨fZ0, fZ1, fZ2, fZ3, fZ4⟩ := box_frozen HBZ3.out
  go_wp2_with fail
  refine ret_node (B := w.heap.size) T.op T.name T.n T.pos T.a T.kids.len T.cap Tryd.results116 rfl rfl (by repeat (with_reducible first | exact node_set HBZ3.out _ _ _ _ _ _ _ | refine (Below.heap_alloc _ _ _ (by simp; omega)).trans ?_)) ⟨T, rfl, (by repeat (with_reducible first | exact HK3.out | refine Kp.alloc ?_ _ | refine Kp.set ?_ (Nat.le_refl _) _)), ?_⟩
  have hr : RdS w3 B (d : Int) (.bad (hd l).pos 2) := HO3.out
  show RdS _ B (d : Int) (.bad (hd l).pos 2)
  exact (by repeat (with_reducible first | exact hr | refine RdS.alloc ?_ _ | refine RdS.set ?_ hB _))
set_option maxRecDepth 100000 in
set_option maxHeartbeats 16000000 in
theorem partB_else (l : List Tok) (w : World) (B d : Nat) (hP : PTB B w) (hS : RdS w B (d : Int) (.good l)) (hw : ((wrd l).toList == [123]) = false) (r : Res Nd) (hn : ∀ W, PTB B W → RdS W B (d : Int) (.good l) → Calls Tryd.prog 115 #[.pointer (some ⟨B, 0, none⟩)] W (PostN B d W r)) : Calls Tryd.prog 116 #[.pointer (some ⟨B, 0, none⟩)] w (PostN B d w (r)) := by
  have HN := Lib.hid hn
  clear hn
  have hc5 := cellsNode
  have hc4 := cellsTok
  have hB := hS.lt
  have q3 := tok_f3
  have q0 := tok_f0
  have q2 := tok_f2
  have HS := Lib.hid hS
  have HP := Lib.hid hP
  clear hS hP
  go_enter Tryd.func116, Tryd.ntmps116
  have HC1 := Lib.hid (word_g l (w.alloc (boxOf ⟨#[]⟩ ⟨#[]⟩ 0 0 none 0 0)) B d (HS.out.alloc _))
  go_wp2_with fail
  refine HC1.out.mono ?_
  rintro e1 w1 ⟨rfl, hb1⟩
  have HK1 := Lib.hid (((Kp.refl B w).alloc _).below hb1)
  have HR1 := Lib.hid ((HS.out.alloc _).below hb1)
  have HBZ1 := Lib.hid ((hb1.block _ (lt_heap (new_at w (boxOf ⟨#[]⟩ ⟨#[]⟩ 0 0 none 0 0)))).trans (new_at w (boxOf ⟨#[]⟩ ⟨#[]⟩ 0 0 none 0 0)))
  have hzZ1 := lt_heap HBZ1.out
  clear hb1
  have HC2 := Lib.hid (HN.out w1 (HP.out.kp HK1.out) HR1.out)
  go_wp2_with fail
  refine HC2.out.mono ?_
  rintro e2 w2 ⟨T, rfl, hk2, ho2⟩
  have HO2 := Lib.hid ho2
  clear ho2
  have HK2 := Lib.hid (HK1.out.trans hk2)
  have HBZ2 := Lib.hid (hk2.blk HBZ1.out (by omega))
  have hzZ2 := lt_heap HBZ2.out
  have HKL2 := Lib.hid hk2
  clear hk2
  obtain ⟨bZ0, bZ1, bZ2, bZ3, bZ4⟩ := box_cells HBZ2.out
  obtain ⟨fZ0, fZ1, fZ2, fZ3, fZ4⟩ := box_frozen HBZ2.out
  go_wp2_with fail
  refine ret_node (B := w.heap.size) T.op T.name T.n T.pos T.a T.kids.len T.cap Tryd.results116 rfl rfl (by repeat (with_reducible first | exact node_set HBZ2.out _ _ _ _ _ _ _ | refine (Below.heap_alloc _ _ _ (by simp; omega)).trans ?_)) ⟨T, rfl, (by repeat (with_reducible first | exact HK2.out | refine Kp.alloc ?_ _ | refine Kp.set ?_ (Nat.le_refl _) _)), ?_⟩
  cases r with
  | ok t l' =>
    obtain ⟨hr, hg, hs⟩ := HO2.out
    refine ⟨(by repeat (with_reducible first | exact hr | refine RdS.alloc ?_ _ | refine RdS.set ?_ hB _)), ?_, hs⟩
    refine Nd.Good.mono (S := fun b => w1.heap.size ≤ b) ?_ (fun b hb => Nat.le_trans (by first | omega | (simp; done) | (simp; omega)) hb)
    exact hg.from (set5_from _ (by first | omega | (simp; done) | (simp; omega)) _ _ _ _ _)
  | bad a e =>
    have hr : RdS w2 B (d : Int) (.bad a e) := HO2.out
    show RdS _ B (d : Int) (.bad a e)
    exact (by repeat (with_reducible first | exact hr | refine RdS.alloc ?_ _ | refine RdS.set ?_ hB _))
set_option maxRecDepth 100000 in
set_option maxHeartbeats 16000000 in
theorem partB_b : BadN 116 := by
  intro w B d a e hdd hP hS
  have hc5 := cellsNode
  have hc4 := cellsTok
  have hB := hS.lt
  have q3 := tok_f3
  have q0 := tok_f0
  have q2 := tok_f2
  have HS := Lib.hid hS
  have HP := Lib.hid hP
  clear hS hP
  go_enter Tryd.func116, Tryd.ntmps116
  have HC1 := Lib.hid (word_b (w.alloc (boxOf ⟨#[]⟩ ⟨#[]⟩ 0 0 none 0 0)) B d a e (HS.out.alloc _))
  go_wp2_with fail
  refine HC1.out.mono ?_
  rintro e1 w1 ⟨rfl, hb1⟩
  have HK1 := Lib.hid (((Kp.refl B w).alloc _).below hb1)
  have HR1 := Lib.hid ((HS.out.alloc _).below hb1)
  have HBZ1 := Lib.hid ((hb1.block _ (lt_heap (new_at w (boxOf ⟨#[]⟩ ⟨#[]⟩ 0 0 none 0 0)))).trans (new_at w (boxOf ⟨#[]⟩ ⟨#[]⟩ 0 0 none 0 0)))
  have hzZ1 := lt_heap HBZ1.out
  clear hb1
  have HC2 := Lib.hid (part_b w1 B d a e hdd (HP.out.kp HK1.out) HR1.out)
  go_wp2_with fail
  refine HC2.out.mono ?_
  rintro e2 w2 ⟨T, rfl, hk2, ho2⟩
  have HO2 := Lib.hid ho2
  clear ho2
  have HK2 := Lib.hid (HK1.out.trans hk2)
  have HBZ2 := Lib.hid (hk2.blk HBZ1.out (by omega))
  have hzZ2 := lt_heap HBZ2.out
  have HKL2 := Lib.hid hk2
  clear hk2
  obtain ⟨bZ0, bZ1, bZ2, bZ3, bZ4⟩ := box_cells HBZ2.out
  obtain ⟨fZ0, fZ1, fZ2, fZ3, fZ4⟩ := box_frozen HBZ2.out
  go_wp2_with fail
  refine ret_node (B := w.heap.size) T.op T.name T.n T.pos T.a T.kids.len T.cap Tryd.results116 rfl rfl (by repeat (with_reducible first | exact node_set HBZ2.out _ _ _ _ _ _ _ | refine (Below.heap_alloc _ _ _ (by simp; omega)).trans ?_)) ⟨T, rfl, (by repeat (with_reducible first | exact HK2.out | refine Kp.alloc ?_ _ | refine Kp.set ?_ (Nat.le_refl _) _)), ?_⟩
  have hr : RdS w2 B (d : Int) (.bad a e) := HO2.out
  show RdS _ B (d : Int) (.bad a e)
  exact (by repeat (with_reducible first | exact hr | refine RdS.alloc ?_ _ | refine RdS.set ?_ hB _))
set_option maxRecDepth 100000 in
set_option maxHeartbeats 16000000 in
theorem term_call (s : St) (r : Res Nd) (w : World) (B d : Nat) (hP : PTB B w) (hS : RdS w B (d : Int) s) (hl : ∀ W, PTB B W → RdS W B (d : Int) s → Calls Tryd.prog 72 #[.pointer (some ⟨B, 0, none⟩), .int .i64 5, .func (.func 115) #[.pointer (some ⟨B, 0, none⟩)] #[]] W (PostN B d W r)) : Calls Tryd.prog 114 #[.pointer (some ⟨B, 0, none⟩)] w (PostN B d w r) := by
  have HL := Lib.hid hl
  clear hl
  have hc5 := cellsNode
  have hc4 := cellsTok
  have hB := hS.lt
  have q3 := tok_f3
  have q0 := tok_f0
  have q2 := tok_f2
  have HS := Lib.hid hS
  have HP := Lib.hid hP
  clear hS hP
  go_enter Tryd.func114, Tryd.ntmps114
  have HC1 := Lib.hid (HL.out (w.alloc (boxOf ⟨#[]⟩ ⟨#[]⟩ 0 0 none 0 0)) (HP.out.kp ((Kp.refl B w).alloc _)) (HS.out.alloc _))
  go_wp2_with fail
  refine HC1.out.mono ?_
  rintro e1 w1 ⟨T, rfl, hk1, ho1⟩
  have HO1 := Lib.hid ho1
  clear ho1
  have HK1 := Lib.hid (((Kp.refl B w).alloc _).trans hk1)
  have HBZ1 := Lib.hid (hk1.blk (new_at w (boxOf ⟨#[]⟩ ⟨#[]⟩ 0 0 none 0 0)) (by omega))
  have hzZ1 := lt_heap HBZ1.out
  have HKL1 := Lib.hid hk1
  clear hk1
  obtain ⟨bZ0, bZ1, bZ2, bZ3, bZ4⟩ := box_cells HBZ1.out
  obtain ⟨fZ0, fZ1, fZ2, fZ3, fZ4⟩ := box_frozen HBZ1.out
  go_wp2_with fail
  refine ret_node (B := w.heap.size) T.op T.name T.n T.pos T.a T.kids.len T.cap Tryd.results114 rfl rfl (by repeat (with_reducible first | exact node_set HBZ1.out _ _ _ _ _ _ _ | refine (Below.heap_alloc _ _ _ (by simp; omega)).trans ?_)) ⟨T, rfl, (by repeat (with_reducible first | exact HK1.out | refine Kp.alloc ?_ _ | refine Kp.set ?_ (Nat.le_refl _) _)), ?_⟩
  cases r with
  | ok t l' =>
    obtain ⟨hr, hg, hs⟩ := HO1.out
    refine ⟨(by repeat (with_reducible first | exact hr | refine RdS.alloc ?_ _ | refine RdS.set ?_ hB _)), ?_, hs⟩
    refine Nd.Good.mono (S := fun b => (w.alloc (boxOf ⟨#[]⟩ ⟨#[]⟩ 0 0 none 0 0)).heap.size ≤ b) ?_ (fun b hb => Nat.le_trans (by first | omega | (simp; done) | (simp; omega)) hb)
    exact hg.from (set5_from _ (by first | omega | (simp; done) | (simp; omega)) _ _ _ _ _)
  | bad a e =>
    have hr : RdS w1 B (d : Int) (.bad a e) := HO1.out
    show RdS _ B (d : Int) (.bad a e)
    exact (by repeat (with_reducible first | exact hr | refine RdS.alloc ?_ _ | refine RdS.set ?_ hB _))
set_option maxRecDepth 100000 in
set_option maxHeartbeats 16000000 in
theorem and_call (s : St) (r : Res Nd) (w : World) (B d : Nat) (hP : PTB B w) (hS : RdS w B (d : Int) s) (hl : ∀ W, PTB B W → RdS W B (d : Int) s → Calls Tryd.prog 72 #[.pointer (some ⟨B, 0, none⟩), .int .i64 3, .func (.func 105) #[.pointer (some ⟨B, 0, none⟩)] #[]] W (PostN B d W r)) : Calls Tryd.prog 101 #[.pointer (some ⟨B, 0, none⟩)] w (PostN B d w r) := by
  have HL := Lib.hid hl
  clear hl
  have hc5 := cellsNode
  have hc4 := cellsTok
  have hB := hS.lt
  have q3 := tok_f3
  have q0 := tok_f0
  have q2 := tok_f2
  have HS := Lib.hid hS
  have HP := Lib.hid hP
  clear hS hP
  go_enter Tryd.func101, Tryd.ntmps101
  have HC1 := Lib.hid (HL.out (w.alloc (boxOf ⟨#[]⟩ ⟨#[]⟩ 0 0 none 0 0)) (HP.out.kp ((Kp.refl B w).alloc _)) (HS.out.alloc _))
  go_wp2_with fail
  refine HC1.out.mono ?_
  rintro e1 w1 ⟨T, rfl, hk1, ho1⟩
  have HO1 := Lib.hid ho1
  clear ho1
  have HK1 := Lib.hid (((Kp.refl B w).alloc _).trans hk1)
  have HBZ1 := Lib.hid (hk1.blk (new_at w (boxOf ⟨#[]⟩ ⟨#[]⟩ 0 0 none 0 0)) (by omega))
  have hzZ1 := lt_heap HBZ1.out
  have HKL1 := Lib.hid hk1
  clear hk1
  obtain ⟨bZ0, bZ1, bZ2, bZ3, bZ4⟩ := box_cells HBZ1.out
  obtain ⟨fZ0, fZ1, fZ2, fZ3, fZ4⟩ := box_frozen HBZ1.out
  go_wp2_with fail
  refine ret_node (B := w.heap.size) T.op T.name T.n T.pos T.a T.kids.len T.cap Tryd.results101 rfl rfl (by repeat (with_reducible first | exact node_set HBZ1.out _ _ _ _ _ _ _ | refine (Below.heap_alloc _ _ _ (by simp; omega)).trans ?_)) ⟨T, rfl, (by repeat (with_reducible first | exact HK1.out | refine Kp.alloc ?_ _ | refine Kp.set ?_ (Nat.le_refl _) _)), ?_⟩
  cases r with
  | ok t l' =>
    obtain ⟨hr, hg, hs⟩ := HO1.out
    refine ⟨(by repeat (with_reducible first | exact hr | refine RdS.alloc ?_ _ | refine RdS.set ?_ hB _)), ?_, hs⟩
    refine Nd.Good.mono (S := fun b => (w.alloc (boxOf ⟨#[]⟩ ⟨#[]⟩ 0 0 none 0 0)).heap.size ≤ b) ?_ (fun b hb => Nat.le_trans (by first | omega | (simp; done) | (simp; omega)) hb)
    exact hg.from (set5_from _ (by first | omega | (simp; done) | (simp; omega)) _ _ _ _ _)
  | bad a e =>
    have hr : RdS w1 B (d : Int) (.bad a e) := HO1.out
    show RdS _ B (d : Int) (.bad a e)
    exact (by repeat (with_reducible first | exact hr | refine RdS.alloc ?_ _ | refine RdS.set ?_ hB _))
set_option maxRecDepth 100000 in
set_option maxHeartbeats 16000000 in
theorem or_call (s : St) (r : Res Nd) (w : World) (B d : Nat) (hP : PTB B w) (hS : RdS w B (d : Int) s) (hl : ∀ W, PTB B W → RdS W B (d : Int) s → Calls Tryd.prog 72 #[.pointer (some ⟨B, 0, none⟩), .int .i64 2, .func (.func 101) #[.pointer (some ⟨B, 0, none⟩)] #[]] W (PostN B d W r)) : Calls Tryd.prog 91 #[.pointer (some ⟨B, 0, none⟩)] w (PostN B d w r) := by
  have HL := Lib.hid hl
  clear hl
  have hc5 := cellsNode
  have hc4 := cellsTok
  have hB := hS.lt
  have q3 := tok_f3
  have q0 := tok_f0
  have q2 := tok_f2
  have HS := Lib.hid hS
  have HP := Lib.hid hP
  clear hS hP
  go_enter Tryd.func91, Tryd.ntmps91
  have HC1 := Lib.hid (HL.out (w.alloc (boxOf ⟨#[]⟩ ⟨#[]⟩ 0 0 none 0 0)) (HP.out.kp ((Kp.refl B w).alloc _)) (HS.out.alloc _))
  go_wp2_with fail
  refine HC1.out.mono ?_
  rintro e1 w1 ⟨T, rfl, hk1, ho1⟩
  have HO1 := Lib.hid ho1
  clear ho1
  have HK1 := Lib.hid (((Kp.refl B w).alloc _).trans hk1)
  have HBZ1 := Lib.hid (hk1.blk (new_at w (boxOf ⟨#[]⟩ ⟨#[]⟩ 0 0 none 0 0)) (by omega))
  have hzZ1 := lt_heap HBZ1.out
  have HKL1 := Lib.hid hk1
  clear hk1
  obtain ⟨bZ0, bZ1, bZ2, bZ3, bZ4⟩ := box_cells HBZ1.out
  obtain ⟨fZ0, fZ1, fZ2, fZ3, fZ4⟩ := box_frozen HBZ1.out
  go_wp2_with fail
  refine ret_node (B := w.heap.size) T.op T.name T.n T.pos T.a T.kids.len T.cap Tryd.results91 rfl rfl (by repeat (with_reducible first | exact node_set HBZ1.out _ _ _ _ _ _ _ | refine (Below.heap_alloc _ _ _ (by simp; omega)).trans ?_)) ⟨T, rfl, (by repeat (with_reducible first | exact HK1.out | refine Kp.alloc ?_ _ | refine Kp.set ?_ (Nat.le_refl _) _)), ?_⟩
  cases r with
  | ok t l' =>
    obtain ⟨hr, hg, hs⟩ := HO1.out
    refine ⟨(by repeat (with_reducible first | exact hr | refine RdS.alloc ?_ _ | refine RdS.set ?_ hB _)), ?_, hs⟩
    refine Nd.Good.mono (S := fun b => (w.alloc (boxOf ⟨#[]⟩ ⟨#[]⟩ 0 0 none 0 0)).heap.size ≤ b) ?_ (fun b hb => Nat.le_trans (by first | omega | (simp; done) | (simp; omega)) hb)
    exact hg.from (set5_from _ (by first | omega | (simp; done) | (simp; omega)) _ _ _ _ _)
  | bad a e =>
    have hr : RdS w1 B (d : Int) (.bad a e) := HO1.out
    show RdS _ B (d : Int) (.bad a e)
    exact (by repeat (with_reducible first | exact hr | refine RdS.alloc ?_ _ | refine RdS.set ?_ hB _))
set_option maxRecDepth 100000 in
set_option maxHeartbeats 16000000 in
theorem form_call (s : St) (r : Res Nd) (w : World) (B d : Nat) (hP : PTB B w) (hS : RdS w B (d : Int) s) (hl : ∀ W, PTB B W → RdS W B (d : Int) s → Calls Tryd.prog 72 #[.pointer (some ⟨B, 0, none⟩), .int .i64 0, .func (.func 73) #[.pointer (some ⟨B, 0, none⟩)] #[]] W (PostN B d W r)) : Calls Tryd.prog 42 #[.pointer (some ⟨B, 0, none⟩)] w (PostN B d w r) := by
  have HL := Lib.hid hl
  clear hl
  have hc5 := cellsNode
  have hc4 := cellsTok
  have hB := hS.lt
  have q3 := tok_f3
  have q0 := tok_f0
  have q2 := tok_f2
  have HS := Lib.hid hS
  have HP := Lib.hid hP
  clear hS hP
  go_enter Tryd.func42, Tryd.ntmps42
  have HC1 := Lib.hid (HL.out (w.alloc (boxOf ⟨#[]⟩ ⟨#[]⟩ 0 0 none 0 0)) (HP.out.kp ((Kp.refl B w).alloc _)) (HS.out.alloc _))
  go_wp2_with fail
  refine HC1.out.mono ?_
  rintro e1 w1 ⟨T, rfl, hk1, ho1⟩
  have HO1 := Lib.hid ho1
  clear ho1
  have HK1 := Lib.hid (((Kp.refl B w).alloc _).trans hk1)
  have HBZ1 := Lib.hid (hk1.blk (new_at w (boxOf ⟨#[]⟩ ⟨#[]⟩ 0 0 none 0 0)) (by omega))
  have hzZ1 := lt_heap HBZ1.out
  have HKL1 := Lib.hid hk1
  clear hk1
  obtain ⟨bZ0, bZ1, bZ2, bZ3, bZ4⟩ := box_cells HBZ1.out
  obtain ⟨fZ0, fZ1, fZ2, fZ3, fZ4⟩ := box_frozen HBZ1.out
  go_wp2_with fail
  refine ret_node (B := w.heap.size) T.op T.name T.n T.pos T.a T.kids.len T.cap Tryd.results42 rfl rfl (by repeat (with_reducible first | exact node_set HBZ1.out _ _ _ _ _ _ _ | refine (Below.heap_alloc _ _ _ (by simp; omega)).trans ?_)) ⟨T, rfl, (by repeat (with_reducible first | exact HK1.out | refine Kp.alloc ?_ _ | refine Kp.set ?_ (Nat.le_refl _) _)), ?_⟩
  cases r with
  | ok t l' =>
    obtain ⟨hr, hg, hs⟩ := HO1.out
    refine ⟨(by repeat (with_reducible first | exact hr | refine RdS.alloc ?_ _ | refine RdS.set ?_ hB _)), ?_, hs⟩
    refine Nd.Good.mono (S := fun b => (w.alloc (boxOf ⟨#[]⟩ ⟨#[]⟩ 0 0 none 0 0)).heap.size ≤ b) ?_ (fun b hb => Nat.le_trans (by first | omega | (simp; done) | (simp; omega)) hb)
    exact hg.from (set5_from _ (by first | omega | (simp; done) | (simp; omega)) _ _ _ _ _)
  | bad a e =>
    have hr : RdS w1 B (d : Int) (.bad a e) := HO1.out
    show RdS _ B (d : Int) (.bad a e)
    exact (by repeat (with_reducible first | exact hr | refine RdS.alloc ?_ _ | refine RdS.set ?_ hB _))
end Go.Proofs.YtmmicnjiikiklaaDoor
