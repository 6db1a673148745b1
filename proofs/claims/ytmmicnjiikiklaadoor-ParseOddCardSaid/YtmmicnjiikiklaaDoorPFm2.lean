/- atom, imp. -/
import Derived.Test.YtmmicnjiikiklaaDoorPFm1
import Derived.Test.YtmmicnjiikiklaaDoorPTerms
import Derived.Test.YtmmicnjiikiklaaDoorLexA
import Derived.Test.YtmmicnjiikiklaaDoorRows
import Derived.WalkKit
import Derived.WalkLawsBesides
import Derived.WalkSpells
import Derived.ProofKit
import Derived.Outline
import Derived.Deep.QuietTactic
import Derived.BigQuiet
import Derived.Deep.Light
import Derived.Deep.CutBlock
import Derived.Deep.DeepCutAuto
import Derived.Deep.DeepFit
import Derived.Deep.LoopGhost
import Derived.Lib.Hide
import Derived.Lib.OthersKept
import Derived.IntWalk
import Derived.StillTailTactics
import Derived.Deep.RegionHeld3
namespace Go.Proofs.YtmmicnjiikiklaaDoor
open Go.RowKit
/-! atom, imp. -/
theorem From.mono {S S' : Nat → Prop} {a b : World} (h : From S a b) (hl : ∀ i, S' i → S i) : From S' a b := ⟨h.size, fun i hi => h.block i (hl i hi)⟩
set_option maxRecDepth 100000 in
set_option maxHeartbeats 16000000 in
theorem atom_b : BadN 109 := by
  intro w B d a e hdd hP hS
  have hc5 := cellsNode
  have hc4 := cellsTok
  have hB := hS.lt
  have q3 := tok_f3
  have q0 := tok_f0
  have q2 := tok_f2
  have HS := Lib.hid hS
  have HP := Lib.hid hP
  clear hS hP
  go_enter Tryd.func109, Tryd.ntmps109
  have HC1 := Lib.hid (cin_b (w.alloc (boxOf ⟨#[]⟩ ⟨#[]⟩ 0 0 none 0 0)) B d a e (HS.out.alloc _))
  go_wp2_with fail
  refine HC1.out.mono ?_
  rintro e1 w1 ⟨rfl, hb1⟩
  have HK1 := Lib.hid (((Kp.refl B w).alloc _).below hb1)
  have HR1 := Lib.hid ((HS.out.alloc _).below hb1)
  have HBZ1 := Lib.hid ((hb1.block _ (lt_heap (new_at w (boxOf ⟨#[]⟩ ⟨#[]⟩ 0 0 none 0 0)))).trans (new_at w (boxOf ⟨#[]⟩ ⟨#[]⟩ 0 0 none 0 0)))
  have hzZ1 := lt_heap HBZ1.out
  clear hb1
  have HC2 := Lib.hid (now_b w1 B d a e HR1.out)
  go_wp2_with fail
  refine HC2.out.mono ?_
  rintro e2 w2 ⟨rfl, hb2⟩
  have HK2 := Lib.hid (HK1.out.below hb2)
  have HR2 := Lib.hid (HR1.out.below hb2)
  have HBZ2 := Lib.hid ((hb2.block _ (lt_heap HBZ1.out)).trans HBZ1.out)
  have hzZ2 := lt_heap HBZ2.out
  clear hb2
  have HC3 := Lib.hid (term_b (w2.alloc (tokBox 0 ⟨#[]⟩ 0 0)) B d a e hdd (HP.out.kp (HK2.out.alloc _)) (HR2.out.alloc _))
  go_wp2_with fail
  refine HC3.out.mono ?_
  rintro e3 w3 ⟨T, rfl, hk3, ho3⟩
  have HO3 := Lib.hid ho3
  clear ho3
  have HK3 := Lib.hid ((HK2.out.alloc _).trans hk3)
  have HBZ3 := Lib.hid (hk3.blk ((Below.heap_alloc _ _ _ (lt_heap HBZ2.out)).trans HBZ2.out) (by omega))
  have hzZ3 := lt_heap HBZ3.out
  have HBT3 := Lib.hid (hk3.blk (new_at w2 (tokBox 0 ⟨#[]⟩ 0 0)) (by omega))
  have hzT3 := lt_heap HBT3.out
  have HKL3 := Lib.hid hk3
  clear hk3
  have HR3 := Lib.hid (show RdS w3 B (d : Int) (.bad a e) from HO3.out)
  have HC4 := Lib.hid (sign_b 4 (w3.alloc (boxOf T.op T.name T.n T.pos T.a T.kids.len T.cap)) B d a e (HP.out.kp (HK3.out.alloc _)) (HR3.out.alloc _))
  go_wp2_with fail
  refine HC4.out.mono ?_
  rintro e4 w4 ⟨rfl, hb4⟩
  have HK4 := Lib.hid ((HK3.out.alloc _).below hb4)
  have HR4 := Lib.hid ((HR3.out.alloc _).below hb4)
  have HBZ4 := Lib.hid ((hb4.block _ (lt_heap ((Below.heap_alloc _ _ _ (lt_heap HBZ3.out)).trans HBZ3.out))).trans ((Below.heap_alloc _ _ _ (lt_heap HBZ3.out)).trans HBZ3.out))
  have hzZ4 := lt_heap HBZ4.out
  have HBT4 := Lib.hid ((hb4.block _ (lt_heap ((Below.heap_alloc _ _ _ (lt_heap HBT3.out)).trans HBT3.out))).trans ((Below.heap_alloc _ _ _ (lt_heap HBT3.out)).trans HBT3.out))
  have hzT4 := lt_heap HBT4.out
  have HBN4 := Lib.hid ((hb4.block _ (lt_heap (new_at w3 (boxOf T.op T.name T.n T.pos T.a T.kids.len T.cap)))).trans (new_at w3 (boxOf T.op T.name T.n T.pos T.a T.kids.len T.cap)))
  have hzN4 := lt_heap HBN4.out
  clear hb4
  cases hop : (T.op.toList == [118, 97, 114]) with
  | true =>
    have hne1 : ¬ w.heap.size = w2.heap.size := by omega
    have hme1 : ¬ w2.heap.size = w.heap.size := by omega
    have hne2 : ¬ w.heap.size = w3.heap.size := by omega
    have hme2 : ¬ w3.heap.size = w.heap.size := by omega
    have hne3 : ¬ w2.heap.size = w3.heap.size := by omega
    have hme3 : ¬ w3.heap.size = w2.heap.size := by omega
    obtain ⟨bN0, bN1, bN2, bN3, bN4⟩ := box_cells HBN4.out
    obtain ⟨fN0, fN1, fN2, fN3, fN4⟩ := box_frozen HBN4.out
    obtain ⟨⟨tT0, tT1, tT2, tT3⟩, tfT0, tfT1, tfT2, tfT3⟩ := tok_cells HBT4.out
    obtain ⟨bZ0, bZ1, bZ2, bZ3, bZ4⟩ := box_cells HBZ4.out
    obtain ⟨fZ0, fZ1, fZ2, fZ3, fZ4⟩ := box_frozen HBZ4.out
    go_wp2_with fail
    refine ret_node (B := w.heap.size) tIsB T.name 0 T.pos none 0 0 Tryd.results109 rfl rfl (by repeat (with_reducible first | exact node_set HBZ4.out _ _ _ _ _ _ _ | refine (Below.heap_alloc _ _ _ (by simp; omega)).trans ?_)) ⟨⟨tIsB, T.name, 0, T.pos, none, 0, .nil⟩, rfl, (by repeat (with_reducible first | exact HK4.out | refine Kp.alloc ?_ _ | refine Kp.set ?_ (Nat.le_refl _) _)), ?_⟩
    have hr := HR4.out
    show RdS _ B (d : Int) (.bad a e)
    exact (by repeat (with_reducible first | exact hr | refine RdS.alloc ?_ _ | refine RdS.set ?_ hB _))
  | false =>
    have hne1 : ¬ w.heap.size = w2.heap.size := by omega
    have hme1 : ¬ w2.heap.size = w.heap.size := by omega
    have hne2 : ¬ w.heap.size = w3.heap.size := by omega
    have hme2 : ¬ w3.heap.size = w.heap.size := by omega
    have hne3 : ¬ w2.heap.size = w3.heap.size := by omega
    have hme3 : ¬ w3.heap.size = w2.heap.size := by omega
    obtain ⟨bN0, bN1, bN2, bN3, bN4⟩ := box_cells HBN4.out
    obtain ⟨fN0, fN1, fN2, fN3, fN4⟩ := box_frozen HBN4.out
    obtain ⟨⟨tT0, tT1, tT2, tT3⟩, tfT0, tfT1, tfT2, tfT3⟩ := tok_cells HBT4.out
    have HC5 := Lib.hid (fail_b 0 2 w4 B d a e rfl HR4.out)
    go_wp2_with fail
    refine HC5.out.mono ?_
    rintro e5 w5 ⟨rfl, hk5, hr5⟩
    have HK5 := Lib.hid (HK4.out.trans hk5)
    have HR5 := Lib.hid hr5
    have HBZ5 := Lib.hid (hk5.blk HBZ4.out (by omega))
    have hzZ5 := lt_heap HBZ5.out
    have HBT5 := Lib.hid (hk5.blk HBT4.out (by omega))
    have hzT5 := lt_heap HBT5.out
    have HBN5 := Lib.hid (hk5.blk HBN4.out (by omega))
    have hzN5 := lt_heap HBN5.out
    clear hk5
    clear bN0 bN1 bN2 bN3 bN4 fN0 fN1 fN2 fN3 fN4 tT0 tT1 tT2 tT3 tfT0 tfT1 tfT2 tfT3
    obtain ⟨bN0, bN1, bN2, bN3, bN4⟩ := box_cells HBN5.out
    obtain ⟨fN0, fN1, fN2, fN3, fN4⟩ := box_frozen HBN5.out
    obtain ⟨bZ0, bZ1, bZ2, bZ3, bZ4⟩ := box_cells HBZ5.out
    obtain ⟨fZ0, fZ1, fZ2, fZ3, fZ4⟩ := box_frozen HBZ5.out
    go_wp2_with fail
    refine ret_node (B := w.heap.size) tIsB T.name 0 T.pos none 0 0 Tryd.results109 rfl rfl (by repeat (with_reducible first | exact node_set HBZ5.out _ _ _ _ _ _ _ | refine (Below.heap_alloc _ _ _ (by simp; omega)).trans ?_)) ⟨⟨tIsB, T.name, 0, T.pos, none, 0, .nil⟩, rfl, (by repeat (with_reducible first | exact HK5.out | refine Kp.alloc ?_ _ | refine Kp.set ?_ (Nat.le_refl _) _)), ?_⟩
    have hr := HR5.out
    show RdS _ B (d : Int) (.bad a e)
    exact (by repeat (with_reducible first | exact hr | refine RdS.alloc ?_ _ | refine RdS.set ?_ hB _))
set_option maxRecDepth 100000 in
set_option maxHeartbeats 16000000 in
theorem atom_call (l : List Tok) (w : World) (B d : Nat) (hP : PTB B w) (hS : RdS w B (d : Int) (.good l)) (hE : EndsOk l) (hc : cin l = true) (hw : ((wrd l.tail).toList == (ByteArray.mk #[40]).toList) = true) (rl : Res (List Nd)) (hl : ∀ W, PTB B W → RdS W B (d : Int) (.good l.tail.tail) → Calls Tryd.prog 113 #[.pointer (some ⟨B, 0, none⟩), .string ⟨#[41]⟩, .func (.func 114) #[.pointer (some ⟨B, 0, none⟩)] #[]] W (PostL B d W rl)) (r : Res Nd) (h1 : ∀ ks l', rl = .ok ks l' → r = .ok (mkN tCallB (hd l).text 0 (hd l).pos ks) l') (h2 : ∀ a e, rl = .bad a e → r = .bad a e) : Calls Tryd.prog 109 #[.pointer (some ⟨B, 0, none⟩)] w (PostN B d w (r)) := by
  have HL := Lib.hid hl
  have H1 := Lib.hid h1
  have H2 := Lib.hid h2
  clear hl h1 h2
  have HEO := Lib.hid hE
  clear hE
  have HW := Lib.hid hw
  clear hw
  have hc5 := cellsNode
  have hc4 := cellsTok
  have hB := hS.lt
  have q3 := tok_f3
  have q0 := tok_f0
  have q2 := tok_f2
  have HS := Lib.hid hS
  have HP := Lib.hid hP
  clear hS hP
  go_enter Tryd.func109, Tryd.ntmps109
  have HC1 := Lib.hid ((cin_g l (w.alloc (boxOf ⟨#[]⟩ ⟨#[]⟩ 0 0 none 0 0)) B d HEO.out (HS.out.alloc _)))
  rw [hc] at HC1
  clear hc
  go_wp2_with fail
  refine HC1.out.mono ?_
  rintro e1 w1 ⟨rfl, hb1⟩
  have HK1 := Lib.hid (((Kp.refl B w).alloc _).below hb1)
  have HR1 := Lib.hid ((HS.out.alloc _).below hb1)
  have HBZ1 := Lib.hid ((hb1.block _ (lt_heap (new_at w (boxOf ⟨#[]⟩ ⟨#[]⟩ 0 0 none 0 0)))).trans (new_at w (boxOf ⟨#[]⟩ ⟨#[]⟩ 0 0 none 0 0)))
  have hzZ1 := lt_heap HBZ1.out
  clear hb1
  have HC2 := Lib.hid (take_g l w1 B d HR1.out)
  go_wp2_with fail
  refine HC2.out.mono ?_
  rintro e2 w2 ⟨rfl, hk2, hr2⟩
  have HK2 := Lib.hid (HK1.out.trans hk2)
  have HR2 := Lib.hid hr2
  have HBZ2 := Lib.hid (hk2.blk HBZ1.out (by omega))
  have hzZ2 := lt_heap HBZ2.out
  clear hk2
  have HC3 := Lib.hid (must_yes l.tail ⟨#[40]⟩ (w2.alloc (tokBox (hd l).kind (hd l).text (hd l).n (hd l).pos)) B d HW.out (HR2.out.alloc _))
  go_wp2_with fail
  refine HC3.out.mono ?_
  rintro e3 w3 ⟨rfl, hk3, hr3⟩
  have HK3 := Lib.hid ((HK2.out.alloc _).trans hk3)
  have HR3 := Lib.hid hr3
  have HBZ3 := Lib.hid (hk3.blk ((Below.heap_alloc _ _ _ (lt_heap HBZ2.out)).trans HBZ2.out) (by omega))
  have hzZ3 := lt_heap HBZ3.out
  have HBT3 := Lib.hid (hk3.blk (new_at w2 (tokBox (hd l).kind (hd l).text (hd l).n (hd l).pos)) (by omega))
  have hzT3 := lt_heap HBT3.out
  clear hk3
  have HC4 := Lib.hid (HL.out w3.drew (HP.out.kp (HK3.out.drew)) (HR3.out.drew))
  have hne1 : ¬ w.heap.size = w2.heap.size := by omega
  have hme1 : ¬ w2.heap.size = w.heap.size := by omega
  obtain ⟨bZ0, bZ1, bZ2, bZ3, bZ4⟩ := box_cells HBZ3.out
  obtain ⟨fZ0, fZ1, fZ2, fZ3, fZ4⟩ := box_frozen HBZ3.out
  obtain ⟨⟨tT0, tT1, tT2, tT3⟩, tfT0, tfT1, tfT2, tfT3⟩ := tok_cells HBT3.out
  go_wp2_with fail
  go_region_held3 (fun w' => w'.cell? ⟨w2.heap.size, 1, none⟩ = some (.string (hd l).text) ∧ w'.cell? ⟨w2.heap.size, 3, none⟩ = some (.int .i64 (hd l).pos)) (go_keep) (first | (go_at_call 113; refine HC4.out.mono ?_; clear bZ0 bZ1 bZ2 bZ3 bZ4 fZ0 fZ1 fZ2 fZ3 fZ4; clear tT0 tT1 tT2 tT3 tfT0 tfT1 tfT2 tfT3; rintro e4 w4 ⟨a, F, cap, rfl, hk4, ho4⟩; have HO4 := Lib.hid ho4; clear ho4; have HK4 := Lib.hid ((HK3.out.drew).trans hk4); have HR4 := Lib.hid True.intro; have HBZ4 := Lib.hid (hk4.blk HBZ3.out (by omega)); have hzZ4 := lt_heap HBZ4.out; have HBT4 := Lib.hid (hk4.blk HBT3.out (by omega)); have hzT4 := lt_heap HBT4.out; clear hk4; obtain ⟨bZ0, bZ1, bZ2, bZ3, bZ4⟩ := box_cells HBZ4.out; obtain ⟨fZ0, fZ1, fZ2, fZ3, fZ4⟩ := box_frozen HBZ4.out; obtain ⟨⟨tT0, tT1, tT2, tT3⟩, tfT0, tfT1, tfT2, tfT3⟩ := tok_cells HBT4.out))
  go_wp2_with fail
  refine ret_node (B := w.heap.size) tCallB (hd l).text 0 (hd l).pos a F.len cap Tryd.results109 rfl rfl (by repeat (with_reducible first | exact node_set HBZ4.out _ _ _ _ _ _ _ | refine (Below.heap_alloc _ _ _ (by simp; omega)).trans ?_)) ⟨⟨tCallB, (hd l).text, 0, (hd l).pos, a, cap, F⟩, rfl, (by repeat (with_reducible first | exact HK4.out | refine Kp.alloc ?_ _ | refine Kp.set ?_ (Nat.le_refl _) _)), ?_⟩
  cases rl with
  | ok ks l' =>
    obtain ⟨hr, hg, hs⟩ := HO4.out
    rw [H1.out ks l' rfl]
    refine ⟨(by repeat (with_reducible first | exact hr | refine RdS.alloc ?_ _ | refine RdS.set ?_ hB _)), ?_, ?_⟩
    · refine Nd.Good.mono (S := fun b => w3.drew.heap.size ≤ b) ?_ (fun b hb => Nat.le_trans (show w.heap.size ≤ w3.heap.size by omega) hb)
      exact (hg _ _ _ _ _).from (set5_from _ (show ¬ w3.heap.size ≤ w.heap.size by omega) _ _ _ _ _)
    · show Nd.mk _ _ _ _ _ _ _ = Nd.mk _ _ _ _ _ _ _
      rw [hs]
  | bad a e =>
    have hr : RdS w4 B (d : Int) (.bad a e) := HO4.out
    rw [H2.out a e rfl]
    show RdS _ B (d : Int) (.bad a e)
    exact (by repeat (with_reducible first | exact hr | refine RdS.alloc ?_ _ | refine RdS.set ?_ hB _))
set_option maxRecDepth 100000 in
set_option maxHeartbeats 16000000 in
theorem atom_bad (a e : Int) (l : List Tok) (w : World) (B d : Nat) (hP : PTB B w) (hS : RdS w B (d : Int) (.good l)) (hE : EndsOk l) (hc : cin l = false) (ht : ∀ W, PTB B W → RdS W B (d : Int) (.good l) → Calls Tryd.prog 114 #[.pointer (some ⟨B, 0, none⟩)] W (PostN B d W (.bad a e)))  : Calls Tryd.prog 109 #[.pointer (some ⟨B, 0, none⟩)] w (PostN B d w (.bad a e)) := by
  have HTM := Lib.hid ht
  clear ht
  have HEO := Lib.hid hE
  clear hE
  have hc5 := cellsNode
  have hc4 := cellsTok
  have hB := hS.lt
  have q3 := tok_f3
  have q0 := tok_f0
  have q2 := tok_f2
  have HS := Lib.hid hS
  have HP := Lib.hid hP
  clear hS hP
  go_enter Tryd.func109, Tryd.ntmps109
  have HC1 := Lib.hid ((cin_g l (w.alloc (boxOf ⟨#[]⟩ ⟨#[]⟩ 0 0 none 0 0)) B d HEO.out (HS.out.alloc _)))
  rw [hc] at HC1
  clear hc
  go_wp2_with fail
  refine HC1.out.mono ?_
  rintro e1 w1 ⟨rfl, hb1⟩
  have HK1 := Lib.hid (((Kp.refl B w).alloc _).below hb1)
  have HR1 := Lib.hid ((HS.out.alloc _).below hb1)
  have HBZ1 := Lib.hid ((hb1.block _ (lt_heap (new_at w (boxOf ⟨#[]⟩ ⟨#[]⟩ 0 0 none 0 0)))).trans (new_at w (boxOf ⟨#[]⟩ ⟨#[]⟩ 0 0 none 0 0)))
  have hzZ1 := lt_heap HBZ1.out
  clear hb1
  have HC2 := Lib.hid (now_g l w1 B d HR1.out)
  go_wp2_with fail
  refine HC2.out.mono ?_
  rintro e2 w2 ⟨rfl, hb2⟩
  have HK2 := Lib.hid (HK1.out.below hb2)
  have HR2 := Lib.hid (HR1.out.below hb2)
  have HBZ2 := Lib.hid ((hb2.block _ (lt_heap HBZ1.out)).trans HBZ1.out)
  have hzZ2 := lt_heap HBZ2.out
  clear hb2
  have HC3 := Lib.hid (HTM.out (w2.alloc (tokBox (hd l).kind (hd l).text (hd l).n (hd l).pos)) (HP.out.kp (HK2.out.alloc _)) (HR2.out.alloc _))
  go_wp2_with fail
  refine HC3.out.mono ?_
  rintro e3 w3 ⟨T, rfl, hk3, ho3⟩
  have HO3 := Lib.hid ho3
  clear ho3
  have HK3 := Lib.hid ((HK2.out.alloc _).trans hk3)
  have HBZ3 := Lib.hid (hk3.blk ((Below.heap_alloc _ _ _ (lt_heap HBZ2.out)).trans HBZ2.out) (by omega))
  have hzZ3 := lt_heap HBZ3.out
  have HBT3 := Lib.hid (hk3.blk (new_at w2 (tokBox (hd l).kind (hd l).text (hd l).n (hd l).pos)) (by omega))
  have hzT3 := lt_heap HBT3.out
  have HKL3 := Lib.hid hk3
  clear hk3
  have HR3 := Lib.hid (show RdS w3 B (d : Int) (.bad a e) from HO3.out)
  have HC4 := Lib.hid (sign_b 4 (w3.alloc (boxOf T.op T.name T.n T.pos T.a T.kids.len T.cap)) B d a e (HP.out.kp (HK3.out.alloc _)) (HR3.out.alloc _))
  go_wp2_with fail
  refine HC4.out.mono ?_
  rintro e4 w4 ⟨rfl, hb4⟩
  have HK4 := Lib.hid ((HK3.out.alloc _).below hb4)
  have HR4 := Lib.hid ((HR3.out.alloc _).below hb4)
  have HBZ4 := Lib.hid ((hb4.block _ (lt_heap ((Below.heap_alloc _ _ _ (lt_heap HBZ3.out)).trans HBZ3.out))).trans ((Below.heap_alloc _ _ _ (lt_heap HBZ3.out)).trans HBZ3.out))
  have hzZ4 := lt_heap HBZ4.out
  have HBT4 := Lib.hid ((hb4.block _ (lt_heap ((Below.heap_alloc _ _ _ (lt_heap HBT3.out)).trans HBT3.out))).trans ((Below.heap_alloc _ _ _ (lt_heap HBT3.out)).trans HBT3.out))
  have hzT4 := lt_heap HBT4.out
  have HBN4 := Lib.hid ((hb4.block _ (lt_heap (new_at w3 (boxOf T.op T.name T.n T.pos T.a T.kids.len T.cap)))).trans (new_at w3 (boxOf T.op T.name T.n T.pos T.a T.kids.len T.cap)))
  have hzN4 := lt_heap HBN4.out
  clear hb4
  cases hop : (T.op.toList == [118, 97, 114]) with
  | true =>
    have hne1 : ¬ w.heap.size = w2.heap.size := by omega
    have hme1 : ¬ w2.heap.size = w.heap.size := by omega
    have hne2 : ¬ w.heap.size = w3.heap.size := by omega
    have hme2 : ¬ w3.heap.size = w.heap.size := by omega
    have hne3 : ¬ w2.heap.size = w3.heap.size := by omega
    have hme3 : ¬ w3.heap.size = w2.heap.size := by omega
    obtain ⟨bN0, bN1, bN2, bN3, bN4⟩ := box_cells HBN4.out
    obtain ⟨fN0, fN1, fN2, fN3, fN4⟩ := box_frozen HBN4.out
    obtain ⟨⟨tT0, tT1, tT2, tT3⟩, tfT0, tfT1, tfT2, tfT3⟩ := tok_cells HBT4.out
    obtain ⟨bZ0, bZ1, bZ2, bZ3, bZ4⟩ := box_cells HBZ4.out
    obtain ⟨fZ0, fZ1, fZ2, fZ3, fZ4⟩ := box_frozen HBZ4.out
    go_wp2_with fail
    refine ret_node (B := w.heap.size) tIsB T.name 0 T.pos none 0 0 Tryd.results109 rfl rfl (by repeat (with_reducible first | exact node_set HBZ4.out _ _ _ _ _ _ _ | refine (Below.heap_alloc _ _ _ (by simp; omega)).trans ?_)) ⟨⟨tIsB, T.name, 0, T.pos, none, 0, .nil⟩, rfl, (by repeat (with_reducible first | exact HK4.out | refine Kp.alloc ?_ _ | refine Kp.set ?_ (Nat.le_refl _) _)), ?_⟩
    have hr := HR4.out
    show RdS _ B (d : Int) (.bad a e)
    exact (by repeat (with_reducible first | exact hr | refine RdS.alloc ?_ _ | refine RdS.set ?_ hB _))
  | false =>
    have hne1 : ¬ w.heap.size = w2.heap.size := by omega
    have hme1 : ¬ w2.heap.size = w.heap.size := by omega
    have hne2 : ¬ w.heap.size = w3.heap.size := by omega
    have hme2 : ¬ w3.heap.size = w.heap.size := by omega
    have hne3 : ¬ w2.heap.size = w3.heap.size := by omega
    have hme3 : ¬ w3.heap.size = w2.heap.size := by omega
    obtain ⟨bN0, bN1, bN2, bN3, bN4⟩ := box_cells HBN4.out
    obtain ⟨fN0, fN1, fN2, fN3, fN4⟩ := box_frozen HBN4.out
    obtain ⟨⟨tT0, tT1, tT2, tT3⟩, tfT0, tfT1, tfT2, tfT3⟩ := tok_cells HBT4.out
    have HC5 := Lib.hid (fail_b (hd l).pos 2 w4 B d a e rfl HR4.out)
    go_wp2_with fail
    refine HC5.out.mono ?_
    rintro e5 w5 ⟨rfl, hk5, hr5⟩
    have HK5 := Lib.hid (HK4.out.trans hk5)
    have HR5 := Lib.hid hr5
    have HBZ5 := Lib.hid (hk5.blk HBZ4.out (by omega))
    have hzZ5 := lt_heap HBZ5.out
    have HBT5 := Lib.hid (hk5.blk HBT4.out (by omega))
    have hzT5 := lt_heap HBT5.out
    have HBN5 := Lib.hid (hk5.blk HBN4.out (by omega))
    have hzN5 := lt_heap HBN5.out
    clear hk5
    clear bN0 bN1 bN2 bN3 bN4 fN0 fN1 fN2 fN3 fN4 tT0 tT1 tT2 tT3 tfT0 tfT1 tfT2 tfT3
    obtain ⟨bN0, bN1, bN2, bN3, bN4⟩ := box_cells HBN5.out
    obtain ⟨fN0, fN1, fN2, fN3, fN4⟩ := box_frozen HBN5.out
    obtain ⟨bZ0, bZ1, bZ2, bZ3, bZ4⟩ := box_cells HBZ5.out
    obtain ⟨fZ0, fZ1, fZ2, fZ3, fZ4⟩ := box_frozen HBZ5.out
    go_wp2_with fail
    refine ret_node (B := w.heap.size) tIsB T.name 0 T.pos none 0 0 Tryd.results109 rfl rfl (by repeat (with_reducible first | exact node_set HBZ5.out _ _ _ _ _ _ _ | refine (Below.heap_alloc _ _ _ (by simp; omega)).trans ?_)) ⟨⟨tIsB, T.name, 0, T.pos, none, 0, .nil⟩, rfl, (by repeat (with_reducible first | exact HK5.out | refine Kp.alloc ?_ _ | refine Kp.set ?_ (Nat.le_refl _) _)), ?_⟩
    have hr := HR5.out
    show RdS _ B (d : Int) (.bad a e)
    exact (by repeat (with_reducible first | exact hr | refine RdS.alloc ?_ _ | refine RdS.set ?_ hB _))
set_option maxRecDepth 100000 in
set_option maxHeartbeats 16000000 in
theorem atom_is (nd : Nd) (l' : List Tok) (l : List Tok) (w : World) (B d : Nat) (hP : PTB B w) (hS : RdS w B (d : Int) (.good l)) (hE : EndsOk l) (hc : cin l = false) (ht : ∀ W, PTB B W → RdS W B (d : Int) (.good l) → Calls Tryd.prog 114 #[.pointer (some ⟨B, 0, none⟩)] W (PostN B d W (.ok nd l'))) (hsg : psg 4 (wrd l') = ⟨#[]⟩) (hv : (nd.op.toList == [118, 97, 114]) = true) : Calls Tryd.prog 109 #[.pointer (some ⟨B, 0, none⟩)] w (PostN B d w (.ok (mkN tIsB nd.name 0 nd.pos []) l')) := by
  have HTM := Lib.hid ht
  clear ht
  have HEO := Lib.hid hE
  clear hE
  have HV := Lib.hid hv
  clear hv
  have hc5 := cellsNode
  have hc4 := cellsTok
  have hB := hS.lt
  have q3 := tok_f3
  have q0 := tok_f0
  have q2 := tok_f2
  have HS := Lib.hid hS
  have HP := Lib.hid hP
  clear hS hP
  go_enter Tryd.func109, Tryd.ntmps109
  have HC1 := Lib.hid ((cin_g l (w.alloc (boxOf ⟨#[]⟩ ⟨#[]⟩ 0 0 none 0 0)) B d HEO.out (HS.out.alloc _)))
  rw [hc] at HC1
  clear hc
  go_wp2_with fail
  refine HC1.out.mono ?_
  rintro e1 w1 ⟨rfl, hb1⟩
  have HK1 := Lib.hid (((Kp.refl B w).alloc _).below hb1)
  have HR1 := Lib.hid ((HS.out.alloc _).below hb1)
  have HBZ1 := Lib.hid ((hb1.block _ (lt_heap (new_at w (boxOf ⟨#[]⟩ ⟨#[]⟩ 0 0 none 0 0)))).trans (new_at w (boxOf ⟨#[]⟩ ⟨#[]⟩ 0 0 none 0 0)))
  have hzZ1 := lt_heap HBZ1.out
  clear hb1
  have HC2 := Lib.hid (now_g l w1 B d HR1.out)
  go_wp2_with fail
  refine HC2.out.mono ?_
  rintro e2 w2 ⟨rfl, hb2⟩
  have HK2 := Lib.hid (HK1.out.below hb2)
  have HR2 := Lib.hid (HR1.out.below hb2)
  have HBZ2 := Lib.hid ((hb2.block _ (lt_heap HBZ1.out)).trans HBZ1.out)
  have hzZ2 := lt_heap HBZ2.out
  clear hb2
  have HC3 := Lib.hid (HTM.out (w2.alloc (tokBox (hd l).kind (hd l).text (hd l).n (hd l).pos)) (HP.out.kp (HK2.out.alloc _)) (HR2.out.alloc _))
  go_wp2_with fail
  refine HC3.out.mono ?_
  rintro e3 w3 ⟨T, rfl, hk3, ho3⟩
  have HO3 := Lib.hid ho3
  clear ho3
  have HK3 := Lib.hid ((HK2.out.alloc _).trans hk3)
  have HBZ3 := Lib.hid (hk3.blk ((Below.heap_alloc _ _ _ (lt_heap HBZ2.out)).trans HBZ2.out) (by omega))
  have hzZ3 := lt_heap HBZ3.out
  have HBT3 := Lib.hid (hk3.blk (new_at w2 (tokBox (hd l).kind (hd l).text (hd l).n (hd l).pos)) (by omega))
  have hzT3 := lt_heap HBT3.out
  have HKL3 := Lib.hid hk3
  clear hk3
  obtain ⟨hr3, hg3, hs3⟩ := HO3.out
  have HR3 := Lib.hid hr3
  have HG3 := Lib.hid hg3
  have HST := Lib.hid hs3
  clear hr3 hg3 hs3
  have hop : (T.op.toList == [118, 97, 114]) = true := by have := HV.out; rw [← HST.out] at this; exact this
  have HC4 := Lib.hid (sign_g l' 4 (w3.alloc (boxOf T.op T.name T.n T.pos T.a T.kids.len T.cap)) B d (HP.out.kp (HK3.out.alloc _)) (HR3.out.alloc _))
  rw [hsg] at HC4
  clear hsg
  go_wp2_with fail
  refine HC4.out.mono ?_
  rintro e4 w4 ⟨rfl, hb4⟩
  have HK4 := Lib.hid ((HK3.out.alloc _).below hb4)
  have HR4 := Lib.hid ((HR3.out.alloc _).below hb4)
  have HBZ4 := Lib.hid ((hb4.block _ (lt_heap ((Below.heap_alloc _ _ _ (lt_heap HBZ3.out)).trans HBZ3.out))).trans ((Below.heap_alloc _ _ _ (lt_heap HBZ3.out)).trans HBZ3.out))
  have hzZ4 := lt_heap HBZ4.out
  have HBT4 := Lib.hid ((hb4.block _ (lt_heap ((Below.heap_alloc _ _ _ (lt_heap HBT3.out)).trans HBT3.out))).trans ((Below.heap_alloc _ _ _ (lt_heap HBT3.out)).trans HBT3.out))
  have hzT4 := lt_heap HBT4.out
  have HBN4 := Lib.hid ((hb4.block _ (lt_heap (new_at w3 (boxOf T.op T.name T.n T.pos T.a T.kids.len T.cap)))).trans (new_at w3 (boxOf T.op T.name T.n T.pos T.a T.kids.len T.cap)))
  have hzN4 := lt_heap HBN4.out
  clear hb4
  have hne1 : ¬ w.heap.size = w2.heap.size := by omega
  have hme1 : ¬ w2.heap.size = w.heap.size := by omega
  have hne2 : ¬ w.heap.size = w3.heap.size := by omega
  have hme2 : ¬ w3.heap.size = w.heap.size := by omega
  have hne3 : ¬ w2.heap.size = w3.heap.size := by omega
  have hme3 : ¬ w3.heap.size = w2.heap.size := by omega
  obtain ⟨bN0, bN1, bN2, bN3, bN4⟩ := box_cells HBN4.out
  obtain ⟨fN0, fN1, fN2, fN3, fN4⟩ := box_frozen HBN4.out
  obtain ⟨bZ0, bZ1, bZ2, bZ3, bZ4⟩ := box_cells HBZ4.out
  obtain ⟨fZ0, fZ1, fZ2, fZ3, fZ4⟩ := box_frozen HBZ4.out
  go_wp2_with fail
  refine ret_node (B := w.heap.size) tIsB T.name 0 T.pos none 0 0 Tryd.results109 rfl rfl (by repeat (with_reducible first | exact node_set HBZ4.out _ _ _ _ _ _ _ | refine (Below.heap_alloc _ _ _ (by simp; omega)).trans ?_)) ⟨⟨tIsB, T.name, 0, T.pos, none, 0, .nil⟩, rfl, (by repeat (with_reducible first | exact HK4.out | refine Kp.alloc ?_ _ | refine Kp.set ?_ (Nat.le_refl _) _)), ?_⟩
  refine ⟨(by repeat (with_reducible first | exact HR4.out | refine RdS.alloc ?_ _ | refine RdS.set ?_ hB _)), Nd.Good.leaf _ _ _ _ _ _ _ _, ?_⟩
  rw [← HST.out]
  rfl
set_option maxRecDepth 100000 in
set_option maxHeartbeats 16000000 in
theorem atom_novar (nd : Nd) (l' : List Tok) (l : List Tok) (w : World) (B d : Nat) (hP : PTB B w) (hS : RdS w B (d : Int) (.good l)) (hE : EndsOk l) (hc : cin l = false) (ht : ∀ W, PTB B W → RdS W B (d : Int) (.good l) → Calls Tryd.prog 114 #[.pointer (some ⟨B, 0, none⟩)] W (PostN B d W (.ok nd l'))) (hsg : psg 4 (wrd l') = ⟨#[]⟩) (hv : (nd.op.toList == [118, 97, 114]) = false) : Calls Tryd.prog 109 #[.pointer (some ⟨B, 0, none⟩)] w (PostN B d w (.bad (hd l).pos 2)) := by
  have HTM := Lib.hid ht
  clear ht
  have HEO := Lib.hid hE
  clear hE
  have HV := Lib.hid hv
  clear hv
  have hc5 := cellsNode
  have hc4 := cellsTok
  have hB := hS.lt
  have q3 := tok_f3
  have q0 := tok_f0
  have q2 := tok_f2
  have HS := Lib.hid hS
  have HP := Lib.hid hP
  clear hS hP
  go_enter Tryd.func109, Tryd.ntmps109
  have HC1 := Lib.hid ((cin_g l (w.alloc (boxOf ⟨#[]⟩ ⟨#[]⟩ 0 0 none 0 0)) B d HEO.out (HS.out.alloc _)))
  rw [hc] at HC1
  clear hc
  go_wp2_with fail
  refine HC1.out.mono ?_
  rintro e1 w1 ⟨rfl, hb1⟩
  have HK1 := Lib.hid (((Kp.refl B w).alloc _).below hb1)
  have HR1 := Lib.hid ((HS.out.alloc _).below hb1)
  have HBZ1 := Lib.hid ((hb1.block _ (lt_heap (new_at w (boxOf ⟨#[]⟩ ⟨#[]⟩ 0 0 none 0 0)))).trans (new_at w (boxOf ⟨#[]⟩ ⟨#[]⟩ 0 0 none 0 0)))
  have hzZ1 := lt_heap HBZ1.out
  clear hb1
  have HC2 := Lib.hid (now_g l w1 B d HR1.out)
  go_wp2_with fail
  refine HC2.out.mono ?_
  rintro e2 w2 ⟨rfl, hb2⟩
  have HK2 := Lib.hid (HK1.out.below hb2)
  have HR2 := Lib.hid (HR1.out.below hb2)
  have HBZ2 := Lib.hid ((hb2.block _ (lt_heap HBZ1.out)).trans HBZ1.out)
  have hzZ2 := lt_heap HBZ2.out
  clear hb2
  have HC3 := Lib.hid (HTM.out (w2.alloc (tokBox (hd l).kind (hd l).text (hd l).n (hd l).pos)) (HP.out.kp (HK2.out.alloc _)) (HR2.out.alloc _))
  go_wp2_with fail
  refine HC3.out.mono ?_
  rintro e3 w3 ⟨T, rfl, hk3, ho3⟩
  have HO3 := Lib.hid ho3
  clear ho3
  have HK3 := Lib.hid ((HK2.out.alloc _).trans hk3)
  have HBZ3 := Lib.hid (hk3.blk ((Below.heap_alloc _ _ _ (lt_heap HBZ2.out)).trans HBZ2.out) (by omega))
  have hzZ3 := lt_heap HBZ3.out
  have HBT3 := Lib.hid (hk3.blk (new_at w2 (tokBox (hd l).kind (hd l).text (hd l).n (hd l).pos)) (by omega))
  have hzT3 := lt_heap HBT3.out
  have HKL3 := Lib.hid hk3
  clear hk3
  obtain ⟨hr3, hg3, hs3⟩ := HO3.out
  have HR3 := Lib.hid hr3
  have HG3 := Lib.hid hg3
  have HST := Lib.hid hs3
  clear hr3 hg3 hs3
  have hop : (T.op.toList == [118, 97, 114]) = false := by have := HV.out; rw [← HST.out] at this; exact this
  have HC4 := Lib.hid (sign_g l' 4 (w3.alloc (boxOf T.op T.name T.n T.pos T.a T.kids.len T.cap)) B d (HP.out.kp (HK3.out.alloc _)) (HR3.out.alloc _))
  rw [hsg] at HC4
  clear hsg
  go_wp2_with fail
  refine HC4.out.mono ?_
  rintro e4 w4 ⟨rfl, hb4⟩
  have HK4 := Lib.hid ((HK3.out.alloc _).below hb4)
  have HR4 := Lib.hid ((HR3.out.alloc _).below hb4)
  have HBZ4 := Lib.hid ((hb4.block _ (lt_heap ((Below.heap_alloc _ _ _ (lt_heap HBZ3.out)).trans HBZ3.out))).trans ((Below.heap_alloc _ _ _ (lt_heap HBZ3.out)).trans HBZ3.out))
  have hzZ4 := lt_heap HBZ4.out
  have HBT4 := Lib.hid ((hb4.block _ (lt_heap ((Below.heap_alloc _ _ _ (lt_heap HBT3.out)).trans HBT3.out))).trans ((Below.heap_alloc _ _ _ (lt_heap HBT3.out)).trans HBT3.out))
  have hzT4 := lt_heap HBT4.out
  have HBN4 := Lib.hid ((hb4.block _ (lt_heap (new_at w3 (boxOf T.op T.name T.n T.pos T.a T.kids.len T.cap)))).trans (new_at w3 (boxOf T.op T.name T.n T.pos T.a T.kids.len T.cap)))
  have hzN4 := lt_heap HBN4.out
  clear hb4
  have hne1 : ¬ w.heap.size = w2.heap.size := by omega
  have hme1 : ¬ w2.heap.size = w.heap.size := by omega
  have hne2 : ¬ w.heap.size = w3.heap.size := by omega
  have hme2 : ¬ w3.heap.size = w.heap.size := by omega
  have hne3 : ¬ w2.heap.size = w3.heap.size := by omega
  have hme3 : ¬ w3.heap.size = w2.heap.size := by omega
  obtain ⟨bN0, bN1, bN2, bN3, bN4⟩ := box_cells HBN4.out
  obtain ⟨fN0, fN1, fN2, fN3, fN4⟩ := box_frozen HBN4.out
  obtain ⟨⟨tT0, tT1, tT2, tT3⟩, tfT0, tfT1, tfT2, tfT3⟩ := tok_cells HBT4.out
  have HC5 := Lib.hid (fail_g l' (hd l).pos 2 w4 B d rfl HR4.out)
  go_wp2_with fail
  refine HC5.out.mono ?_
  rintro e5 w5 ⟨rfl, hk5, hr5⟩
  have HK5 := Lib.hid (HK4.out.trans hk5)
  have HR5 := Lib.hid hr5
  have HBZ5 := Lib.hid (hk5.blk HBZ4.out (by omega))
  have hzZ5 := lt_heap HBZ5.out
  have HBT5 := Lib.hid (hk5.blk HBT4.out (by omega))
  have hzT5 := lt_heap HBT5.out
  have HBN5 := Lib.hid (hk5.blk HBN4.out (by omega))
  have hzN5 := lt_heap HBN5.out
  clear hk5
  clear bN0 bN1 bN2 bN3 bN4 fN0 fN1 fN2 fN3 fN4 tT0 tT1 tT2 tT3 tfT0 tfT1 tfT2 tfT3
  obtain ⟨bN0, bN1, bN2, bN3, bN4⟩ := box_cells HBN5.out
  obtain ⟨fN0, fN1, fN2, fN3, fN4⟩ := box_frozen HBN5.out
  obtain ⟨bZ0, bZ1, bZ2, bZ3, bZ4⟩ := box_cells HBZ5.out
  obtain ⟨fZ0, fZ1, fZ2, fZ3, fZ4⟩ := box_frozen HBZ5.out
  go_wp2_with fail
  refine ret_node (B := w.heap.size) tIsB T.name 0 T.pos none 0 0 Tryd.results109 rfl rfl (by repeat (with_reducible first | exact node_set HBZ5.out _ _ _ _ _ _ _ | refine (Below.heap_alloc _ _ _ (by simp; omega)).trans ?_)) ⟨⟨tIsB, T.name, 0, T.pos, none, 0, .nil⟩, rfl, (by repeat (with_reducible first | exact HK5.out | refine Kp.alloc ?_ _ | refine Kp.set ?_ (Nat.le_refl _) _)), ?_⟩
  have hr := HR5.out
  show RdS _ B (d : Int) (.bad _ 2)
  exact (by repeat (with_reducible first | exact hr | refine RdS.alloc ?_ _ | refine RdS.set ?_ hB _))
set_option maxRecDepth 100000 in
set_option maxHeartbeats 16000000 in
theorem atom_rel (nd : Nd) (l' : List Tok) (l : List Tok) (w : World) (B d : Nat) (hP : PTB B w) (hS : RdS w B (d : Int) (.good l)) (hE : EndsOk l) (hc : cin l = false) (ht : ∀ W, PTB B W → RdS W B (d : Int) (.good l) → Calls Tryd.prog 114 #[.pointer (some ⟨B, 0, none⟩)] W (PostN B d W (.ok nd l'))) (hsg : ((psg 4 (wrd l')).toList == []) = false) (r r2 : Res Nd) (hk2 : ∀ W, PTB B W → RdS W B (d : Int) (.good l'.tail) → Calls Tryd.prog 114 #[.pointer (some ⟨B, 0, none⟩)] W (PostN B d W r2)) (h1 : ∀ m l2, r2 = .ok m l2 → r = .ok (mkN (psg 4 (wrd l')) emp0 0 (hd l').pos [nd, m]) l2) (h2 : ∀ a e, r2 = .bad a e → r = .bad a e) : Calls Tryd.prog 109 #[.pointer (some ⟨B, 0, none⟩)] w (PostN B d w (r)) := by
  have HTM := Lib.hid ht
  clear ht
  have HEO := Lib.hid hE
  clear hE
  have HKTWO := Lib.hid hk2
  have H1 := Lib.hid h1
  have H2 := Lib.hid h2
  clear hk2 h1 h2
  have hc5 := cellsNode
  have hc4 := cellsTok
  have hB := hS.lt
  have q3 := tok_f3
  have q0 := tok_f0
  have q2 := tok_f2
  have HS := Lib.hid hS
  have HP := Lib.hid hP
  clear hS hP
  go_enter Tryd.func109, Tryd.ntmps109
  have HC1 := Lib.hid ((cin_g l (w.alloc (boxOf ⟨#[]⟩ ⟨#[]⟩ 0 0 none 0 0)) B d HEO.out (HS.out.alloc _)))
  rw [hc] at HC1
  clear hc
  go_wp2_with fail
  refine HC1.out.mono ?_
  rintro e1 w1 ⟨rfl, hb1⟩
  have HK1 := Lib.hid (((Kp.refl B w).alloc _).below hb1)
  have HR1 := Lib.hid ((HS.out.alloc _).below hb1)
  have HBZ1 := Lib.hid ((hb1.block _ (lt_heap (new_at w (boxOf ⟨#[]⟩ ⟨#[]⟩ 0 0 none 0 0)))).trans (new_at w (boxOf ⟨#[]⟩ ⟨#[]⟩ 0 0 none 0 0)))
  have hzZ1 := lt_heap HBZ1.out
  clear hb1
  have HC2 := Lib.hid (now_g l w1 B d HR1.out)
  go_wp2_with fail
  refine HC2.out.mono ?_
  rintro e2 w2 ⟨rfl, hb2⟩
  have HK2 := Lib.hid (HK1.out.below hb2)
  have HR2 := Lib.hid (HR1.out.below hb2)
  have HBZ2 := Lib.hid ((hb2.block _ (lt_heap HBZ1.out)).trans HBZ1.out)
  have hzZ2 := lt_heap HBZ2.out
  clear hb2
  have HC3 := Lib.hid (HTM.out (w2.alloc (tokBox (hd l).kind (hd l).text (hd l).n (hd l).pos)) (HP.out.kp (HK2.out.alloc _)) (HR2.out.alloc _))
  go_wp2_with fail
  refine HC3.out.mono ?_
  rintro e3 w3 ⟨T, rfl, hk3, ho3⟩
  have HO3 := Lib.hid ho3
  clear ho3
  have HK3 := Lib.hid ((HK2.out.alloc _).trans hk3)
  have HBZ3 := Lib.hid (hk3.blk ((Below.heap_alloc _ _ _ (lt_heap HBZ2.out)).trans HBZ2.out) (by omega))
  have hzZ3 := lt_heap HBZ3.out
  have HBT3 := Lib.hid (hk3.blk (new_at w2 (tokBox (hd l).kind (hd l).text (hd l).n (hd l).pos)) (by omega))
  have hzT3 := lt_heap HBT3.out
  have HKL3 := Lib.hid hk3
  clear hk3
  obtain ⟨hr3, hg3, hs3⟩ := HO3.out
  have HR3 := Lib.hid hr3
  have HG3 := Lib.hid hg3
  have HST := Lib.hid hs3
  clear hr3 hg3 hs3
  have hop1 : ¬ (psg 4 (wrd l')).toList = [] := by simpa using hsg
  have HC4 := Lib.hid (sign_g l' 4 (w3.alloc (boxOf T.op T.name T.n T.pos T.a T.kids.len T.cap)) B d (HP.out.kp (HK3.out.alloc _)) (HR3.out.alloc _))
  go_wp2_with fail
  refine HC4.out.mono ?_
  rintro e4 w4 ⟨rfl, hb4⟩
  have HMN4 := Lib.hid (((Kp.refl B w3).alloc _).below hb4)
  have HK4 := Lib.hid ((HK3.out.alloc _).below hb4)
  have HR4 := Lib.hid ((HR3.out.alloc _).below hb4)
  have HBZ4 := Lib.hid ((hb4.block _ (lt_heap ((Below.heap_alloc _ _ _ (lt_heap HBZ3.out)).trans HBZ3.out))).trans ((Below.heap_alloc _ _ _ (lt_heap HBZ3.out)).trans HBZ3.out))
  have hzZ4 := lt_heap HBZ4.out
  have HBT4 := Lib.hid ((hb4.block _ (lt_heap ((Below.heap_alloc _ _ _ (lt_heap HBT3.out)).trans HBT3.out))).trans ((Below.heap_alloc _ _ _ (lt_heap HBT3.out)).trans HBT3.out))
  have hzT4 := lt_heap HBT4.out
  have HBN4 := Lib.hid ((hb4.block _ (lt_heap (new_at w3 (boxOf T.op T.name T.n T.pos T.a T.kids.len T.cap)))).trans (new_at w3 (boxOf T.op T.name T.n T.pos T.a T.kids.len T.cap)))
  have hzN4 := lt_heap HBN4.out
  clear hb4
  have HC5 := Lib.hid (take_g l' w4 B d HR4.out)
  go_wp2_with fail
  refine HC5.out.mono ?_
  rintro e5 w5 ⟨rfl, hk5, hr5⟩
  have HMN5 := Lib.hid (HMN4.out.trans hk5)
  have HK5 := Lib.hid (HK4.out.trans hk5)
  have HR5 := Lib.hid hr5
  have HBZ5 := Lib.hid (hk5.blk HBZ4.out (by omega))
  have hzZ5 := lt_heap HBZ5.out
  have HBT5 := Lib.hid (hk5.blk HBT4.out (by omega))
  have hzT5 := lt_heap HBT5.out
  have HBN5 := Lib.hid (hk5.blk HBN4.out (by omega))
  have hzN5 := lt_heap HBN5.out
  clear hk5
  have hne1 : ¬ w.heap.size = w2.heap.size := by omega
  have hme1 : ¬ w2.heap.size = w.heap.size := by omega
  have hne2 : ¬ w.heap.size = w3.heap.size := by omega
  have hme2 : ¬ w3.heap.size = w.heap.size := by omega
  have hne3 : ¬ w2.heap.size = w3.heap.size := by omega
  have hme3 : ¬ w3.heap.size = w2.heap.size := by omega
  have HGL := Lib.hid ((HG3.out.lt))
  have HC6 := Lib.hid (HKTWO.out w5.drew (HP.out.kp (HK5.out.drew)) (HR5.out.drew))
  have hne4 : ¬ w.heap.size = w2.heap.size := by omega
  have hme4 : ¬ w2.heap.size = w.heap.size := by omega
  have hne5 : ¬ w.heap.size = w3.heap.size := by omega
  have hme5 : ¬ w3.heap.size = w.heap.size := by omega
  have hne6 : ¬ w2.heap.size = w3.heap.size := by omega
  have hme6 : ¬ w3.heap.size = w2.heap.size := by omega
  obtain ⟨bN0, bN1, bN2, bN3, bN4⟩ := box_cells HBN5.out
  obtain ⟨fN0, fN1, fN2, fN3, fN4⟩ := box_frozen HBN5.out
  obtain ⟨bZ0, bZ1, bZ2, bZ3, bZ4⟩ := box_cells HBZ5.out
  obtain ⟨fZ0, fZ1, fZ2, fZ3, fZ4⟩ := box_frozen HBZ5.out
  go_wp2_with fail
  go_region_held3 (fun w' => w'.cell? ⟨w3.heap.size, 0, none⟩ = some (.string T.op) ∧ w'.cell? ⟨w3.heap.size, 1, none⟩ = some (.string T.name) ∧ w'.cell? ⟨w3.heap.size, 2, none⟩ = some (.int .i64 T.n) ∧ w'.cell? ⟨w3.heap.size, 3, none⟩ = some (.int .i64 T.pos) ∧ w'.cell? ⟨w3.heap.size, 4, none⟩ = some (.slice T.a T.kids.len T.cap)) (go_keep) (first | (go_at_call 114; refine HC6.out.mono ?_; clear bN0 bN1 bN2 bN3 bN4 fN0 fN1 fN2 fN3 fN4; clear bZ0 bZ1 bZ2 bZ3 bZ4 fZ0 fZ1 fZ2 fZ3 fZ4; rintro e6 w6 ⟨U, rfl, hk6, ho6⟩; have HO6 := Lib.hid ho6; clear ho6; have HK6 := Lib.hid ((HK5.out.drew).trans hk6); have HMN6 := Lib.hid ((HMN5.out.drew).trans hk6); have HBZ6 := Lib.hid (hk6.blk HBZ5.out (by omega)); have hzZ6 := lt_heap HBZ6.out; have HBT6 := Lib.hid (hk6.blk HBT5.out (by omega)); have hzT6 := lt_heap HBT6.out; have HBN6 := Lib.hid (hk6.blk HBN5.out (by omega)); have hzN6 := lt_heap HBN6.out; have HKL6 := Lib.hid hk6; clear hk6; obtain ⟨bN0, bN1, bN2, bN3, bN4⟩ := box_cells HBN6.out; obtain ⟨fN0, fN1, fN2, fN3, fN4⟩ := box_frozen HBN6.out; obtain ⟨bZ0, bZ1, bZ2, bZ3, bZ4⟩ := box_cells HBZ6.out; obtain ⟨fZ0, fZ1, fZ2, fZ3, fZ4⟩ := box_frozen HBZ6.out))
  go_wp2_with fail
  refine ret_node (B := w.heap.size) (psg 4 (wrd l')) ⟨#[]⟩ 0 (hd l').pos (some ⟨w6.heap.size, 0, none⟩) 2 2 Tryd.results109 rfl rfl (by repeat (with_reducible first | exact node_set HBZ6.out _ _ _ _ _ _ _ | refine (Below.heap_alloc _ _ _ (by simp; omega)).trans ?_)) ⟨⟨(psg 4 (wrd l')), ⟨#[]⟩, 0, (hd l').pos, some ⟨w6.heap.size, 0, none⟩, 2, .cons T.op T.name T.n T.pos T.a T.cap T.kids (.cons U.op U.name U.n U.pos U.a U.cap U.kids .nil)⟩, rfl, (by repeat (with_reducible first | exact HK6.out | refine Kp.alloc ?_ _ | refine Kp.set ?_ (Nat.le_refl _) _)), ?_⟩
  have hfr : From (fun b => ¬ b = w.heap.size) w6 (((((w6.setCell ⟨w.heap.size, 0, none⟩ (.string (psg 4 (wrd l')))).setCell ⟨w.heap.size, 1, none⟩ (.string ⟨#[]⟩)).setCell ⟨w.heap.size, 2, none⟩ (.int .i64 0)).setCell ⟨w.heap.size, 3, none⟩ (.int .i64 (hd l').pos)).setCell ⟨w.heap.size, 4, none⟩ (.slice (some ⟨w6.heap.size, 0, none⟩) 2 2)) := set5_from _ (fun h => h rfl) _ _ _ _ _
  cases r2 with
  | ok m l2 =>
    obtain ⟨hr, hg, hs⟩ := HO6.out
    rw [H1.out m l2 rfl]
    refine ⟨(by repeat (with_reducible first | exact hr | refine RdS.alloc ?_ _ | refine RdS.set ?_ hB _)), ?_, ?_⟩
    · refine Nd.Good.mono (S := fun b => w.heap.size + 1 ≤ b) ?_ (fun b hb => by omega)
      have hT := (HGL.out.mono (S' := fun b => w.heap.size + 1 ≤ b) (fun b hb => by have h5 := hb.1; have h6 : w2.heap.size + 1 ≤ b := (by simpa using h5); omega)).from (HMN6.out.from (S := fun b => w.heap.size + 1 ≤ b) (fun h => absurd h (by omega)))
      have hU := hg.mono (S' := fun b => w.heap.size + 1 ≤ b) (fun b hb => by have h5 : w5.heap.size ≤ b := hb; omega)
      exact good2 (G := w6.heap.size) (by omega) (new_sets _ _ _ _ _ _ _ _) ((hT.from (hfr.mono (fun b hb => by omega))).from (From.alloc _ _ _)) ((hU.from (hfr.mono (fun b hb => by omega))).from (From.alloc _ _ _))
    · show Nd.mk _ _ _ _ _ _ _ = _
      rw [← hs, ← HST.out]
      rfl
  | bad a e =>
    have hr : RdS w6 B (d : Int) (.bad a e) := HO6.out
    rw [H2.out a e rfl]
    show RdS _ B (d : Int) (.bad a e)
    exact (by repeat (with_reducible first | exact hr | refine RdS.alloc ?_ _ | refine RdS.set ?_ hB _))
end Go.Proofs.YtmmicnjiikiklaaDoor
