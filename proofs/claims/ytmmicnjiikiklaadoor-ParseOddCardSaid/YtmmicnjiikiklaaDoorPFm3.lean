/- imp, un. -/
import Derived.Test.YtmmicnjiikiklaaDoorPFm2
import Derived.Test.YtmmicnjiikiklaaDoorLexA
import Derived.Test.YtmmicnjiikiklaaDoorRows
import Derived.WalkKit
import Derived.WalkLawsBesides
import Derived.WalkSpells
import Derived.ProofKit
import Derived.Outline
import Derived.Deep.QuietTactic
import Derived.BigQuiet
import Derived.Deep.Light
import Derived.Deep.CutBlock
import Derived.Deep.DeepCutAuto
import Derived.Deep.DeepFit
import Derived.Deep.LoopGhost
import Derived.Lib.Hide
import Derived.Lib.OthersKept
import Derived.IntWalk
import Derived.StillTailTactics
import Derived.Deep.RegionHeld3
namespace Go.Proofs.YtmmicnjiikiklaaDoor
open Go.RowKit
/-! imp, un, quantified. -/
set_option maxRecDepth 100000 in
set_option maxHeartbeats 16000000 in
theorem imp_bad (s : St) (a e : Int) (w : World) (B d : Nat) (hP : PTB B w) (hS : RdS w B (d : Int) s) (ho : ∀ W, PTB B W → RdS W B (d : Int) (s) → Calls Tryd.prog 91 #[.pointer (some ⟨B, 0, none⟩)] W (PostN B d W (.bad a e))) : Calls Tryd.prog 73 #[.pointer (some ⟨B, 0, none⟩)] w (PostN B d w (.bad a e)) := by
  have HOR := Lib.hid ho
  clear ho
  have hc5 := cellsNode
  have hc4 := cellsTok
  have hB := hS.lt
  have q3 := tok_f3
  have q0 := tok_f0
  have q2 := tok_f2
  have HS := Lib.hid hS
  have HP := Lib.hid hP
  clear hS hP
  go_enter Tryd.func73, Tryd.ntmps73
  have HC1 := Lib.hid (HOR.out (w.alloc (boxOf ⟨#[]⟩ ⟨#[]⟩ 0 0 none 0 0)) (HP.out.kp ((Kp.refl B w).alloc _)) (HS.out.alloc _))
  go_wp2_with fail
  refine HC1.out.mono ?_
  rintro e1 w1 ⟨T, rfl, hk1, ho1⟩
  have HO1 := Lib.hid ho1
  clear ho1
  have HK1 := Lib.hid (((Kp.refl B w).alloc _).trans hk1)
  have HBZ1 := Lib.hid (hk1.blk (new_at w (boxOf ⟨#[]⟩ ⟨#[]⟩ 0 0 none 0 0)) (by omega))
  have hzZ1 := lt_heap HBZ1.out
  have HKL1 := Lib.hid hk1
  clear hk1
  have HR1 := Lib.hid (show RdS w1 B (d : Int) (.bad a e) from HO1.out)
  have HC2 := Lib.hid (sign_b 1 (w1.alloc (boxOf T.op T.name T.n T.pos T.a T.kids.len T.cap)) B d a e (HP.out.kp (HK1.out.alloc _)) (HR1.out.alloc _))
  go_wp2_with fail
  refine HC2.out.mono ?_
  rintro e2 w2 ⟨rfl, hb2⟩
  have HK2 := Lib.hid ((HK1.out.alloc _).below hb2)
  have HR2 := Lib.hid ((HR1.out.alloc _).below hb2)
  have HBZ2 := Lib.hid ((hb2.block _ (lt_heap ((Below.heap_alloc _ _ _ (lt_heap HBZ1.out)).trans HBZ1.out))).trans ((Below.heap_alloc _ _ _ (lt_heap HBZ1.out)).trans HBZ1.out))
  have hzZ2 := lt_heap HBZ2.out
  have HBN2 := Lib.hid ((hb2.block _ (lt_heap (new_at w1 (boxOf T.op T.name T.n T.pos T.a T.kids.len T.cap)))).trans (new_at w1 (boxOf T.op T.name T.n T.pos T.a T.kids.len T.cap)))
  have hzN2 := lt_heap HBN2.out
  clear hb2
  have hne1 : ¬ w.heap.size = w1.heap.size := by omega
  have hme1 : ¬ w1.heap.size = w.heap.size := by omega
  obtain ⟨bN0, bN1, bN2, bN3, bN4⟩ := box_cells HBN2.out
  obtain ⟨fN0, fN1, fN2, fN3, fN4⟩ := box_frozen HBN2.out
  obtain ⟨bZ0, bZ1, bZ2, bZ3, bZ4⟩ := box_cells HBZ2.out
  obtain ⟨fZ0, fZ1, fZ2, fZ3, fZ4⟩ := box_frozen HBZ2.out
  go_wp2_with fail
  refine ret_node (B := w.heap.size) T.op T.name T.n T.pos T.a T.kids.len T.cap Tryd.results73 rfl rfl (by repeat (with_reducible first | exact node_set HBZ2.out _ _ _ _ _ _ _ | refine (Below.heap_alloc _ _ _ (by simp; omega)).trans ?_)) ⟨T, rfl, (by repeat (with_reducible first | exact HK2.out | refine Kp.alloc ?_ _ | refine Kp.set ?_ (Nat.le_refl _) _)), ?_⟩
  have hr := HR2.out
  show RdS _ B (d : Int) (.bad a e)
  exact (by repeat (with_reducible first | exact hr | refine RdS.alloc ?_ _ | refine RdS.set ?_ hB _))
set_option maxRecDepth 100000 in
set_option maxHeartbeats 16000000 in
theorem imp_one (nd : Nd) (l' : List Tok) (l : List Tok) (w : World) (B d : Nat) (hP : PTB B w) (hS : RdS w B (d : Int) (.good l)) (ho : ∀ W, PTB B W → RdS W B (d : Int) (.good l) → Calls Tryd.prog 91 #[.pointer (some ⟨B, 0, none⟩)] W (PostN B d W (.ok nd l'))) (hsg : psg 1 (wrd l') = ⟨#[]⟩) : Calls Tryd.prog 73 #[.pointer (some ⟨B, 0, none⟩)] w (PostN B d w (.ok nd l')) := by
  have HOR := Lib.hid ho
  clear ho
  have hc5 := cellsNode
  have hc4 := cellsTok
  have hB := hS.lt
  have q3 := tok_f3
  have q0 := tok_f0
  have q2 := tok_f2
  have HS := Lib.hid hS
  have HP := Lib.hid hP
  clear hS hP
  go_enter Tryd.func73, Tryd.ntmps73
  have HC1 := Lib.hid (HOR.out (w.alloc (boxOf ⟨#[]⟩ ⟨#[]⟩ 0 0 none 0 0)) (HP.out.kp ((Kp.refl B w).alloc _)) (HS.out.alloc _))
  go_wp2_with fail
  refine HC1.out.mono ?_
  rintro e1 w1 ⟨T, rfl, hk1, ho1⟩
  have HO1 := Lib.hid ho1
  clear ho1
  have HK1 := Lib.hid (((Kp.refl B w).alloc _).trans hk1)
  have HBZ1 := Lib.hid (hk1.blk (new_at w (boxOf ⟨#[]⟩ ⟨#[]⟩ 0 0 none 0 0)) (by omega))
  have hzZ1 := lt_heap HBZ1.out
  have HKL1 := Lib.hid hk1
  clear hk1
  obtain ⟨hr1, hg1, hs1⟩ := HO1.out
  have HR1 := Lib.hid hr1
  have HG1 := Lib.hid hg1
  have HST := Lib.hid hs1
  clear hr1 hg1 hs1
  have HC2 := Lib.hid (sign_g l' 1 (w1.alloc (boxOf T.op T.name T.n T.pos T.a T.kids.len T.cap)) B d (HP.out.kp (HK1.out.alloc _)) (HR1.out.alloc _))
  rw [hsg] at HC2
  clear hsg
  go_wp2_with fail
  refine HC2.out.mono ?_
  rintro e2 w2 ⟨rfl, hb2⟩
  have HMN2 := Lib.hid (((Kp.refl B w1).alloc _).below hb2)
  have HK2 := Lib.hid ((HK1.out.alloc _).below hb2)
  have HR2 := Lib.hid ((HR1.out.alloc _).below hb2)
  have HBZ2 := Lib.hid ((hb2.block _ (lt_heap ((Below.heap_alloc _ _ _ (lt_heap HBZ1.out)).trans HBZ1.out))).trans ((Below.heap_alloc _ _ _ (lt_heap HBZ1.out)).trans HBZ1.out))
  have hzZ2 := lt_heap HBZ2.out
  have HBN2 := Lib.hid ((hb2.block _ (lt_heap (new_at w1 (boxOf T.op T.name T.n T.pos T.a T.kids.len T.cap)))).trans (new_at w1 (boxOf T.op T.name T.n T.pos T.a T.kids.len T.cap)))
  have hzN2 := lt_heap HBN2.out
  clear hb2
  have hne1 : ¬ w.heap.size = w1.heap.size := by omega
  have hme1 : ¬ w1.heap.size = w.heap.size := by omega
  obtain ⟨bN0, bN1, bN2, bN3, bN4⟩ := box_cells HBN2.out
  obtain ⟨fN0, fN1, fN2, fN3, fN4⟩ := box_frozen HBN2.out
  obtain ⟨bZ0, bZ1, bZ2, bZ3, bZ4⟩ := box_cells HBZ2.out
  obtain ⟨fZ0, fZ1, fZ2, fZ3, fZ4⟩ := box_frozen HBZ2.out
  go_wp2_with fail
  refine ret_node (B := w.heap.size) T.op T.name T.n T.pos T.a T.kids.len T.cap Tryd.results73 rfl rfl (by repeat (with_reducible first | exact node_set HBZ2.out _ _ _ _ _ _ _ | refine (Below.heap_alloc _ _ _ (by simp; omega)).trans ?_)) ⟨T, rfl, (by repeat (with_reducible first | exact HK2.out | refine Kp.alloc ?_ _ | refine Kp.set ?_ (Nat.le_refl _) _)), ?_⟩
  refine ⟨(by repeat (with_reducible first | exact HR2.out | refine RdS.alloc ?_ _ | refine RdS.set ?_ hB _)), ?_, HST.out⟩
  refine Nd.Good.mono (S := fun b => w.heap.size + 1 ≤ b) ?_ (fun b hb => by omega)
  exact ((HG1.out.mono (S' := fun b => w.heap.size + 1 ≤ b) (fun b hb => by have h5 := hb; simpa using h5)).from (HMN2.out.from (S := fun b => w.heap.size + 1 ≤ b) (fun h => absurd h (by omega)))).from (set5_from _ (by omega) _ _ _ _ _)
set_option maxRecDepth 100000 in
set_option maxHeartbeats 16000000 in
theorem imp_two (nd : Nd) (l' : List Tok) (l : List Tok) (w : World) (B d : Nat) (hP : PTB B w) (hS : RdS w B (d : Int) (.good l)) (ho : ∀ W, PTB B W → RdS W B (d : Int) (.good l) → Calls Tryd.prog 91 #[.pointer (some ⟨B, 0, none⟩)] W (PostN B d W (.ok nd l'))) (hsg : ((psg 1 (wrd l')).toList == []) = false) (r r2 : Res Nd) (hk2 : ∀ W, PTB B W → RdS W B (d : Int) (.good l'.tail) → Calls Tryd.prog 73 #[.pointer (some ⟨B, 0, none⟩)] W (PostN B d W r2)) (h1 : ∀ m l2, r2 = .ok m l2 → r = .ok (mkN (psg 1 (wrd l')) emp0 0 (hd l').pos [nd, m]) l2) (h2 : ∀ a e, r2 = .bad a e → r = .bad a e) : Calls Tryd.prog 73 #[.pointer (some ⟨B, 0, none⟩)] w (PostN B d w (r)) := by
  have HOR := Lib.hid ho
  clear ho
  have HKTWO := Lib.hid hk2
  have H1 := Lib.hid h1
  have H2 := Lib.hid h2
  clear hk2 h1 h2
  have hc5 := cellsNode
  have hc4 := cellsTok
  have hB := hS.lt
  have q3 := tok_f3
  have q0 := tok_f0
  have q2 := tok_f2
  have HS := Lib.hid hS
  have HP := Lib.hid hP
  clear hS hP
  go_enter Tryd.func73, Tryd.ntmps73
  have HC1 := Lib.hid (HOR.out (w.alloc (boxOf ⟨#[]⟩ ⟨#[]⟩ 0 0 none 0 0)) (HP.out.kp ((Kp.refl B w).alloc _)) (HS.out.alloc _))
  go_wp2_with fail
  refine HC1.out.mono ?_
  rintro e1 w1 ⟨T, rfl, hk1, ho1⟩
  have HO1 := Lib.hid ho1
  clear ho1
  have HK1 := Lib.hid (((Kp.refl B w).alloc _).trans hk1)
  have HBZ1 := Lib.hid (hk1.blk (new_at w (boxOf ⟨#[]⟩ ⟨#[]⟩ 0 0 none 0 0)) (by omega))
  have hzZ1 := lt_heap HBZ1.out
  have HKL1 := Lib.hid hk1
  clear hk1
  obtain ⟨hr1, hg1, hs1⟩ := HO1.out
  have HR1 := Lib.hid hr1
  have HG1 := Lib.hid hg1
  have HST := Lib.hid hs1
  clear hr1 hg1 hs1
  have hop1 : ¬ (psg 1 (wrd l')).toList = [] := by simpa using hsg
  have HC2 := Lib.hid (sign_g l' 1 (w1.alloc (boxOf T.op T.name T.n T.pos T.a T.kids.len T.cap)) B d (HP.out.kp (HK1.out.alloc _)) (HR1.out.alloc _))
  go_wp2_with fail
  refine HC2.out.mono ?_
  rintro e2 w2 ⟨rfl, hb2⟩
  have HMN2 := Lib.hid (((Kp.refl B w1).alloc _).below hb2)
  have HK2 := Lib.hid ((HK1.out.alloc _).below hb2)
  have HR2 := Lib.hid ((HR1.out.alloc _).below hb2)
  have HBZ2 := Lib.hid ((hb2.block _ (lt_heap ((Below.heap_alloc _ _ _ (lt_heap HBZ1.out)).trans HBZ1.out))).trans ((Below.heap_alloc _ _ _ (lt_heap HBZ1.out)).trans HBZ1.out))
  have hzZ2 := lt_heap HBZ2.out
  have HBN2 := Lib.hid ((hb2.block _ (lt_heap (new_at w1 (boxOf T.op T.name T.n T.pos T.a T.kids.len T.cap)))).trans (new_at w1 (boxOf T.op T.name T.n T.pos T.a T.kids.len T.cap)))
  have hzN2 := lt_heap HBN2.out
  clear hb2
  have HC3 := Lib.hid (take_g l' w2 B d HR2.out)
  go_wp2_with fail
  refine HC3.out.mono ?_
  rintro e3 w3 ⟨rfl, hk3, hr3⟩
  have HMN3 := Lib.hid (HMN2.out.trans hk3)
  have HK3 := Lib.hid (HK2.out.trans hk3)
  have HR3 := Lib.hid hr3
  have HBZ3 := Lib.hid (hk3.blk HBZ2.out (by omega))
  have hzZ3 := lt_heap HBZ3.out
  have HBN3 := Lib.hid (hk3.blk HBN2.out (by omega))
  have hzN3 := lt_heap HBN3.out
  clear hk3
  have hne1 : ¬ w.heap.size = w1.heap.size := by omega
  have hme1 : ¬ w1.heap.size = w.heap.size := by omega
  have HGL := Lib.hid ((HG1.out.lt))
  have HC4 := Lib.hid (HKTWO.out w3.drew (HP.out.kp (HK3.out.drew)) (HR3.out.drew))
  have hne2 : ¬ w.heap.size = w1.heap.size := by omega
  have hme2 : ¬ w1.heap.size = w.heap.size := by omega
  obtain ⟨bN0, bN1, bN2, bN3, bN4⟩ := box_cells HBN3.out
  obtain ⟨fN0, fN1, fN2, fN3, fN4⟩ := box_frozen HBN3.out
  obtain ⟨bZ0, bZ1, bZ2, bZ3, bZ4⟩ := box_cells HBZ3.out
  obtain ⟨fZ0, fZ1, fZ2, fZ3, fZ4⟩ := box_frozen HBZ3.out
  go_wp2_with fail
  go_region_held3 (fun w' => w'.cell? ⟨w1.heap.size, 0, none⟩ = some (.string T.op) ∧ w'.cell? ⟨w1.heap.size, 1, none⟩ = some (.string T.name) ∧ w'.cell? ⟨w1.heap.size, 2, none⟩ = some (.int .i64 T.n) ∧ w'.cell? ⟨w1.heap.size, 3, none⟩ = some (.int .i64 T.pos) ∧ w'.cell? ⟨w1.heap.size, 4, none⟩ = some (.slice T.a T.kids.len T.cap)) (go_keep) (first | (go_at_call 73; refine HC4.out.mono ?_; clear bN0 bN1 bN2 bN3 bN4 fN0 fN1 fN2 fN3 fN4; clear bZ0 bZ1 bZ2 bZ3 bZ4 fZ0 fZ1 fZ2 fZ3 fZ4; rintro e4 w4 ⟨U, rfl, hk4, ho4⟩; have HO4 := Lib.hid ho4; clear ho4; have HK4 := Lib.hid ((HK3.out.drew).trans hk4); have HMN4 := Lib.hid ((HMN3.out.drew).trans hk4); have HBZ4 := Lib.hid (hk4.blk HBZ3.out (by omega)); have hzZ4 := lt_heap HBZ4.out; have HBN4 := Lib.hid (hk4.blk HBN3.out (by omega)); have hzN4 := lt_heap HBN4.out; have HKL4 := Lib.hid hk4; clear hk4; obtain ⟨bN0, bN1, bN2, bN3, bN4⟩ := box_cells HBN4.out; obtain ⟨fN0, fN1, fN2, fN3, fN4⟩ := box_frozen HBN4.out; obtain ⟨bZ0, bZ1, bZ2, bZ3, bZ4⟩ := box_cells HBZ4.out; obtain ⟨fZ0, fZ1, fZ2, fZ3, fZ4⟩ := box_frozen HBZ4.out))
  go_wp2_with fail
  refine ret_node (B := w.heap.size) (psg 1 (wrd l')) ⟨#[]⟩ 0 (hd l').pos (some ⟨w4.heap.size, 0, none⟩) 2 2 Tryd.results73 rfl rfl (by repeat (with_reducible first | exact node_set HBZ4.out _ _ _ _ _ _ _ | refine (Below.heap_alloc _ _ _ (by simp; omega)).trans ?_)) ⟨⟨(psg 1 (wrd l')), ⟨#[]⟩, 0, (hd l').pos, some ⟨w4.heap.size, 0, none⟩, 2, .cons T.op T.name T.n T.pos T.a T.cap T.kids (.cons U.op U.name U.n U.pos U.a U.cap U.kids .nil)⟩, rfl, (by repeat (with_reducible first | exact HK4.out | refine Kp.alloc ?_ _ | refine Kp.set ?_ (Nat.le_refl _) _)), ?_⟩
  have hfr : From (fun b => ¬ b = w.heap.size) w4 (((((w4.setCell ⟨w.heap.size, 0, none⟩ (.string (psg 1 (wrd l')))).setCell ⟨w.heap.size, 1, none⟩ (.string ⟨#[]⟩)).setCell ⟨w.heap.size, 2, none⟩ (.int .i64 0)).setCell ⟨w.heap.size, 3, none⟩ (.int .i64 (hd l').pos)).setCell ⟨w.heap.size, 4, none⟩ (.slice (some ⟨w4.heap.size, 0, none⟩) 2 2)) := set5_from _ (fun h => h rfl) _ _ _ _ _
  cases r2 with
  | ok m l2 =>
    obtain ⟨hr, hg, hs⟩ := HO4.out
    rw [H1.out m l2 rfl]
    refine ⟨(by repeat (with_reducible first | exact hr | refine RdS.alloc ?_ _ | refine RdS.set ?_ hB _)), ?_, ?_⟩
    · refine Nd.Good.mono (S := fun b => w.heap.size + 1 ≤ b) ?_ (fun b hb => by omega)
      have hT := (HGL.out.mono (S' := fun b => w.heap.size + 1 ≤ b) (fun b hb => by have h5 := hb.1; have h6 : w.heap.size + 1 ≤ b := (by simpa using h5); omega)).from (HMN4.out.from (S := fun b => w.heap.size + 1 ≤ b) (fun h => absurd h (by omega)))
      have hU := hg.mono (S' := fun b => w.heap.size + 1 ≤ b) (fun b hb => by have h5 : w3.heap.size ≤ b := hb; omega)
      exact good2 (G := w4.heap.size) (by omega) (new_sets _ _ _ _ _ _ _ _) ((hT.from (hfr.mono (fun b hb => by omega))).from (From.alloc _ _ _)) ((hU.from (hfr.mono (fun b hb => by omega))).from (From.alloc _ _ _))
    · show Nd.mk _ _ _ _ _ _ _ = _
      rw [← hs, ← HST.out]
      rfl
  | bad a e =>
    have hr : RdS w4 B (d : Int) (.bad a e) := HO4.out
    rw [H2.out a e rfl]
    show RdS _ B (d : Int) (.bad a e)
    exact (by repeat (with_reducible first | exact hr | refine RdS.alloc ?_ _ | refine RdS.set ?_ hB _))
theorem rd_depth {w : World} {B : Nat} {d : Int} {s : St} (h : RdS w B d s) : w.cell? ⟨B, 1, none⟩ = some (.int .i64 d) := by
  obtain ⟨a, cap, p, e, h1, _⟩ := h.open
  exact h1.cells.1.2.1
theorem bytes_of {x : ByteArray} {l : List UInt8} (h : (x.toList == l) = true) : x = ⟨l.toArray⟩ := by
  rw [beq_iff_eq, ByteArray.toList_eq] at h
  exact ByteArray.ext (Array.ext' h)
theorem word_l (l : List Tok) (x : ByteArray) (hx : wrd l = x) (w : World) (B : Nat) (d : Int) (h : RdS w B d (.good l)) : Calls Tryd.prog 39 #[.pointer (some ⟨B, 0, none⟩)] w fun e w' => e = .returned (.string x) ∧ Below w.heap.size w w' := by
  rw [← hx]; exact word_g l w B d h
set_option maxRecDepth 100000 in
set_option maxHeartbeats 16000000 in
theorem un_b1 (w : World) (B d : Nat) (a e : Int) (hdd : d ≤ 29) (hP : PTB B w) (hS : RdS w B (d : Int) (.bad a e)) : Calls Tryd.prog 105 #[.pointer (some ⟨B, 0, none⟩)] w (PostN B d w (.bad a e)) := by
  have hc5 := cellsNode
  have hc4 := cellsTok
  have hB := hS.lt
  have q3 := tok_f3
  have q0 := tok_f0
  have q2 := tok_f2
  have HS := Lib.hid hS
  have HP := Lib.hid hP
  clear hS hP
  have kd := rd_depth HS.out
  go_enter Tryd.func105, Tryd.ntmps105
  have HC1 := Lib.hid (word_b (w.alloc (boxOf ⟨#[]⟩ ⟨#[]⟩ 0 0 none 0 0)) B d a e (HS.out.alloc _))
  go_wp2_with fail
  refine HC1.out.mono ?_
  rintro e1 w1 ⟨rfl, hb1⟩
  have HK1 := Lib.hid (((Kp.refl B w).alloc _).below hb1)
  have HR1 := Lib.hid ((HS.out.alloc _).below hb1)
  have HBZ1 := Lib.hid ((hb1.block _ (lt_heap (new_at w (boxOf ⟨#[]⟩ ⟨#[]⟩ 0 0 none 0 0)))).trans (new_at w (boxOf ⟨#[]⟩ ⟨#[]⟩ 0 0 none 0 0)))
  have hzZ1 := lt_heap HBZ1.out
  clear hb1
  clear kd
  have HC2 := Lib.hid (atom_b w1 B d a e (by omega) (HP.out.kp HK1.out) HR1.out)
  go_wp2_with fail
  refine HC2.out.mono ?_
  rintro e2 w2 ⟨T, rfl, hk2, ho2⟩
  have HO2 := Lib.hid ho2
  clear ho2
  have HK2 := Lib.hid (HK1.out.trans hk2)
  have HBZ2 := Lib.hid (hk2.blk HBZ1.out (by omega))
  have hzZ2 := lt_heap HBZ2.out
  have HKL2 := Lib.hid hk2
  clear hk2
  have HR2 := Lib.hid (show RdS w2 B (d : Int) (.bad a e) from HO2.out)
  obtain ⟨bZ0, bZ1, bZ2, bZ3, bZ4⟩ := box_cells HBZ2.out
  obtain ⟨fZ0, fZ1, fZ2, fZ3, fZ4⟩ := box_frozen HBZ2.out
  go_wp2_with fail
  refine ret_node (B := w.heap.size) T.op T.name T.n T.pos T.a T.kids.len T.cap Tryd.results105 rfl rfl (by repeat (with_reducible first | exact node_set HBZ2.out _ _ _ _ _ _ _ | refine (Below.heap_alloc _ _ _ (by simp; omega)).trans ?_)) ⟨T, rfl, (by repeat (with_reducible first | exact HK2.out | refine Kp.alloc ?_ _ | refine Kp.set ?_ (Nat.le_refl _) _)), ?_⟩
  have hr := HR2.out
  show RdS _ B (d : Int) (.bad a e)
  exact (by repeat (with_reducible first | exact hr | refine RdS.alloc ?_ _ | refine RdS.set ?_ hB _))
set_option maxRecDepth 100000 in
set_option maxHeartbeats 16000000 in
theorem un_b2 (w : World) (B d : Nat) (a e : Int) (hd29 : (29 : Int) < (d : Int)) (hdd : d ≤ 30) (hP : PTB B w) (hS : RdS w B (d : Int) (.bad a e)) : Calls Tryd.prog 105 #[.pointer (some ⟨B, 0, none⟩)] w (PostN B d w (.bad a e)) := by
  have hc5 := cellsNode
  have hc4 := cellsTok
  have hB := hS.lt
  have q3 := tok_f3
  have q0 := tok_f0
  have q2 := tok_f2
  have HS := Lib.hid hS
  have HP := Lib.hid hP
  clear hS hP
  have kd := rd_depth HS.out
  go_enter Tryd.func105, Tryd.ntmps105
  have HC1 := Lib.hid (now_b (w.alloc (boxOf ⟨#[]⟩ ⟨#[]⟩ 0 0 none 0 0)) B d a e (HS.out.alloc _))
  go_wp2_with fail
  refine HC1.out.mono ?_
  rintro e1 w1 ⟨rfl, hb1⟩
  have HK1 := Lib.hid (((Kp.refl B w).alloc _).below hb1)
  have HR1 := Lib.hid ((HS.out.alloc _).below hb1)
  have HBZ1 := Lib.hid ((hb1.block _ (lt_heap (new_at w (boxOf ⟨#[]⟩ ⟨#[]⟩ 0 0 none 0 0)))).trans (new_at w (boxOf ⟨#[]⟩ ⟨#[]⟩ 0 0 none 0 0)))
  have hzZ1 := lt_heap HBZ1.out
  clear hb1
  have HC2 := Lib.hid (fail_b 0 4 w1 B d a e rfl HR1.out)
  go_wp2_with fail
  refine HC2.out.mono ?_
  rintro e2 w2 ⟨rfl, hk2, hr2⟩
  have HK2 := Lib.hid (HK1.out.trans hk2)
  have HR2 := Lib.hid hr2
  have HBZ2 := Lib.hid (hk2.blk HBZ1.out (by omega))
  have hzZ2 := lt_heap HBZ2.out
  clear hk2
  clear kd
  have HC3 := Lib.hid (word_b w2 B d a e HR2.out)
  go_wp2_with fail
  refine HC3.out.mono ?_
  rintro e3 w3 ⟨rfl, hb3⟩
  have HK3 := Lib.hid (HK2.out.below hb3)
  have HR3 := Lib.hid (HR2.out.below hb3)
  have HBZ3 := Lib.hid ((hb3.block _ (lt_heap HBZ2.out)).trans HBZ2.out)
  have hzZ3 := lt_heap HBZ3.out
  clear hb3
  have HC4 := Lib.hid (atom_b w3 B d a e hdd (HP.out.kp HK3.out) HR3.out)
  go_wp2_with fail
  refine HC4.out.mono ?_
  rintro e4 w4 ⟨T, rfl, hk4, ho4⟩
  have HO4 := Lib.hid ho4
  clear ho4
  have HK4 := Lib.hid (HK3.out.trans hk4)
  have HBZ4 := Lib.hid (hk4.blk HBZ3.out (by omega))
  have hzZ4 := lt_heap HBZ4.out
  have HKL4 := Lib.hid hk4
  clear hk4
  have HR4 := Lib.hid (show RdS w4 B (d : Int) (.bad a e) from HO4.out)
  obtain ⟨bZ0, bZ1, bZ2, bZ3, bZ4⟩ := box_cells HBZ4.out
  obtain ⟨fZ0, fZ1, fZ2, fZ3, fZ4⟩ := box_frozen HBZ4.out
  go_wp2_with fail
  refine ret_node (B := w.heap.size) T.op T.name T.n T.pos T.a T.kids.len T.cap Tryd.results105 rfl rfl (by repeat (with_reducible first | exact node_set HBZ4.out _ _ _ _ _ _ _ | refine (Below.heap_alloc _ _ _ (by simp; omega)).trans ?_)) ⟨T, rfl, (by repeat (with_reducible first | exact HK4.out | refine Kp.alloc ?_ _ | refine Kp.set ?_ (Nat.le_refl _) _)), ?_⟩
  have hr := HR4.out
  show RdS _ B (d : Int) (.bad a e)
  exact (by repeat (with_reducible first | exact hr | refine RdS.alloc ?_ _ | refine RdS.set ?_ hB _))
set_option maxRecDepth 100000 in
set_option maxHeartbeats 16000000 in
theorem un_deep (l : List Tok) (w : World) (B d : Nat) (hP : PTB B w) (hS : RdS w B (d : Int) (.good l)) (hd29 : (29 : Int) < (d : Int)) (hdd : d ≤ 30) : Calls Tryd.prog 105 #[.pointer (some ⟨B, 0, none⟩)] w (PostN B d w (.bad (hd l).pos 4)) := by
  have hc5 := cellsNode
  have hc4 := cellsTok
  have hB := hS.lt
  have q3 := tok_f3
  have q0 := tok_f0
  have q2 := tok_f2
  have HS := Lib.hid hS
  have HP := Lib.hid hP
  clear hS hP
  have kd := rd_depth HS.out
  go_enter Tryd.func105, Tryd.ntmps105
  have HC1 := Lib.hid (now_g l (w.alloc (boxOf ⟨#[]⟩ ⟨#[]⟩ 0 0 none 0 0)) B d (HS.out.alloc _))
  go_wp2_with fail
  refine HC1.out.mono ?_
  rintro e1 w1 ⟨rfl, hb1⟩
  have HK1 := Lib.hid (((Kp.refl B w).alloc _).below hb1)
  have HR1 := Lib.hid ((HS.out.alloc _).below hb1)
  have HBZ1 := Lib.hid ((hb1.block _ (lt_heap (new_at w (boxOf ⟨#[]⟩ ⟨#[]⟩ 0 0 none 0 0)))).trans (new_at w (boxOf ⟨#[]⟩ ⟨#[]⟩ 0 0 none 0 0)))
  have hzZ1 := lt_heap HBZ1.out
  clear hb1
  have HC2 := Lib.hid (fail_g l (hd l).pos 4 w1 B d rfl HR1.out)
  go_wp2_with fail
  refine HC2.out.mono ?_
  rintro e2 w2 ⟨rfl, hk2, hr2⟩
  have HK2 := Lib.hid (HK1.out.trans hk2)
  have HR2 := Lib.hid hr2
  have HBZ2 := Lib.hid (hk2.blk HBZ1.out (by omega))
  have hzZ2 := lt_heap HBZ2.out
  clear hk2
  clear kd
  have HC3 := Lib.hid (word_b w2 B d _ _ HR2.out)
  go_wp2_with fail
  refine HC3.out.mono ?_
  rintro e3 w3 ⟨rfl, hb3⟩
  have HK3 := Lib.hid (HK2.out.below hb3)
  have HR3 := Lib.hid (HR2.out.below hb3)
  have HBZ3 := Lib.hid ((hb3.block _ (lt_heap HBZ2.out)).trans HBZ2.out)
  have hzZ3 := lt_heap HBZ3.out
  clear hb3
  have HC4 := Lib.hid (atom_b w3 B d _ _ hdd (HP.out.kp HK3.out) HR3.out)
  go_wp2_with fail
  refine HC4.out.mono ?_
  rintro e4 w4 ⟨T, rfl, hk4, ho4⟩
  have HO4 := Lib.hid ho4
  clear ho4
  have HK4 := Lib.hid (HK3.out.trans hk4)
  have HBZ4 := Lib.hid (hk4.blk HBZ3.out (by omega))
  have hzZ4 := lt_heap HBZ4.out
  have HKL4 := Lib.hid hk4
  clear hk4
  have HR4 := Lib.hid (show RdS w4 B (d : Int) (.bad (hd l).pos 4) from HO4.out)
  obtain ⟨bZ0, bZ1, bZ2, bZ3, bZ4⟩ := box_cells HBZ4.out
  obtain ⟨fZ0, fZ1, fZ2, fZ3, fZ4⟩ := box_frozen HBZ4.out
  go_wp2_with fail
  refine ret_node (B := w.heap.size) T.op T.name T.n T.pos T.a T.kids.len T.cap Tryd.results105 rfl rfl (by repeat (with_reducible first | exact node_set HBZ4.out _ _ _ _ _ _ _ | refine (Below.heap_alloc _ _ _ (by simp; omega)).trans ?_)) ⟨T, rfl, (by repeat (with_reducible first | exact HK4.out | refine Kp.alloc ?_ _ | refine Kp.set ?_ (Nat.le_refl _) _)), ?_⟩
  have hr := HR4.out
  show RdS _ B (d : Int) (.bad (hd l).pos 4)
  exact (by repeat (with_reducible first | exact hr | refine RdS.alloc ?_ _ | refine RdS.set ?_ hB _))
set_option maxRecDepth 100000 in
set_option maxHeartbeats 16000000 in
theorem un_not (l : List Tok) (w : World) (B d : Nat) (hP : PTB B w) (hS : RdS w B (d : Int) (.good l)) (hdd : d ≤ 29) (hw : wrd l = ⟨#[126]⟩) (r r2 : Res Nd) (hk : ∀ W, PTB B W → RdS W B (d : Int) (.good l.tail) → Calls Tryd.prog 107 #[.pointer (some ⟨B, 0, none⟩), .func (.func 105) #[.pointer (some ⟨B, 0, none⟩)] #[]] W (PostN B d W r2)) (h1 : ∀ m l2, r2 = .ok m l2 → r = .ok (mkN tNotB emp0 0 (hd l).pos [m]) l2) (h2 : ∀ a e, r2 = .bad a e → r = .bad a e) : Calls Tryd.prog 105 #[.pointer (some ⟨B, 0, none⟩)] w (PostN B d w (r)) := by
  have HDK := Lib.hid hk
  have H1 := Lib.hid h1
  have H2 := Lib.hid h2
  clear hk h1 h2
  have hc5 := cellsNode
  have hc4 := cellsTok
  have hB := hS.lt
  have q3 := tok_f3
  have q0 := tok_f0
  have q2 := tok_f2
  have HS := Lib.hid hS
  have HP := Lib.hid hP
  clear hS hP
  have kd := rd_depth HS.out
  go_enter Tryd.func105, Tryd.ntmps105
  have HC1 := Lib.hid (word_l l ⟨#[126]⟩ hw (w.alloc (boxOf ⟨#[]⟩ ⟨#[]⟩ 0 0 none 0 0)) B d (HS.out.alloc _))
  go_wp2_with fail
  refine HC1.out.mono ?_
  rintro e1 w1 ⟨rfl, hb1⟩
  have HK1 := Lib.hid (((Kp.refl B w).alloc _).below hb1)
  have HR1 := Lib.hid ((HS.out.alloc _).below hb1)
  have HBZ1 := Lib.hid ((hb1.block _ (lt_heap (new_at w (boxOf ⟨#[]⟩ ⟨#[]⟩ 0 0 none 0 0)))).trans (new_at w (boxOf ⟨#[]⟩ ⟨#[]⟩ 0 0 none 0 0)))
  have hzZ1 := lt_heap HBZ1.out
  clear hb1
  clear kd
  have HC2 := Lib.hid (take_g l w1 B d HR1.out)
  go_wp2_with fail
  refine HC2.out.mono ?_
  rintro e2 w2 ⟨rfl, hk2, hr2⟩
  have HK2 := Lib.hid (HK1.out.trans hk2)
  have HR2 := Lib.hid hr2
  have HBZ2 := Lib.hid (hk2.blk HBZ1.out (by omega))
  have hzZ2 := lt_heap HBZ2.out
  clear hk2
  have HC3 := Lib.hid (HDK.out w2 (HP.out.kp HK2.out) HR2.out)
  go_wp2_with fail
  refine HC3.out.mono ?_
  rintro e3 w3 ⟨U, rfl, hk3, ho3⟩
  have HO3 := Lib.hid ho3
  clear ho3
  have HK3 := Lib.hid (HK2.out.trans hk3)
  have HBZ3 := Lib.hid (hk3.blk HBZ2.out (by omega))
  have hzZ3 := lt_heap HBZ3.out
  have HKL3 := Lib.hid hk3
  clear hk3
  obtain ⟨bZ0, bZ1, bZ2, bZ3, bZ4⟩ := box_cells HBZ3.out
  obtain ⟨fZ0, fZ1, fZ2, fZ3, fZ4⟩ := box_frozen HBZ3.out
  go_wp2_with fail
  refine ret_node (B := w.heap.size) tNotB ⟨#[]⟩ 0 (hd l).pos (some ⟨w3.heap.size, 0, none⟩) 1 1 Tryd.results105 rfl rfl (by repeat (with_reducible first | exact node_set HBZ3.out _ _ _ _ _ _ _ | refine (Below.heap_alloc _ _ _ (by simp; omega)).trans ?_)) ⟨⟨tNotB, ⟨#[]⟩, 0, (hd l).pos, some ⟨w3.heap.size, 0, none⟩, 1, .cons U.op U.name U.n U.pos U.a U.cap U.kids .nil⟩, rfl, (by repeat (with_reducible first | exact HK3.out | refine Kp.alloc ?_ _ | refine Kp.set ?_ (Nat.le_refl _) _)), ?_⟩
  have hfr : From (fun b => ¬ b = w.heap.size) w3 (((((w3.setCell ⟨w.heap.size, 0, none⟩ (.string tNotB)).setCell ⟨w.heap.size, 1, none⟩ (.string ⟨#[]⟩)).setCell ⟨w.heap.size, 2, none⟩ (.int .i64 0)).setCell ⟨w.heap.size, 3, none⟩ (.int .i64 (hd l).pos)).setCell ⟨w.heap.size, 4, none⟩ (.slice (some ⟨w3.heap.size, 0, none⟩) 1 1)) := set5_from _ (fun h => h rfl) _ _ _ _ _
  cases r2 with
  | ok m l2 =>
    obtain ⟨hr, hg, hs⟩ := HO3.out
    rw [H1.out m l2 rfl]
    refine ⟨(by repeat (with_reducible first | exact hr | refine RdS.alloc ?_ _ | refine RdS.set ?_ hB _)), ?_, ?_⟩
    · refine Nd.Good.mono (S := fun b => w.heap.size + 1 ≤ b) ?_ (fun b hb => by omega)
      have hU := hg.mono (S' := fun b => w.heap.size + 1 ≤ b) (fun b hb => by have h5 : w2.heap.size ≤ b := hb; omega)
      exact good1 (G := w3.heap.size) (by omega) (new_sets _ _ _ _ _ _ _ _) ((hU.from (hfr.mono (fun b hb => by omega))).from (From.alloc _ _ _))
    · show Nd.mk _ _ _ _ _ _ _ = _
      rw [← hs]
      rfl
  | bad a e =>
    have hr : RdS w3 B (d : Int) (.bad a e) := HO3.out
    rw [H2.out a e rfl]
    show RdS _ B (d : Int) (.bad a e)
    exact (by repeat (with_reducible first | exact hr | refine RdS.alloc ?_ _ | refine RdS.set ?_ hB _))
set_option maxRecDepth 100000 in
set_option maxHeartbeats 16000000 in
theorem un_ex0 (l : List Tok) (w : World) (B d : Nat) (hP : PTB B w) (hS : RdS w B (d : Int) (.good l)) (hdd : d ≤ 29) (hw : wrd l = ⟨#[101, 120, 48]⟩) (r : Res Nd) (hk : ∀ W, PTB B W → RdS W B (d : Int) (.good l) → Calls Tryd.prog 108 #[.pointer (some ⟨B, 0, none⟩), .string tExB] W (PostN B d W r)) : Calls Tryd.prog 105 #[.pointer (some ⟨B, 0, none⟩)] w (PostN B d w (r)) := by
  have HQ := Lib.hid hk
  clear hk
  have hc5 := cellsNode
  have hc4 := cellsTok
  have hB := hS.lt
  have q3 := tok_f3
  have q0 := tok_f0
  have q2 := tok_f2
  have HS := Lib.hid hS
  have HP := Lib.hid hP
  clear hS hP
  have kd := rd_depth HS.out
  go_enter Tryd.func105, Tryd.ntmps105
  have HC1 := Lib.hid (word_l l ⟨#[101, 120, 48]⟩ hw (w.alloc (boxOf ⟨#[]⟩ ⟨#[]⟩ 0 0 none 0 0)) B d (HS.out.alloc _))
  go_wp2_with fail
  refine HC1.out.mono ?_
  rintro e1 w1 ⟨rfl, hb1⟩
  have HK1 := Lib.hid (((Kp.refl B w).alloc _).below hb1)
  have HR1 := Lib.hid ((HS.out.alloc _).below hb1)
  have HBZ1 := Lib.hid ((hb1.block _ (lt_heap (new_at w (boxOf ⟨#[]⟩ ⟨#[]⟩ 0 0 none 0 0)))).trans (new_at w (boxOf ⟨#[]⟩ ⟨#[]⟩ 0 0 none 0 0)))
  have hzZ1 := lt_heap HBZ1.out
  clear hb1
  clear kd
  have HC2 := Lib.hid (HQ.out w1 (HP.out.kp HK1.out) HR1.out)
  go_wp2_with fail
  refine HC2.out.mono ?_
  rintro e2 w2 ⟨T, rfl, hk2, ho2⟩
  have HO2 := Lib.hid ho2
  clear ho2
  have HK2 := Lib.hid (HK1.out.trans hk2)
  have HBZ2 := Lib.hid (hk2.blk HBZ1.out (by omega))
  have hzZ2 := lt_heap HBZ2.out
  have HKL2 := Lib.hid hk2
  clear hk2
  obtain ⟨bZ0, bZ1, bZ2, bZ3, bZ4⟩ := box_cells HBZ2.out
  obtain ⟨fZ0, fZ1, fZ2, fZ3, fZ4⟩ := box_frozen HBZ2.out
  go_wp2_with fail
  refine ret_node (B := w.heap.size) T.op T.name T.n T.pos T.a T.kids.len T.cap Tryd.results105 rfl rfl (by repeat (with_reducible first | exact node_set HBZ2.out _ _ _ _ _ _ _ | refine (Below.heap_alloc _ _ _ (by simp; omega)).trans ?_)) ⟨T, rfl, (by repeat (with_reducible first | exact HK2.out | refine Kp.alloc ?_ _ | refine Kp.set ?_ (Nat.le_refl _) _)), ?_⟩
  cases r with
  | ok t l' =>
    obtain ⟨hr, hg, hs⟩ := HO2.out
    refine ⟨(by repeat (with_reducible first | exact hr | refine RdS.alloc ?_ _ | refine RdS.set ?_ hB _)), ?_, hs⟩
    refine Nd.Good.mono (S := fun b => w1.heap.size ≤ b) ?_ (fun b hb => Nat.le_trans (by first | omega | (simp; done) | (simp; omega)) hb)
    exact hg.from (set5_from _ (by first | omega | (simp; done) | (simp; omega)) _ _ _ _ _)
  | bad a e =>
    have hr : RdS w2 B (d : Int) (.bad a e) := HO2.out
    show RdS _ B (d : Int) (.bad a e)
    exact (by repeat (with_reducible first | exact hr | refine RdS.alloc ?_ _ | refine RdS.set ?_ hB _))
set_option maxRecDepth 100000 in
set_option maxHeartbeats 16000000 in
theorem un_ex1 (l : List Tok) (w : World) (B d : Nat) (hP : PTB B w) (hS : RdS w B (d : Int) (.good l)) (hdd : d ≤ 29) (hw : wrd l = ⟨#[101, 120, 49]⟩) (r : Res Nd) (hk : ∀ W, PTB B W → RdS W B (d : Int) (.good l) → Calls Tryd.prog 108 #[.pointer (some ⟨B, 0, none⟩), .string tExB] W (PostN B d W r)) : Calls Tryd.prog 105 #[.pointer (some ⟨B, 0, none⟩)] w (PostN B d w (r)) := by
  have HQ := Lib.hid hk
  clear hk
  have hc5 := cellsNode
  have hc4 := cellsTok
  have hB := hS.lt
  have q3 := tok_f3
  have q0 := tok_f0
  have q2 := tok_f2
  have HS := Lib.hid hS
  have HP := Lib.hid hP
  clear hS hP
  have kd := rd_depth HS.out
  go_enter Tryd.func105, Tryd.ntmps105
  have HC1 := Lib.hid (word_l l ⟨#[101, 120, 49]⟩ hw (w.alloc (boxOf ⟨#[]⟩ ⟨#[]⟩ 0 0 none 0 0)) B d (HS.out.alloc _))
  go_wp2_with fail
  refine HC1.out.mono ?_
  rintro e1 w1 ⟨rfl, hb1⟩
  have HK1 := Lib.hid (((Kp.refl B w).alloc _).below hb1)
  have HR1 := Lib.hid ((HS.out.alloc _).below hb1)
  have HBZ1 := Lib.hid ((hb1.block _ (lt_heap (new_at w (boxOf ⟨#[]⟩ ⟨#[]⟩ 0 0 none 0 0)))).trans (new_at w (boxOf ⟨#[]⟩ ⟨#[]⟩ 0 0 none 0 0)))
  have hzZ1 := lt_heap HBZ1.out
  clear hb1
  clear kd
  have HC2 := Lib.hid (HQ.out w1 (HP.out.kp HK1.out) HR1.out)
  go_wp2_with fail
  refine HC2.out.mono ?_
  rintro e2 w2 ⟨T, rfl, hk2, ho2⟩
  have HO2 := Lib.hid ho2
  clear ho2
  have HK2 := Lib.hid (HK1.out.trans hk2)
  have HBZ2 := Lib.hid (hk2.blk HBZ1.out (by omega))
  have hzZ2 := lt_heap HBZ2.out
  have HKL2 := Lib.hid hk2
  clear hk2
  obtain ⟨bZ0, bZ1, bZ2, bZ3, bZ4⟩ := box_cells HBZ2.out
  obtain ⟨fZ0, fZ1, fZ2, fZ3, fZ4⟩ := box_frozen HBZ2.out
  go_wp2_with fail
  refine ret_node (B := w.heap.size) T.op T.name T.n T.pos T.a T.kids.len T.cap Tryd.results105 rfl rfl (by repeat (with_reducible first | exact node_set HBZ2.out _ _ _ _ _ _ _ | refine (Below.heap_alloc _ _ _ (by simp; omega)).trans ?_)) ⟨T, rfl, (by repeat (with_reducible first | exact HK2.out | refine Kp.alloc ?_ _ | refine Kp.set ?_ (Nat.le_refl _) _)), ?_⟩
  cases r with
  | ok t l' =>
    obtain ⟨hr, hg, hs⟩ := HO2.out
    refine ⟨(by repeat (with_reducible first | exact hr | refine RdS.alloc ?_ _ | refine RdS.set ?_ hB _)), ?_, hs⟩
    refine Nd.Good.mono (S := fun b => w1.heap.size ≤ b) ?_ (fun b hb => Nat.le_trans (by first | omega | (simp; done) | (simp; omega)) hb)
    exact hg.from (set5_from _ (by first | omega | (simp; done) | (simp; omega)) _ _ _ _ _)
  | bad a e =>
    have hr : RdS w2 B (d : Int) (.bad a e) := HO2.out
    show RdS _ B (d : Int) (.bad a e)
    exact (by repeat (with_reducible first | exact hr | refine RdS.alloc ?_ _ | refine RdS.set ?_ hB _))
set_option maxRecDepth 100000 in
set_option maxHeartbeats 16000000 in
theorem un_ex2 (l : List Tok) (w : World) (B d : Nat) (hP : PTB B w) (hS : RdS w B (d : Int) (.good l)) (hdd : d ≤ 29) (hw : wrd l = ⟨#[101, 120, 50]⟩) (r : Res Nd) (hk : ∀ W, PTB B W → RdS W B (d : Int) (.good l) → Calls Tryd.prog 108 #[.pointer (some ⟨B, 0, none⟩), .string tExB] W (PostN B d W r)) : Calls Tryd.prog 105 #[.pointer (some ⟨B, 0, none⟩)] w (PostN B d w (r)) := by
  have HQ := Lib.hid hk
  clear hk
  have hc5 := cellsNode
  have hc4 := cellsTok
  have hB := hS.lt
  have q3 := tok_f3
  have q0 := tok_f0
  have q2 := tok_f2
  have HS := Lib.hid hS
  have HP := Lib.hid hP
  clear hS hP
  have kd := rd_depth HS.out
  go_enter Tryd.func105, Tryd.ntmps105
  have HC1 := Lib.hid (word_l l ⟨#[101, 120, 50]⟩ hw (w.alloc (boxOf ⟨#[]⟩ ⟨#[]⟩ 0 0 none 0 0)) B d (HS.out.alloc _))
  go_wp2_with fail
  refine HC1.out.mono ?_
  rintro e1 w1 ⟨rfl, hb1⟩
  have HK1 := Lib.hid (((Kp.refl B w).alloc _).below hb1)
  have HR1 := Lib.hid ((HS.out.alloc _).below hb1)
  have HBZ1 := Lib.hid ((hb1.block _ (lt_heap (new_at w (boxOf ⟨#[]⟩ ⟨#[]⟩ 0 0 none 0 0)))).trans (new_at w (boxOf ⟨#[]⟩ ⟨#[]⟩ 0 0 none 0 0)))
  have hzZ1 := lt_heap HBZ1.out
  clear hb1
  clear kd
  have HC2 := Lib.hid (HQ.out w1 (HP.out.kp HK1.out) HR1.out)
  go_wp2_with fail
  refine HC2.out.mono ?_
  rintro e2 w2 ⟨T, rfl, hk2, ho2⟩
  have HO2 := Lib.hid ho2
  clear ho2
  have HK2 := Lib.hid (HK1.out.trans hk2)
  have HBZ2 := Lib.hid (hk2.blk HBZ1.out (by omega))
  have hzZ2 := lt_heap HBZ2.out
  have HKL2 := Lib.hid hk2
  clear hk2
  obtain ⟨bZ0, bZ1, bZ2, bZ3, bZ4⟩ := box_cells HBZ2.out
  obtain ⟨fZ0, fZ1, fZ2, fZ3, fZ4⟩ := box_frozen HBZ2.out
  go_wp2_with fail
  refine ret_node (B := w.heap.size) T.op T.name T.n T.pos T.a T.kids.len T.cap Tryd.results105 rfl rfl (by repeat (with_reducible first | exact node_set HBZ2.out _ _ _ _ _ _ _ | refine (Below.heap_alloc _ _ _ (by simp; omega)).trans ?_)) ⟨T, rfl, (by repeat (with_reducible first | exact HK2.out | refine Kp.alloc ?_ _ | refine Kp.set ?_ (Nat.le_refl _) _)), ?_⟩
  cases r with
  | ok t l' =>
    obtain ⟨hr, hg, hs⟩ := HO2.out
    refine ⟨(by repeat (with_reducible first | exact hr | refine RdS.alloc ?_ _ | refine RdS.set ?_ hB _)), ?_, hs⟩
    refine Nd.Good.mono (S := fun b => w1.heap.size ≤ b) ?_ (fun b hb => Nat.le_trans (by first | omega | (simp; done) | (simp; omega)) hb)
    exact hg.from (set5_from _ (by first | omega | (simp; done) | (simp; omega)) _ _ _ _ _)
  | bad a e =>
    have hr : RdS w2 B (d : Int) (.bad a e) := HO2.out
    show RdS _ B (d : Int) (.bad a e)
    exact (by repeat (with_reducible first | exact hr | refine RdS.alloc ?_ _ | refine RdS.set ?_ hB _))
set_option maxRecDepth 100000 in
set_option maxHeartbeats 16000000 in
theorem un_all0 (l : List Tok) (w : World) (B d : Nat) (hP : PTB B w) (hS : RdS w B (d : Int) (.good l)) (hdd : d ≤ 29) (hw : wrd l = ⟨#[97, 108, 108, 48]⟩) (r : Res Nd) (hk : ∀ W, PTB B W → RdS W B (d : Int) (.good l) → Calls Tryd.prog 108 #[.pointer (some ⟨B, 0, none⟩), .string tAllB] W (PostN B d W r)) : Calls Tryd.prog 105 #[.pointer (some ⟨B, 0, none⟩)] w (PostN B d w (r)) := by
  have HQ := Lib.hid hk
  clear hk
  have hc5 := cellsNode
  have hc4 := cellsTok
  have hB := hS.lt
  have q3 := tok_f3
  have q0 := tok_f0
  have q2 := tok_f2
  have HS := Lib.hid hS
  have HP := Lib.hid hP
  clear hS hP
  have kd := rd_depth HS.out
  go_enter Tryd.func105, Tryd.ntmps105
  have HC1 := Lib.hid (word_l l ⟨#[97, 108, 108, 48]⟩ hw (w.alloc (boxOf ⟨#[]⟩ ⟨#[]⟩ 0 0 none 0 0)) B d (HS.out.alloc _))
  go_wp2_with fail
  refine HC1.out.mono ?_
  rintro e1 w1 ⟨rfl, hb1⟩
  have HK1 := Lib.hid (((Kp.refl B w).alloc _).below hb1)
  have HR1 := Lib.hid ((HS.out.alloc _).below hb1)
  have HBZ1 := Lib.hid ((hb1.block _ (lt_heap (new_at w (boxOf ⟨#[]⟩ ⟨#[]⟩ 0 0 none 0 0)))).trans (new_at w (boxOf ⟨#[]⟩ ⟨#[]⟩ 0 0 none 0 0)))
  have hzZ1 := lt_heap HBZ1.out
  clear hb1
  clear kd
  have HC2 := Lib.hid (HQ.out w1 (HP.out.kp HK1.out) HR1.out)
  go_wp2_with fail
  refine HC2.out.mono ?_
  rintro e2 w2 ⟨T, rfl, hk2, ho2⟩
  have HO2 := Lib.hid ho2
  clear ho2
  have HK2 := Lib.hid (HK1.out.trans hk2)
  have HBZ2 := Lib.hid (hk2.blk HBZ1.out (by omega))
  have hzZ2 := lt_heap HBZ2.out
  have HKL2 := Lib.hid hk2
  clear hk2
  obtain ⟨bZ0, bZ1, bZ2, bZ3, bZ4⟩ := box_cells HBZ2.out
  obtain ⟨fZ0, fZ1, fZ2, fZ3, fZ4⟩ := box_frozen HBZ2.out
  go_wp2_with fail
  refine ret_node (B := w.heap.size) T.op T.name T.n T.pos T.a T.kids.len T.cap Tryd.results105 rfl rfl (by repeat (with_reducible first | exact node_set HBZ2.out _ _ _ _ _ _ _ | refine (Below.heap_alloc _ _ _ (by simp; omega)).trans ?_)) ⟨T, rfl, (by repeat (with_reducible first | exact HK2.out | refine Kp.alloc ?_ _ | refine Kp.set ?_ (Nat.le_refl _) _)), ?_⟩
  cases r with
  | ok t l' =>
    obtain ⟨hr, hg, hs⟩ := HO2.out
    refine ⟨(by repeat (with_reducible first | exact hr | refine RdS.alloc ?_ _ | refine RdS.set ?_ hB _)), ?_, hs⟩
    refine Nd.Good.mono (S := fun b => w1.heap.size ≤ b) ?_ (fun b hb => Nat.le_trans (by first | omega | (simp; done) | (simp; omega)) hb)
    exact hg.from (set5_from _ (by first | omega | (simp; done) | (simp; omega)) _ _ _ _ _)
  | bad a e =>
    have hr : RdS w2 B (d : Int) (.bad a e) := HO2.out
    show RdS _ B (d : Int) (.bad a e)
    exact (by repeat (with_reducible first | exact hr | refine RdS.alloc ?_ _ | refine RdS.set ?_ hB _))
set_option maxRecDepth 100000 in
set_option maxHeartbeats 16000000 in
theorem un_all1 (l : List Tok) (w : World) (B d : Nat) (hP : PTB B w) (hS : RdS w B (d : Int) (.good l)) (hdd : d ≤ 29) (hw : wrd l = ⟨#[97, 108, 108, 49]⟩) (r : Res Nd) (hk : ∀ W, PTB B W → RdS W B (d : Int) (.good l) → Calls Tryd.prog 108 #[.pointer (some ⟨B, 0, none⟩), .string tAllB] W (PostN B d W r)) : Calls Tryd.prog 105 #[.pointer (some ⟨B, 0, none⟩)] w (PostN B d w (r)) := by
  have HQ := Lib.hid hk
  clear hk
  have hc5 := cellsNode
  have hc4 := cellsTok
  have hB := hS.lt
  have q3 := tok_f3
  have q0 := tok_f0
  have q2 := tok_f2
  have HS := Lib.hid hS
  have HP := Lib.hid hP
  clear hS hP
  have kd := rd_depth HS.out
  go_enter Tryd.func105, Tryd.ntmps105
  have HC1 := Lib.hid (word_l l ⟨#[97, 108, 108, 49]⟩ hw (w.alloc (boxOf ⟨#[]⟩ ⟨#[]⟩ 0 0 none 0 0)) B d (HS.out.alloc _))
  go_wp2_with fail
  refine HC1.out.mono ?_
  rintro e1 w1 ⟨rfl, hb1⟩
  have HK1 := Lib.hid (((Kp.refl B w).alloc _).below hb1)
  have HR1 := Lib.hid ((HS.out.alloc _).below hb1)
  have HBZ1 := Lib.hid ((hb1.block _ (lt_heap (new_at w (boxOf ⟨#[]⟩ ⟨#[]⟩ 0 0 none 0 0)))).trans (new_at w (boxOf ⟨#[]⟩ ⟨#[]⟩ 0 0 none 0 0)))
  have hzZ1 := lt_heap HBZ1.out
  clear hb1
  clear kd
  have HC2 := Lib.hid (HQ.out w1 (HP.out.kp HK1.out) HR1.out)
  go_wp2_with fail
  refine HC2.out.mono ?_
  rintro e2 w2 ⟨T, rfl, hk2, ho2⟩
  have HO2 := Lib.hid ho2
  clear ho2
  have HK2 := Lib.hid (HK1.out.trans hk2)
  have HBZ2 := Lib.hid (hk2.blk HBZ1.out (by omega))
  have hzZ2 := lt_heap HBZ2.out
  have HKL2 := Lib.hid hk2
  clear hk2
  obtain ⟨bZ0, bZ1, bZ2, bZ3, bZ4⟩ := box_cells HBZ2.out
  obtain ⟨fZ0, fZ1, fZ2, fZ3, fZ4⟩ := box_frozen HBZ2.out
  go_wp2_with fail
  refine ret_node (B := w.heap.size) T.op T.name T.n T.pos T.a T.kids.len T.cap Tryd.results105 rfl rfl (by repeat (with_reducible first | exact node_set HBZ2.out _ _ _ _ _ _ _ | refine (Below.heap_alloc _ _ _ (by simp; omega)).trans ?_)) ⟨T, rfl, (by repeat (with_reducible first | exact HK2.out | refine Kp.alloc ?_ _ | refine Kp.set ?_ (Nat.le_refl _) _)), ?_⟩
  cases r with
  | ok t l' =>
    obtain ⟨hr, hg, hs⟩ := HO2.out
    refine ⟨(by repeat (with_reducible first | exact hr | refine RdS.alloc ?_ _ | refine RdS.set ?_ hB _)), ?_, hs⟩
    refine Nd.Good.mono (S := fun b => w1.heap.size ≤ b) ?_ (fun b hb => Nat.le_trans (by first | omega | (simp; done) | (simp; omega)) hb)
    exact hg.from (set5_from _ (by first | omega | (simp; done) | (simp; omega)) _ _ _ _ _)
  | bad a e =>
    have hr : RdS w2 B (d : Int) (.bad a e) := HO2.out
    show RdS _ B (d : Int) (.bad a e)
    exact (by repeat (with_reducible first | exact hr | refine RdS.alloc ?_ _ | refine RdS.set ?_ hB _))
set_option maxRecDepth 100000 in
set_option maxHeartbeats 16000000 in
theorem un_all2 (l : List Tok) (w : World) (B d : Nat) (hP : PTB B w) (hS : RdS w B (d : Int) (.good l)) (hdd : d ≤ 29) (hw : wrd l = ⟨#[97, 108, 108, 50]⟩) (r : Res Nd) (hk : ∀ W, PTB B W → RdS W B (d : Int) (.good l) → Calls Tryd.prog 108 #[.pointer (some ⟨B, 0, none⟩), .string tAllB] W (PostN B d W r)) : Calls Tryd.prog 105 #[.pointer (some ⟨B, 0, none⟩)] w (PostN B d w (r)) := by
  have HQ := Lib.hid hk
  clear hk
  have hc5 := cellsNode
  have hc4 := cellsTok
  have hB := hS.lt
  have q3 := tok_f3
  have q0 := tok_f0
  have q2 := tok_f2
  have HS := Lib.hid hS
  have HP := Lib.hid hP
  clear hS hP
  have kd := rd_depth HS.out
  go_enter Tryd.func105, Tryd.ntmps105
  have HC1 := Lib.hid (word_l l ⟨#[97, 108, 108, 50]⟩ hw (w.alloc (boxOf ⟨#[]⟩ ⟨#[]⟩ 0 0 none 0 0)) B d (HS.out.alloc _))
  go_wp2_with fail
  refine HC1.out.mono ?_
  rintro e1 w1 ⟨rfl, hb1⟩
  have HK1 := Lib.hid (((Kp.refl B w).alloc _).below hb1)
  have HR1 := Lib.hid ((HS.out.alloc _).below hb1)
  have HBZ1 := Lib.hid ((hb1.block _ (lt_heap (new_at w (boxOf ⟨#[]⟩ ⟨#[]⟩ 0 0 none 0 0)))).trans (new_at w (boxOf ⟨#[]⟩ ⟨#[]⟩ 0 0 none 0 0)))
  have hzZ1 := lt_heap HBZ1.out
  clear hb1
  clear kd
  have HC2 := Lib.hid (HQ.out w1 (HP.out.kp HK1.out) HR1.out)
  go_wp2_with fail
  refine HC2.out.mono ?_
  rintro e2 w2 ⟨T, rfl, hk2, ho2⟩
  have HO2 := Lib.hid ho2
  clear ho2
  have HK2 := Lib.hid (HK1.out.trans hk2)
  have HBZ2 := Lib.hid (hk2.blk HBZ1.out (by omega))
  have hzZ2 := lt_heap HBZ2.out
  have HKL2 := Lib.hid hk2
  clear hk2
  obtain ⟨bZ0, bZ1, bZ2, bZ3, bZ4⟩ := box_cells HBZ2.out
  obtain ⟨fZ0, fZ1, fZ2, fZ3, fZ4⟩ := box_frozen HBZ2.out
  go_wp2_with fail
  refine ret_node (B := w.heap.size) T.op T.name T.n T.pos T.a T.kids.len T.cap Tryd.results105 rfl rfl (by repeat (with_reducible first | exact node_set HBZ2.out _ _ _ _ _ _ _ | refine (Below.heap_alloc _ _ _ (by simp; omega)).trans ?_)) ⟨T, rfl, (by repeat (with_reducible first | exact HK2.out | refine Kp.alloc ?_ _ | refine Kp.set ?_ (Nat.le_refl _) _)), ?_⟩
  cases r with
  | ok t l' =>
    obtain ⟨hr, hg, hs⟩ := HO2.out
    refine ⟨(by repeat (with_reducible first | exact hr | refine RdS.alloc ?_ _ | refine RdS.set ?_ hB _)), ?_, hs⟩
    refine Nd.Good.mono (S := fun b => w1.heap.size ≤ b) ?_ (fun b hb => Nat.le_trans (by first | omega | (simp; done) | (simp; omega)) hb)
    exact hg.from (set5_from _ (by first | omega | (simp; done) | (simp; omega)) _ _ _ _ _)
  | bad a e =>
    have hr : RdS w2 B (d : Int) (.bad a e) := HO2.out
    show RdS _ B (d : Int) (.bad a e)
    exact (by repeat (with_reducible first | exact hr | refine RdS.alloc ?_ _ | refine RdS.set ?_ hB _))
set_option maxRecDepth 100000 in
set_option maxHeartbeats 16000000 in
theorem un_true (l : List Tok) (w : World) (B d : Nat) (hP : PTB B w) (hS : RdS w B (d : Int) (.good l)) (hdd : d ≤ 29) (hw : wrd l = ⟨#[116, 114, 117, 101]⟩) : Calls Tryd.prog 105 #[.pointer (some ⟨B, 0, none⟩)] w (PostN B d w (.ok (mkN (hd l).text emp0 0 (hd l).pos []) l.tail)) := by
  have hc5 := cellsNode
  have hc4 := cellsTok
  have hB := hS.lt
  have q3 := tok_f3
  have q0 := tok_f0
  have q2 := tok_f2
  have HS := Lib.hid hS
  have HP := Lib.hid hP
  clear hS hP
  have kd := rd_depth HS.out
  go_enter Tryd.func105, Tryd.ntmps105
  have HC1 := Lib.hid (word_l l ⟨#[116, 114, 117, 101]⟩ hw (w.alloc (boxOf ⟨#[]⟩ ⟨#[]⟩ 0 0 none 0 0)) B d (HS.out.alloc _))
  go_wp2_with fail
  refine HC1.out.mono ?_
  rintro e1 w1 ⟨rfl, hb1⟩
  have HK1 := Lib.hid (((Kp.refl B w).alloc _).below hb1)
  have HR1 := Lib.hid ((HS.out.alloc _).below hb1)
  have HBZ1 := Lib.hid ((hb1.block _ (lt_heap (new_at w (boxOf ⟨#[]⟩ ⟨#[]⟩ 0 0 none 0 0)))).trans (new_at w (boxOf ⟨#[]⟩ ⟨#[]⟩ 0 0 none 0 0)))
  have hzZ1 := lt_heap HBZ1.out
  clear hb1
  clear kd
  have HC2 := Lib.hid (take_g l w1 B d HR1.out)
  go_wp2_with fail
  refine HC2.out.mono ?_
  rintro e2 w2 ⟨rfl, hk2, hr2⟩
  have HK2 := Lib.hid (HK1.out.trans hk2)
  have HR2 := Lib.hid hr2
  have HBZ2 := Lib.hid (hk2.blk HBZ1.out (by omega))
  have hzZ2 := lt_heap HBZ2.out
  clear hk2
  obtain ⟨bZ0, bZ1, bZ2, bZ3, bZ4⟩ := box_cells HBZ2.out
  obtain ⟨fZ0, fZ1, fZ2, fZ3, fZ4⟩ := box_frozen HBZ2.out
  go_wp2_with fail
  refine ret_node (B := w.heap.size) (hd l).text ⟨#[]⟩ 0 (hd l).pos none 0 0 Tryd.results105 rfl rfl (by repeat (with_reducible first | exact node_set HBZ2.out _ _ _ _ _ _ _ | refine (Below.heap_alloc _ _ _ (by simp; omega)).trans ?_)) ⟨⟨(hd l).text, ⟨#[]⟩, 0, (hd l).pos, none, 0, .nil⟩, rfl, (by repeat (with_reducible first | exact HK2.out | refine Kp.alloc ?_ _ | refine Kp.set ?_ (Nat.le_refl _) _)), ?_⟩
  exact ⟨(by repeat (with_reducible first | exact HR2.out | refine RdS.alloc ?_ _ | refine RdS.set ?_ hB _)), Nd.Good.leaf _ _ _ _ _ _ _ _, rfl⟩
set_option maxRecDepth 100000 in
set_option maxHeartbeats 16000000 in
theorem un_false (l : List Tok) (w : World) (B d : Nat) (hP : PTB B w) (hS : RdS w B (d : Int) (.good l)) (hdd : d ≤ 29) (hw : wrd l = ⟨#[102, 97, 108, 115, 101]⟩) : Calls Tryd.prog 105 #[.pointer (some ⟨B, 0, none⟩)] w (PostN B d w (.ok (mkN (hd l).text emp0 0 (hd l).pos []) l.tail)) := by
  have hc5 := cellsNode
  have hc4 := cellsTok
  have hB := hS.lt
  have q3 := tok_f3
  have q0 := tok_f0
  have q2 := tok_f2
  have HS := Lib.hid hS
  have HP := Lib.hid hP
  clear hS hP
  have kd := rd_depth HS.out
  go_enter Tryd.func105, Tryd.ntmps105
  have HC1 := Lib.hid (word_l l ⟨#[102, 97, 108, 115, 101]⟩ hw (w.alloc (boxOf ⟨#[]⟩ ⟨#[]⟩ 0 0 none 0 0)) B d (HS.out.alloc _))
  go_wp2_with fail
  refine HC1.out.mono ?_
  rintro e1 w1 ⟨rfl, hb1⟩
  have HK1 := Lib.hid (((Kp.refl B w).alloc _).below hb1)
  have HR1 := Lib.hid ((HS.out.alloc _).below hb1)
  have HBZ1 := Lib.hid ((hb1.block _ (lt_heap (new_at w (boxOf ⟨#[]⟩ ⟨#[]⟩ 0 0 none 0 0)))).trans (new_at w (boxOf ⟨#[]⟩ ⟨#[]⟩ 0 0 none 0 0)))
  have hzZ1 := lt_heap HBZ1.out
  clear hb1
  clear kd
  have HC2 := Lib.hid (take_g l w1 B d HR1.out)
  go_wp2_with fail
  refine HC2.out.mono ?_
  rintro e2 w2 ⟨rfl, hk2, hr2⟩
  have HK2 := Lib.hid (HK1.out.trans hk2)
  have HR2 := Lib.hid hr2
  have HBZ2 := Lib.hid (hk2.blk HBZ1.out (by omega))
  have hzZ2 := lt_heap HBZ2.out
  clear hk2
  obtain ⟨bZ0, bZ1, bZ2, bZ3, bZ4⟩ := box_cells HBZ2.out
  obtain ⟨fZ0, fZ1, fZ2, fZ3, fZ4⟩ := box_frozen HBZ2.out
  go_wp2_with fail
  refine ret_node (B := w.heap.size) (hd l).text ⟨#[]⟩ 0 (hd l).pos none 0 0 Tryd.results105 rfl rfl (by repeat (with_reducible first | exact node_set HBZ2.out _ _ _ _ _ _ _ | refine (Below.heap_alloc _ _ _ (by simp; omega)).trans ?_)) ⟨⟨(hd l).text, ⟨#[]⟩, 0, (hd l).pos, none, 0, .nil⟩, rfl, (by repeat (with_reducible first | exact HK2.out | refine Kp.alloc ?_ _ | refine Kp.set ?_ (Nat.le_refl _) _)), ?_⟩
  exact ⟨(by repeat (with_reducible first | exact HR2.out | refine RdS.alloc ?_ _ | refine RdS.set ?_ hB _)), Nd.Good.leaf _ _ _ _ _ _ _ _, rfl⟩
set_option maxRecDepth 100000 in
set_option maxHeartbeats 16000000 in
theorem un_par (l : List Tok) (w : World) (B d : Nat) (hP : PTB B w) (hS : RdS w B (d : Int) (.good l)) (hdd : d ≤ 29) (hw : wrd l = ⟨#[40]⟩) (nd : Nd) (l' : List Tok) (hm : ((wrd l').toList == (ByteArray.mk #[41]).toList) = true) (hk : ∀ W, PTB B W → RdS W B (d : Int) (.good l.tail) → Calls Tryd.prog 107 #[.pointer (some ⟨B, 0, none⟩), .func (.func 42) #[.pointer (some ⟨B, 0, none⟩)] #[]] W (PostN B d W (.ok nd l'))) : Calls Tryd.prog 105 #[.pointer (some ⟨B, 0, none⟩)] w (PostN B d w (.ok nd l'.tail)) := by
  have HDK := Lib.hid hk
  clear hk
  have HM := Lib.hid hm
  clear hm
  have hc5 := cellsNode
  have hc4 := cellsTok
  have hB := hS.lt
  have q3 := tok_f3
  have q0 := tok_f0
  have q2 := tok_f2
  have HS := Lib.hid hS
  have HP := Lib.hid hP
  clear hS hP
  have kd := rd_depth HS.out
  go_enter Tryd.func105, Tryd.ntmps105
  have HC1 := Lib.hid (word_l l ⟨#[40]⟩ hw (w.alloc (boxOf ⟨#[]⟩ ⟨#[]⟩ 0 0 none 0 0)) B d (HS.out.alloc _))
  go_wp2_with fail
  refine HC1.out.mono ?_
  rintro e1 w1 ⟨rfl, hb1⟩
  have HK1 := Lib.hid (((Kp.refl B w).alloc _).below hb1)
  have HR1 := Lib.hid ((HS.out.alloc _).below hb1)
  have HBZ1 := Lib.hid ((hb1.block _ (lt_heap (new_at w (boxOf ⟨#[]⟩ ⟨#[]⟩ 0 0 none 0 0)))).trans (new_at w (boxOf ⟨#[]⟩ ⟨#[]⟩ 0 0 none 0 0)))
  have hzZ1 := lt_heap HBZ1.out
  clear hb1
  clear kd
  have HC2 := Lib.hid (take_g l w1 B d HR1.out)
  go_wp2_with fail
  refine HC2.out.mono ?_
  rintro e2 w2 ⟨rfl, hk2, hr2⟩
  have HK2 := Lib.hid (HK1.out.trans hk2)
  have HR2 := Lib.hid hr2
  have HBZ2 := Lib.hid (hk2.blk HBZ1.out (by omega))
  have hzZ2 := lt_heap HBZ2.out
  clear hk2
  have HC3 := Lib.hid (HDK.out w2 (HP.out.kp HK2.out) HR2.out)
  go_wp2_with fail
  refine HC3.out.mono ?_
  rintro e3 w3 ⟨T, rfl, hk3, ho3⟩
  have HO3 := Lib.hid ho3
  clear ho3
  have HK3 := Lib.hid (HK2.out.trans hk3)
  have HBZ3 := Lib.hid (hk3.blk HBZ2.out (by omega))
  have hzZ3 := lt_heap HBZ3.out
  have HKL3 := Lib.hid hk3
  clear hk3
  obtain ⟨hr3, hg3, hs3⟩ := HO3.out
  have HR3 := Lib.hid hr3
  have HG3 := Lib.hid hg3
  have HST := Lib.hid hs3
  clear hr3 hg3 hs3
  have HC4 := Lib.hid (must_yes l' ⟨#[41]⟩ (w3.alloc (boxOf T.op T.name T.n T.pos T.a T.kids.len T.cap)) B d HM.out (HR3.out.alloc _))
  go_wp2_with fail
  refine HC4.out.mono ?_
  rintro e4 w4 ⟨rfl, hk4, hr4⟩
  have HMN4 := Lib.hid (((Kp.refl B w3).alloc _).trans hk4)
  have HK4 := Lib.hid ((HK3.out.alloc _).trans hk4)
  have HR4 := Lib.hid hr4
  have HBZ4 := Lib.hid (hk4.blk ((Below.heap_alloc _ _ _ (lt_heap HBZ3.out)).trans HBZ3.out) (by omega))
  have hzZ4 := lt_heap HBZ4.out
  have HBN4 := Lib.hid (hk4.blk (new_at w3 (boxOf T.op T.name T.n T.pos T.a T.kids.len T.cap)) (by omega))
  have hzN4 := lt_heap HBN4.out
  clear hk4
  have hne1 : ¬ w.heap.size = w3.heap.size := by omega
  have hme1 : ¬ w3.heap.size = w.heap.size := by omega
  obtain ⟨bN0, bN1, bN2, bN3, bN4⟩ := box_cells HBN4.out
  obtain ⟨fN0, fN1, fN2, fN3, fN4⟩ := box_frozen HBN4.out
  obtain ⟨bZ0, bZ1, bZ2, bZ3, bZ4⟩ := box_cells HBZ4.out
  obtain ⟨fZ0, fZ1, fZ2, fZ3, fZ4⟩ := box_frozen HBZ4.out
  go_wp2_with fail
  refine ret_node (B := w.heap.size) T.op T.name T.n T.pos T.a T.kids.len T.cap Tryd.results105 rfl rfl (by repeat (with_reducible first | exact node_set HBZ4.out _ _ _ _ _ _ _ | refine (Below.heap_alloc _ _ _ (by simp; omega)).trans ?_)) ⟨T, rfl, (by repeat (with_reducible first | exact HK4.out | refine Kp.alloc ?_ _ | refine Kp.set ?_ (Nat.le_refl _) _)), ?_⟩
  refine ⟨(by repeat (with_reducible first | exact HR4.out | refine RdS.alloc ?_ _ | refine RdS.set ?_ hB _)), ?_, HST.out⟩
  refine Nd.Good.mono (S := fun b => w.heap.size + 1 ≤ b) ?_ (fun b hb => by omega)
  exact ((HG3.out.mono (S' := fun b => w.heap.size + 1 ≤ b) (fun b hb => by have h5 : w2.heap.size ≤ b := hb; omega)).from (HMN4.out.from (S := fun b => w.heap.size + 1 ≤ b) (fun h => absurd h (by omega)))).from (set5_from _ (by omega) _ _ _ _ _)
set_option maxRecDepth 100000 in
set_option maxHeartbeats 16000000 in
theorem un_parno (l : List Tok) (w : World) (B d : Nat) (hP : PTB B w) (hS : RdS w B (d : Int) (.good l)) (hdd : d ≤ 29) (hw : wrd l = ⟨#[40]⟩) (nd : Nd) (l' : List Tok) (hm : ((wrd l').toList == (ByteArray.mk #[41]).toList) = false) (hk : ∀ W, PTB B W → RdS W B (d : Int) (.good l.tail) → Calls Tryd.prog 107 #[.pointer (some ⟨B, 0, none⟩), .func (.func 42) #[.pointer (some ⟨B, 0, none⟩)] #[]] W (PostN B d W (.ok nd l'))) : Calls Tryd.prog 105 #[.pointer (some ⟨B, 0, none⟩)] w (PostN B d w (.bad (hd l').pos 2)) := by
  have HDK := Lib.hid hk
  clear hk
  have HM := Lib.hid hm
  clear hm
  have hc5 := cellsNode
  have hc4 := cellsTok
  have hB := hS.lt
  have q3 := tok_f3
  have q0 := tok_f0
  have q2 := tok_f2
  have HS := Lib.hid hS
  have HP := Lib.hid hP
  clear hS hP
  have kd := rd_depth HS.out
  go_enter Tryd.func105, Tryd.ntmps105
  have HC1 := Lib.hid (word_l l ⟨#[40]⟩ hw (w.alloc (boxOf ⟨#[]⟩ ⟨#[]⟩ 0 0 none 0 0)) B d (HS.out.alloc _))
  go_wp2_with fail
  refine HC1.out.mono ?_
  rintro e1 w1 ⟨rfl, hb1⟩
  have HK1 := Lib.hid (((Kp.refl B w).alloc _).below hb1)
  have HR1 := Lib.hid ((HS.out.alloc _).below hb1)
  have HBZ1 := Lib.hid ((hb1.block _ (lt_heap (new_at w (boxOf ⟨#[]⟩ ⟨#[]⟩ 0 0 none 0 0)))).trans (new_at w (boxOf ⟨#[]⟩ ⟨#[]⟩ 0 0 none 0 0)))
  have hzZ1 := lt_heap HBZ1.out
  clear hb1
  clear kd
  have HC2 := Lib.hid (take_g l w1 B d HR1.out)
  go_wp2_with fail
  refine HC2.out.mono ?_
  rintro e2 w2 ⟨rfl, hk2, hr2⟩
  have HK2 := Lib.hid (HK1.out.trans hk2)
  have HR2 := Lib.hid hr2
  have HBZ2 := Lib.hid (hk2.blk HBZ1.out (by omega))
  have hzZ2 := lt_heap HBZ2.out
  clear hk2
  have HC3 := Lib.hid (HDK.out w2 (HP.out.kp HK2.out) HR2.out)
  go_wp2_with fail
  refine HC3.out.mono ?_
  rintro e3 w3 ⟨T, rfl, hk3, ho3⟩
  have HO3 := Lib.hid ho3
  clear ho3
  have HK3 := Lib.hid (HK2.out.trans hk3)
  have HBZ3 := Lib.hid (hk3.blk HBZ2.out (by omega))
  have hzZ3 := lt_heap HBZ3.out
  have HKL3 := Lib.hid hk3
  clear hk3
  obtain ⟨hr3, hg3, hs3⟩ := HO3.out
  have HR3 := Lib.hid hr3
  have HG3 := Lib.hid hg3
  have HST := Lib.hid hs3
  clear hr3 hg3 hs3
  have HC4 := Lib.hid (must_no l' ⟨#[41]⟩ (w3.alloc (boxOf T.op T.name T.n T.pos T.a T.kids.len T.cap)) B d HM.out (HR3.out.alloc _))
  go_wp2_with fail
  refine HC4.out.mono ?_
  rintro e4 w4 ⟨rfl, hk4, hr4⟩
  have HK4 := Lib.hid ((HK3.out.alloc _).trans hk4)
  have HR4 := Lib.hid hr4
  have HBZ4 := Lib.hid (hk4.blk ((Below.heap_alloc _ _ _ (lt_heap HBZ3.out)).trans HBZ3.out) (by omega))
  have hzZ4 := lt_heap HBZ4.out
  have HBN4 := Lib.hid (hk4.blk (new_at w3 (boxOf T.op T.name T.n T.pos T.a T.kids.len T.cap)) (by omega))
  have hzN4 := lt_heap HBN4.out
  clear hk4
  have hne1 : ¬ w.heap.size = w3.heap.size := by omega
  have hme1 : ¬ w3.heap.size = w.heap.size := by omega
  obtain ⟨bN0, bN1, bN2, bN3, bN4⟩ := box_cells HBN4.out
  obtain ⟨fN0, fN1, fN2, fN3, fN4⟩ := box_frozen HBN4.out
  obtain ⟨bZ0, bZ1, bZ2, bZ3, bZ4⟩ := box_cells HBZ4.out
  obtain ⟨fZ0, fZ1, fZ2, fZ3, fZ4⟩ := box_frozen HBZ4.out
  go_wp2_with fail
  refine ret_node (B := w.heap.size) T.op T.name T.n T.pos T.a T.kids.len T.cap Tryd.results105 rfl rfl (by repeat (with_reducible first | exact node_set HBZ4.out _ _ _ _ _ _ _ | refine (Below.heap_alloc _ _ _ (by simp; omega)).trans ?_)) ⟨T, rfl, (by repeat (with_reducible first | exact HK4.out | refine Kp.alloc ?_ _ | refine Kp.set ?_ (Nat.le_refl _) _)), ?_⟩
  have hr := HR4.out
  show RdS _ B (d : Int) (.bad _ 2)
  exact (by repeat (with_reducible first | exact hr | refine RdS.alloc ?_ _ | refine RdS.set ?_ hB _))
set_option maxRecDepth 100000 in
set_option maxHeartbeats 16000000 in
theorem un_parbad (l : List Tok) (w : World) (B d : Nat) (hP : PTB B w) (hS : RdS w B (d : Int) (.good l)) (hdd : d ≤ 29) (hw : wrd l = ⟨#[40]⟩) (a e : Int) (hk : ∀ W, PTB B W → RdS W B (d : Int) (.good l.tail) → Calls Tryd.prog 107 #[.pointer (some ⟨B, 0, none⟩), .func (.func 42) #[.pointer (some ⟨B, 0, none⟩)] #[]] W (PostN B d W (.bad a e))) : Calls Tryd.prog 105 #[.pointer (some ⟨B, 0, none⟩)] w (PostN B d w (.bad a e)) := by
  have HDK := Lib.hid hk
  clear hk
  have hc5 := cellsNode
  have hc4 := cellsTok
  have hB := hS.lt
  have q3 := tok_f3
  have q0 := tok_f0
  have q2 := tok_f2
  have HS := Lib.hid hS
  have HP := Lib.hid hP
  clear hS hP
  have kd := rd_depth HS.out
  go_enter Tryd.func105, Tryd.ntmps105
  have HC1 := Lib.hid (word_l l ⟨#[40]⟩ hw (w.alloc (boxOf ⟨#[]⟩ ⟨#[]⟩ 0 0 none 0 0)) B d (HS.out.alloc _))
  go_wp2_with fail
  refine HC1.out.mono ?_
  rintro e1 w1 ⟨rfl, hb1⟩
  have HK1 := Lib.hid (((Kp.refl B w).alloc _).below hb1)
  have HR1 := Lib.hid ((HS.out.alloc _).below hb1)
  have HBZ1 := Lib.hid ((hb1.block _ (lt_heap (new_at w (boxOf ⟨#[]⟩ ⟨#[]⟩ 0 0 none 0 0)))).trans (new_at w (boxOf ⟨#[]⟩ ⟨#[]⟩ 0 0 none 0 0)))
  have hzZ1 := lt_heap HBZ1.out
  clear hb1
  clear kd
  have HC2 := Lib.hid (take_g l w1 B d HR1.out)
  go_wp2_with fail
  refine HC2.out.mono ?_
  rintro e2 w2 ⟨rfl, hk2, hr2⟩
  have HK2 := Lib.hid (HK1.out.trans hk2)
  have HR2 := Lib.hid hr2
  have HBZ2 := Lib.hid (hk2.blk HBZ1.out (by omega))
  have hzZ2 := lt_heap HBZ2.out
  clear hk2
  have HC3 := Lib.hid (HDK.out w2 (HP.out.kp HK2.out) HR2.out)
  go_wp2_with fail
  refine HC3.out.mono ?_
  rintro e3 w3 ⟨T, rfl, hk3, ho3⟩
  have HO3 := Lib.hid ho3
  clear ho3
  have HK3 := Lib.hid (HK2.out.trans hk3)
  have HBZ3 := Lib.hid (hk3.blk HBZ2.out (by omega))
  have hzZ3 := lt_heap HBZ3.out
  have HKL3 := Lib.hid hk3
  clear hk3
  have HR3 := Lib.hid (show RdS w3 B (d : Int) (.bad a e) from HO3.out)
  have HC4 := Lib.hid (must_b ⟨#[41]⟩ (w3.alloc (boxOf T.op T.name T.n T.pos T.a T.kids.len T.cap)) B d a e (by decide +kernel) (HR3.out.alloc _))
  go_wp2_with fail
  refine HC4.out.mono ?_
  rintro e4 w4 ⟨rfl, hk4, hr4⟩
  have HK4 := Lib.hid ((HK3.out.alloc _).trans hk4)
  have HR4 := Lib.hid hr4
  have HBZ4 := Lib.hid (hk4.blk ((Below.heap_alloc _ _ _ (lt_heap HBZ3.out)).trans HBZ3.out) (by omega))
  have hzZ4 := lt_heap HBZ4.out
  have HBN4 := Lib.hid (hk4.blk (new_at w3 (boxOf T.op T.name T.n T.pos T.a T.kids.len T.cap)) (by omega))
  have hzN4 := lt_heap HBN4.out
  clear hk4
  have hne1 : ¬ w.heap.size = w3.heap.size := by omega
  have hme1 : ¬ w3.heap.size = w.heap.size := by omega
  obtain ⟨bN0, bN1, bN2, bN3, bN4⟩ := box_cells HBN4.out
  obtain ⟨fN0, fN1, fN2, fN3, fN4⟩ := box_frozen HBN4.out
  obtain ⟨bZ0, bZ1, bZ2, bZ3, bZ4⟩ := box_cells HBZ4.out
  obtain ⟨fZ0, fZ1, fZ2, fZ3, fZ4⟩ := box_frozen HBZ4.out
  go_wp2_with fail
  refine ret_node (B := w.heap.size) T.op T.name T.n T.pos T.a T.kids.len T.cap Tryd.results105 rfl rfl (by repeat (with_reducible first | exact node_set HBZ4.out _ _ _ _ _ _ _ | refine (Below.heap_alloc _ _ _ (by simp; omega)).trans ?_)) ⟨T, rfl, (by repeat (with_reducible first | exact HK4.out | refine Kp.alloc ?_ _ | refine Kp.set ?_ (Nat.le_refl _) _)), ?_⟩
  have hr := HR4.out
  show RdS _ B (d : Int) (.bad a e)
  exact (by repeat (with_reducible first | exact hr | refine RdS.alloc ?_ _ | refine RdS.set ?_ hB _))
set_option maxRecDepth 100000 in
set_option maxHeartbeats 16000000 in
theorem un_atom (l : List Tok) (w : World) (B d : Nat) (hP : PTB B w) (hS : RdS w B (d : Int) (.good l)) (hdd : d ≤ 29) (hw0 : ((wrd l).toList == [126]) = false) (hw1 : ((wrd l).toList == [101, 120, 48]) = false) (hw2 : ((wrd l).toList == [101, 120, 49]) = false) (hw3 : ((wrd l).toList == [101, 120, 50]) = false) (hw4 : ((wrd l).toList == [97, 108, 108, 48]) = false) (hw5 : ((wrd l).toList == [97, 108, 108, 49]) = false) (hw6 : ((wrd l).toList == [97, 108, 108, 50]) = false) (hw7 : ((wrd l).toList == [116, 114, 117, 101]) = false) (hw8 : ((wrd l).toList == [102, 97, 108, 115, 101]) = false) (hw9 : ((wrd l).toList == [40]) = false) (r : Res Nd) (hk : ∀ W, PTB B W → RdS W B (d : Int) (.good l) → Calls Tryd.prog 109 #[.pointer (some ⟨B, 0, none⟩)] W (PostN B d W r)) : Calls Tryd.prog 105 #[.pointer (some ⟨B, 0, none⟩)] w (PostN B d w (r)) := by
  have HQ := Lib.hid hk
  clear hk
  have hc5 := cellsNode
  have hc4 := cellsTok
  have hB := hS.lt
  have q3 := tok_f3
  have q0 := tok_f0
  have q2 := tok_f2
  have HS := Lib.hid hS
  have HP := Lib.hid hP
  clear hS hP
  have kd := rd_depth HS.out
  go_enter Tryd.func105, Tryd.ntmps105
  have HC1 := Lib.hid (word_g l (w.alloc (boxOf ⟨#[]⟩ ⟨#[]⟩ 0 0 none 0 0)) B d (HS.out.alloc _))
  go_wp2_with fail
  refine HC1.out.mono ?_
  rintro e1 w1 ⟨rfl, hb1⟩
  have HK1 := Lib.hid (((Kp.refl B w).alloc _).below hb1)
  have HR1 := Lib.hid ((HS.out.alloc _).below hb1)
  have HBZ1 := Lib.hid ((hb1.block _ (lt_heap (new_at w (boxOf ⟨#[]⟩ ⟨#[]⟩ 0 0 none 0 0)))).trans (new_at w (boxOf ⟨#[]⟩ ⟨#[]⟩ 0 0 none 0 0)))
  have hzZ1 := lt_heap HBZ1.out
  clear hb1
  clear kd
  have HC2 := Lib.hid (HQ.out w1 (HP.out.kp HK1.out) HR1.out)
  go_wp2_with fail
  refine HC2.out.mono ?_
  rintro e2 w2 ⟨T, rfl, hk2, ho2⟩
  have HO2 := Lib.hid ho2
  clear ho2
  have HK2 := Lib.hid (HK1.out.trans hk2)
  have HBZ2 := Lib.hid (hk2.blk HBZ1.out (by omega))
  have hzZ2 := lt_heap HBZ2.out
  have HKL2 := Lib.hid hk2
  clear hk2
  obtain ⟨bZ0, bZ1, bZ2, bZ3, bZ4⟩ := box_cells HBZ2.out
  obtain ⟨fZ0, fZ1, fZ2, fZ3, fZ4⟩ := box_frozen HBZ2.out
  go_wp2_with fail
  refine ret_node (B := w.heap.size) T.op T.name T.n T.pos T.a T.kids.len T.cap Tryd.results105 rfl rfl (by repeat (with_reducible first | exact node_set HBZ2.out _ _ _ _ _ _ _ | refine (Below.heap_alloc _ _ _ (by simp; omega)).trans ?_)) ⟨T, rfl, (by repeat (with_reducible first | exact HK2.out | refine Kp.alloc ?_ _ | refine Kp.set ?_ (Nat.le_refl _) _)), ?_⟩
  cases r with
  | ok t l' =>
    obtain ⟨hr, hg, hs⟩ := HO2.out
    refine ⟨(by repeat (with_reducible first | exact hr | refine RdS.alloc ?_ _ | refine RdS.set ?_ hB _)), ?_, hs⟩
    refine Nd.Good.mono (S := fun b => w1.heap.size ≤ b) ?_ (fun b hb => Nat.le_trans (by first | omega | (simp; done) | (simp; omega)) hb)
    exact hg.from (set5_from _ (by first | omega | (simp; done) | (simp; omega)) _ _ _ _ _)
  | bad a e =>
    have hr : RdS w2 B (d : Int) (.bad a e) := HO2.out
    show RdS _ B (d : Int) (.bad a e)
    exact (by repeat (with_reducible first | exact hr | refine RdS.alloc ?_ _ | refine RdS.set ?_ hB _))
end Go.Proofs.YtmmicnjiikiklaaDoor
