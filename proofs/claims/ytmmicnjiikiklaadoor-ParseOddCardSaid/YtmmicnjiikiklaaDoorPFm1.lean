/- callIsNext, deeper, orderOf. -/
import Derived.Test.YtmmicnjiikiklaaDoorPPart2
import Derived.Test.YtmmicnjiikiklaaDoorLexA
import Derived.Test.YtmmicnjiikiklaaDoorRows
import Derived.WalkKit
import Derived.WalkLawsBesides
import Derived.WalkSpells
import Derived.ProofKit
import Derived.Outline
import Derived.Deep.QuietTactic
import Derived.BigQuiet
import Derived.Deep.Light
import Derived.Deep.CutBlock
import Derived.Deep.DeepCutAuto
import Derived.Deep.DeepFit
import Derived.Deep.LoopGhost
import Derived.Lib.Hide
import Derived.Lib.OthersKept
import Derived.IntWalk
import Derived.StillTailTactics
namespace Go.Proofs.YtmmicnjiikiklaaDoor
open Go.RowKit
/-! callIsNext, deeper, orderOf. -/
theorem two_of {l : List Tok} (hE : EndsOk l) (hk : ((hd l).kind == 1) = true) : ∃ a b r, l = a :: b :: r := by
  cases l with
  | nil => exact absurd (beq_iff_eq.1 hk) (by decide)
  | cons a r =>
    cases r with
    | nil =>
      have h1 := hE a rfl
      have h2 : a.kind = 1 := beq_iff_eq.1 hk
      omega
    | cons b r => exact ⟨a, b, r, rfl⟩
def cin (l : List Tok) : Bool := (hd l).kind == 1 && (wrd l.tail).toList == [40]
theorem RdS.setD {w : World} {B : Nat} {d : Int} {s : St} (h : RdS w B d s) (d' : Int) : RdS (w.setCell ⟨B, 1, none⟩ (.int .i64 d')) B d' s := by
  cases s with
  | good l =>
    obtain ⟨a, cap, h1, h2, h3, h4⟩ := h
    exact ⟨a, cap, h1.set1, h2, h3, h4.same fun g hg => Below.heap_setCell _ _ _ _ (by simp; omega)⟩
  | bad p e => exact ⟨h.1.set1, h.2⟩
set_option maxRecDepth 100000 in
set_option maxHeartbeats 16000000 in
theorem cin_b (w : World) (B : Nat) (d a e : Int) (hS : RdS w B d (.bad a e)) : Calls Tryd.prog 112 #[.pointer (some ⟨B, 0, none⟩)] w fun x w' => x = .returned (.bool false) ∧ Below w.heap.size w w' := by
  have HC := Lib.hid (now_b w B d a e hS)
  have q0 := tok_f0
  clear hS
  go_enter Tryd.func112, Tryd.ntmps112
  go_wp2_with fail
  refine HC.out.mono ?_
  rintro x w1 ⟨rfl, hb⟩
  go_wp2_with fail
  go_ret
  exact ⟨rfl, hb⟩
set_option maxRecDepth 100000 in
set_option maxHeartbeats 16000000 in
theorem cin_g (l : List Tok) (w : World) (B : Nat) (d : Int) (hE : EndsOk l) (hS : RdS w B d (.good l)) : Calls Tryd.prog 112 #[.pointer (some ⟨B, 0, none⟩)] w fun x w' => x = .returned (.bool (cin l)) ∧ Below w.heap.size w w' := by
  have HC := Lib.hid (now_g l w B d hS)
  have q0 := tok_f0
  have hc4 := cellsTok
  cases hk : ((hd l).kind == 1) with
  | false =>
    have HX : RowKit.Hid (cin l = false) := Lib.hid (by unfold cin; rw [hk]; rfl)
    have hk2 : ((hd l).kind != 1) = true := by unfold bne; rw [hk]; rfl
    clear hS hE
    go_enter Tryd.func112, Tryd.ntmps112
    go_wp2_with fail
    refine HC.out.mono ?_
    rintro x w1 ⟨rfl, hb⟩
    go_wp2_with fail
    go_ret
    exact ⟨by rw [HX.out]; rfl, hb⟩
  | true =>
    have hk2 : ((hd l).kind != 1) = false := by unfold bne; rw [hk]; rfl
    obtain ⟨t0, t1, r, hl⟩ := two_of hE hk
    have HX : RowKit.Hid (cin l = (t1.kind == 3 && t1.text.toList == [40])) := Lib.hid (by
      unfold cin
      rw [hk, hl]
      show (true && (if t1.kind == 3 then t1.text else ⟨#[]⟩).toList == [40]) = _
      cases t1.kind == 3 with
      | true => rfl
      | false => rw [if_neg (by decide), Bool.true_and, Bool.false_and]; decide +kernel)
    obtain ⟨a, cap, h1, h2, h3, h4⟩ := hS
    have hne : l ≠ [] := by rw [hl]; simp
    obtain ⟨g, o, rfl, hg, ht⟩ := h4.resolve_left hne
    have hat := ht 1 t1 (by rw [hl]; rfl)
    have hlen : (1 : Int) < (l.length : Int) := by rw [hl]; simp only [List.length_cons]; omega
    have HA := Lib.hid h1
    have HT := Lib.hid hat
    have hB := h1.lt
    clear h1 h4 ht hat hne hl hE
    obtain ⟨tk, tx, tn, tp⟩ := t1
    simp only [] at HX
    go_enter Tryd.func112, Tryd.ntmps112
    go_wp2_with fail
    refine HC.out.mono ?_
    rintro x w1 ⟨rfl, hb⟩
    obtain ⟨⟨k0, k1, k2, k3⟩, f0, f1, f2, f3⟩ := (HA.out.below hb).cells
    obtain ⟨c0, c1, c2, c3⟩ : TokAt w1 g (o + 1 * 4) ⟨tk, tx, tn, tp⟩ := HT.out.same (hb.block g (by omega))
    simp only [Nat.one_mul] at c0 c1 c2 c3
    have hgs : g < w1.heap.size := by have := hb.size; omega
    have HB := Lib.hid hb
    clear hb HC
    cases h3 : (tk == 3) with
    | false =>
      go_wp2_with fail
      go_ret
      exact ⟨by rw [HX.out, h3]; rfl, HB.out.alloc HB.out.size _⟩
    | true =>
      cases h4 : (tx.toList == [40]) with
      | false =>
        go_wp2_with fail
        go_ret
        exact ⟨by rw [HX.out, h3, h4]; rfl, HB.out.alloc HB.out.size _⟩
      | true =>
        go_wp2_with fail
        go_ret
        exact ⟨by rw [HX.out, h3, h4]; rfl, HB.out.alloc HB.out.size _⟩
set_option maxRecDepth 100000 in
set_option maxHeartbeats 16000000 in
theorem deeperF (s : St) (r : Res Nd) (w : World) (B d : Nat) (hdd : d ≤ 29) (hP : PTB B w) (hS : RdS w B (d : Int) s) (hk : ∀ W, PTB B W → RdS W B ((d + 1 : Nat) : Int) s → Calls Tryd.prog 42 #[.pointer (some ⟨B, 0, none⟩)] W (PostN B ((d + 1 : Nat) : Int) W r)) :
    Calls Tryd.prog 107 #[.pointer (some ⟨B, 0, none⟩), .func (.func 42) #[.pointer (some ⟨B, 0, none⟩)] #[]] w (PostN B d w r) := by
  have hc5 := cellsNode
  have hB := hS.lt
  have hs1 : RdS ((w.setCell ⟨B, 1, none⟩ (.int .i64 ((d : Int) + 1))).alloc (boxOf ⟨#[]⟩ ⟨#[]⟩ 0 0 none 0 0)) B ((d + 1 : Nat) : Int) s := by
    have := (hS.setD ((d : Int) + 1)).alloc (boxOf ⟨#[]⟩ ⟨#[]⟩ 0 0 none 0 0)
    rw [show ((d + 1 : Nat) : Int) = (d : Int) + 1 from by omega]
    exact this
  have HK0 := Lib.hid (((Kp.refl B w).setB 1 (.int .i64 ((d : Int) + 1))).alloc (boxOf ⟨#[]⟩ ⟨#[]⟩ 0 0 none 0 0))
  have HC := Lib.hid (hk _ (hP.kp HK0.out) hs1)
  have HBZ0 : RowKit.Hid (((w.setCell ⟨B, 1, none⟩ (.int .i64 ((d : Int) + 1))).alloc (boxOf ⟨#[]⟩ ⟨#[]⟩ 0 0 none 0 0)).heap[w.heap.size]? = some (boxOf ⟨#[]⟩ ⟨#[]⟩ 0 0 none 0 0)) := Lib.hid (by have h := new_at (w.setCell ⟨B, 1, none⟩ (.int .i64 ((d : Int) + 1))) (boxOf ⟨#[]⟩ ⟨#[]⟩ 0 0 none 0 0); rw [show (w.setCell ⟨B, 1, none⟩ (.int .i64 ((d : Int) + 1))).heap.size = w.heap.size from by simp] at h; exact h)
  obtain ⟨k1, f1⟩ : w.cell? ⟨B, 1, none⟩ = some (.int .i64 (d : Int)) ∧ w.frozen? ⟨B, 1, none⟩ = false := by
    obtain ⟨a, cap, p, e, h1, _⟩ := hS.open
    exact ⟨h1.cells.1.2.1, h1.cells.2.2.1⟩
  clear hk hP hS hs1
  have hw2 : ((d + 1 : Nat) : Int) - 1 = (d : Int) := by omega
  have hz0 := HK0.out.size
  go_enter Tryd.func107, Tryd.ntmps107
  go_wp2_with fail
  refine HC.out.mono ?_
  rintro e w1 ⟨T, rfl, hk1, ho1⟩
  have HK1 := Lib.hid (HK0.out.trans hk1)
  have HBZ1 := Lib.hid (hk1.blk HBZ0.out (by omega))
  have hz1 := lt_heap HBZ1.out
  have HO1 := Lib.hid ho1
  obtain ⟨k1', f1'⟩ : w1.cell? ⟨B, 1, none⟩ = some (.int .i64 ((d + 1 : Nat) : Int)) ∧ w1.frozen? ⟨B, 1, none⟩ = false := by
    cases r with
    | ok t l =>
      obtain ⟨a, cap, p, e, h1, _⟩ := ho1.1.open
      exact ⟨h1.cells.1.2.1, h1.cells.2.2.1⟩
    | bad p' e' =>
      obtain ⟨a, cap, p, e, h1, _⟩ := (show RdS w1 B _ (.bad p' e') from ho1).open
      exact ⟨h1.cells.1.2.1, h1.cells.2.2.1⟩
  have hB1 : B < w1.heap.size := by omega
  clear hk1 ho1 HC k1 f1
  obtain ⟨z0, z1, z2, z3, z4⟩ := box_cells HBZ1.out
  obtain ⟨q0, q1, q2, q3, q4⟩ := box_frozen HBZ1.out
  have hne1 : ¬ w.heap.size = B := by omega
  have hne2 : ¬ B = w.heap.size := by omega
  go_wp2_with fail
  refine ret_node (B := w.heap.size) T.op T.name T.n T.pos T.a T.kids.len T.cap Tryd.results107 rfl rfl ((Below.heap_alloc _ _ _ (by simp; omega)).trans (node_set ((Below.heap_setCell _ _ _ _ hne1).trans HBZ1.out) _ _ _ _ _ _ _)) ⟨T, rfl, (by repeat (with_reducible first | exact HK1.out | refine Kp.alloc ?_ _ | refine Kp.set ?_ (Nat.le_refl _) _ | refine Kp.setB ?_ _ _)), ?_⟩
  cases r with
  | ok t l =>
    obtain ⟨hr, hg, hs⟩ := HO1.out
    refine ⟨(by repeat (with_reducible first | exact hr.setD _ | refine RdS.alloc ?_ _ | refine RdS.set ?_ hB _)), ?_, hs⟩
    refine Nd.Good.mono (S := fun b => ((w.setCell ⟨B, 1, none⟩ (.int .i64 ((d : Int) + 1))).alloc (boxOf ⟨#[]⟩ ⟨#[]⟩ 0 0 none 0 0)).heap.size ≤ b) ?_ (fun b hb => Nat.le_trans (by simp) hb)
    exact ((hg.from (From.set _ (by simp; omega) _)).from (set5_from _ (by simp) _ _ _ _ _)).from (From.alloc _ _ _)
  | bad a e =>
    have hr : RdS w1 B ((d + 1 : Nat) : Int) (.bad a e) := HO1.out
    show RdS _ B (d : Int) (.bad a e)
    exact (by repeat (with_reducible first | exact hr.setD _ | refine RdS.alloc ?_ _ | refine RdS.set ?_ hB _))
set_option maxRecDepth 100000 in
set_option maxHeartbeats 16000000 in
theorem deeperU (s : St) (r : Res Nd) (w : World) (B d : Nat) (hdd : d ≤ 29) (hP : PTB B w) (hS : RdS w B (d : Int) s) (hk : ∀ W, PTB B W → RdS W B ((d + 1 : Nat) : Int) s → Calls Tryd.prog 105 #[.pointer (some ⟨B, 0, none⟩)] W (PostN B ((d + 1 : Nat) : Int) W r)) :
    Calls Tryd.prog 107 #[.pointer (some ⟨B, 0, none⟩), .func (.func 105) #[.pointer (some ⟨B, 0, none⟩)] #[]] w (PostN B d w r) := by
  have hc5 := cellsNode
  have hB := hS.lt
  have hs1 : RdS ((w.setCell ⟨B, 1, none⟩ (.int .i64 ((d : Int) + 1))).alloc (boxOf ⟨#[]⟩ ⟨#[]⟩ 0 0 none 0 0)) B ((d + 1 : Nat) : Int) s := by
    have := (hS.setD ((d : Int) + 1)).alloc (boxOf ⟨#[]⟩ ⟨#[]⟩ 0 0 none 0 0)
    rw [show ((d + 1 : Nat) : Int) = (d : Int) + 1 from by omega]
    exact this
  have HK0 := Lib.hid (((Kp.refl B w).setB 1 (.int .i64 ((d : Int) + 1))).alloc (boxOf ⟨#[]⟩ ⟨#[]⟩ 0 0 none 0 0))
  have HC := Lib.hid (hk _ (hP.kp HK0.out) hs1)
  have HBZ0 : RowKit.Hid (((w.setCell ⟨B, 1, none⟩ (.int .i64 ((d : Int) + 1))).alloc (boxOf ⟨#[]⟩ ⟨#[]⟩ 0 0 none 0 0)).heap[w.heap.size]? = some (boxOf ⟨#[]⟩ ⟨#[]⟩ 0 0 none 0 0)) := Lib.hid (by have h := new_at (w.setCell ⟨B, 1, none⟩ (.int .i64 ((d : Int) + 1))) (boxOf ⟨#[]⟩ ⟨#[]⟩ 0 0 none 0 0); rw [show (w.setCell ⟨B, 1, none⟩ (.int .i64 ((d : Int) + 1))).heap.size = w.heap.size from by simp] at h; exact h)
  obtain ⟨k1, f1⟩ : w.cell? ⟨B, 1, none⟩ = some (.int .i64 (d : Int)) ∧ w.frozen? ⟨B, 1, none⟩ = false := by
    obtain ⟨a, cap, p, e, h1, _⟩ := hS.open
    exact ⟨h1.cells.1.2.1, h1.cells.2.2.1⟩
  clear hk hP hS hs1
  have hw2 : ((d + 1 : Nat) : Int) - 1 = (d : Int) := by omega
  have hz0 := HK0.out.size
  go_enter Tryd.func107, Tryd.ntmps107
  go_wp2_with fail
  refine HC.out.mono ?_
  rintro e w1 ⟨T, rfl, hk1, ho1⟩
  have HK1 := Lib.hid (HK0.out.trans hk1)
  have HBZ1 := Lib.hid (hk1.blk HBZ0.out (by omega))
  have hz1 := lt_heap HBZ1.out
  have HO1 := Lib.hid ho1
  obtain ⟨k1', f1'⟩ : w1.cell? ⟨B, 1, none⟩ = some (.int .i64 ((d + 1 : Nat) : Int)) ∧ w1.frozen? ⟨B, 1, none⟩ = false := by
    cases r with
    | ok t l =>
      obtain ⟨a, cap, p, e, h1, _⟩ := ho1.1.open
      exact ⟨h1.cells.1.2.1, h1.cells.2.2.1⟩
    | bad p' e' =>
      obtain ⟨a, cap, p, e, h1, _⟩ := (show RdS w1 B _ (.bad p' e') from ho1).open
      exact ⟨h1.cells.1.2.1, h1.cells.2.2.1⟩
  have hB1 : B < w1.heap.size := by omega
  clear hk1 ho1 HC k1 f1
  obtain ⟨z0, z1, z2, z3, z4⟩ := box_cells HBZ1.out
  obtain ⟨q0, q1, q2, q3, q4⟩ := box_frozen HBZ1.out
  have hne1 : ¬ w.heap.size = B := by omega
  have hne2 : ¬ B = w.heap.size := by omega
  go_wp2_with fail
  refine ret_node (B := w.heap.size) T.op T.name T.n T.pos T.a T.kids.len T.cap Tryd.results107 rfl rfl ((Below.heap_alloc _ _ _ (by simp; omega)).trans (node_set ((Below.heap_setCell _ _ _ _ hne1).trans HBZ1.out) _ _ _ _ _ _ _)) ⟨T, rfl, (by repeat (with_reducible first | exact HK1.out | refine Kp.alloc ?_ _ | refine Kp.set ?_ (Nat.le_refl _) _ | refine Kp.setB ?_ _ _)), ?_⟩
  cases r with
  | ok t l =>
    obtain ⟨hr, hg, hs⟩ := HO1.out
    refine ⟨(by repeat (with_reducible first | exact hr.setD _ | refine RdS.alloc ?_ _ | refine RdS.set ?_ hB _)), ?_, hs⟩
    refine Nd.Good.mono (S := fun b => ((w.setCell ⟨B, 1, none⟩ (.int .i64 ((d : Int) + 1))).alloc (boxOf ⟨#[]⟩ ⟨#[]⟩ 0 0 none 0 0)).heap.size ≤ b) ?_ (fun b hb => Nat.le_trans (by simp) hb)
    exact ((hg.from (From.set _ (by simp; omega) _)).from (set5_from _ (by simp) _ _ _ _ _)).from (From.alloc _ _ _)
  | bad a e =>
    have hr : RdS w1 B ((d + 1 : Nat) : Int) (.bad a e) := HO1.out
    show RdS _ B (d : Int) (.bad a e)
    exact (by repeat (with_reducible first | exact hr.setD _ | refine RdS.alloc ?_ _ | refine RdS.set ?_ hB _))
set_option maxRecDepth 100000 in
set_option maxHeartbeats 16000000 in
theorem order_ex0 (w : World) : Calls Tryd.prog 89 #[.string ⟨#[101, 120, 48]⟩] w fun e w' => e = .returned (.int .i64 0) ∧ w = w' := by
  go_enter Tryd.func89, Tryd.ntmps89
  go_wp2
  go_ret
  exact ⟨rfl, rfl⟩
set_option maxRecDepth 100000 in
set_option maxHeartbeats 16000000 in
theorem order_ex1 (w : World) : Calls Tryd.prog 89 #[.string ⟨#[101, 120, 49]⟩] w fun e w' => e = .returned (.int .i64 1) ∧ w = w' := by
  go_enter Tryd.func89, Tryd.ntmps89
  go_wp2
  go_ret
  exact ⟨rfl, rfl⟩
set_option maxRecDepth 100000 in
set_option maxHeartbeats 16000000 in
theorem order_ex2 (w : World) : Calls Tryd.prog 89 #[.string ⟨#[101, 120, 50]⟩] w fun e w' => e = .returned (.int .i64 2) ∧ w = w' := by
  go_enter Tryd.func89, Tryd.ntmps89
  go_wp2
  go_ret
  exact ⟨rfl, rfl⟩
set_option maxRecDepth 100000 in
set_option maxHeartbeats 16000000 in
theorem order_all0 (w : World) : Calls Tryd.prog 89 #[.string ⟨#[97, 108, 108, 48]⟩] w fun e w' => e = .returned (.int .i64 0) ∧ w = w' := by
  go_enter Tryd.func89, Tryd.ntmps89
  go_wp2
  go_ret
  exact ⟨rfl, rfl⟩
set_option maxRecDepth 100000 in
set_option maxHeartbeats 16000000 in
theorem order_all1 (w : World) : Calls Tryd.prog 89 #[.string ⟨#[97, 108, 108, 49]⟩] w fun e w' => e = .returned (.int .i64 1) ∧ w = w' := by
  go_enter Tryd.func89, Tryd.ntmps89
  go_wp2
  go_ret
  exact ⟨rfl, rfl⟩
set_option maxRecDepth 100000 in
set_option maxHeartbeats 16000000 in
theorem order_all2 (w : World) : Calls Tryd.prog 89 #[.string ⟨#[97, 108, 108, 50]⟩] w fun e w' => e = .returned (.int .i64 2) ∧ w = w' := by
  go_enter Tryd.func89, Tryd.ntmps89
  go_wp2
  go_ret
  exact ⟨rfl, rfl⟩
set_option maxRecDepth 100000 in
set_option maxHeartbeats 16000000 in
theorem order_var0 (w : World) : Calls Tryd.prog 89 #[.string ⟨#[118, 97, 114, 48]⟩] w fun e w' => e = .returned (.int .i64 0) ∧ w = w' := by
  go_enter Tryd.func89, Tryd.ntmps89
  go_wp2
  go_ret
  exact ⟨rfl, rfl⟩
set_option maxRecDepth 100000 in
set_option maxHeartbeats 16000000 in
theorem order_var1 (w : World) : Calls Tryd.prog 89 #[.string ⟨#[118, 97, 114, 49]⟩] w fun e w' => e = .returned (.int .i64 1) ∧ w = w' := by
  go_enter Tryd.func89, Tryd.ntmps89
  go_wp2
  go_ret
  exact ⟨rfl, rfl⟩
set_option maxRecDepth 100000 in
set_option maxHeartbeats 16000000 in
theorem order_var2 (w : World) : Calls Tryd.prog 89 #[.string ⟨#[118, 97, 114, 50]⟩] w fun e w' => e = .returned (.int .i64 2) ∧ w = w' := by
  go_enter Tryd.func89, Tryd.ntmps89
  go_wp2
  go_ret
  exact ⟨rfl, rfl⟩
end Go.Proofs.YtmmicnjiikiklaaDoor
