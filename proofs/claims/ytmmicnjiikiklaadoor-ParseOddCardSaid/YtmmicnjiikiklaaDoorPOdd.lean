/- program, when what stands ahead of the formula is wrong. -/
import Derived.Test.YtmmicnjiikiklaaDoorPPred
import Derived.Test.YtmmicnjiikiklaaDoorPParse
import Derived.Test.YtmmicnjiikiklaaDoorPList
import Derived.Test.YtmmicnjiikiklaaDoorLexA
import Derived.Test.YtmmicnjiikiklaaDoorRows
import Derived.WalkKit
import Derived.WalkLawsBesides
import Derived.WalkSpells
import Derived.ProofKit
import Derived.Outline
import Derived.Deep.QuietTactic
import Derived.BigQuiet
import Derived.Deep.Light
import Derived.Deep.CutBlock
import Derived.Deep.DeepCutAuto
import Derived.Deep.DeepFit
import Derived.Deep.LoopGhost
import Derived.Lib.Hide
import Derived.Lib.OthersKept
import Derived.IntWalk
import Derived.StillTailTactics
import Derived.Maps.AppendAt
namespace Go.Proofs.YtmmicnjiikiklaaDoor
open Go.RowKit
/-! program, when what stands ahead of the formula is wrong. -/
section
variable {P : Program} {ops : Array Oper} {C : World → Prop} {K : Act → Prop} {r : List Oper} {a : Act}
theorem headsC_val (o : Oper) (v : Value) (hg : o.guard = none) (hv : ∀ w, C w → (execOp a.eval o).run P w = .ok (.value v) w) (h : headsC P ops C K r (a.put o.dst v)) : headsC P ops C K (o :: r) a :=
  ⟨v, .inl ⟨by simp [Region.wanted, hg], hv⟩, h⟩
end
theorem Tryd.infoDecl3 : (Tryd.prog.info? 55).map (fun i => (i.zero, i.size, i.bytes)) = some (some (.agg #[.string ⟨#[]⟩, .int .i64 0, .int .i64 0]), 3, 32) := by kernel_rfl
theorem Tryd.infoPred8 : (Tryd.prog.info? 31).map (fun i => (i.zero, i.size, i.bytes)) = some (some (.agg #[.string ⟨#[]⟩, .slice none 0 0, .string ⟨#[]⟩, .string ⟨#[]⟩, .int .i64 0, .int .i64 0, .slice none 0 0, .int .i64 0]), 8, 120) := by kernel_rfl
theorem row_cells {w : World} {b : Nat} {cs : List Value} {t : TypeId} {fr : Nat × Nat} (h : w.heap[b]? = some (.cells cs.toArray t fr)) : ∀ j u, cs[j]? = some u → w.cell? ((⟨b, 0, none⟩ : Addr).add j) = some u := by
  intro j u hj
  rw [show (⟨b, 0, none⟩ : Addr).add j = ⟨b, 0 + j, none⟩ from by unfold Addr.add; split <;> simp_all, cell_of_row _ _ _ _ _ _ h, Nat.zero_add]
  simpa using hj
def PostO (B : Nat) (d : Int) (w : World) (a e : Int) (x : Ending) (w' : World) : Prop := ∃ (da : Option Addr) (dl dc : Nat) (pa : Option Addr) (pl pc : Nat) (T : Nd), x = .returned (.agg (pgCells da dl dc pa pl pc T.op T.name T.n T.pos T.a T.kids.len T.cap)) ∧ Kp B w w' ∧ RdS w' B d (.bad a e)

set_option maxRecDepth 100000 in
set_option maxHeartbeats 16000000 in
theorem prog_dcl (a e : Int) (l : List Tok) (w : World) (B d : Nat) (hd30 : d ≤ 30) (hP : PTB B w) (hS : RdS w B (d : Int) (.good l)) (hx : ((wrd l).toList == [118, 97, 114, 49]) = true) (hds : ∀ W, PTB B W → RdS W B (d : Int) (.good l) → Calls Tryd.prog 40 #[.pointer (some ⟨B, 0, none⟩)] W fun x w' => (∃ b n p t, x = .returned (.slice (some ⟨b, 0, none⟩) 1 1) ∧ b < w'.heap.size ∧ W.heap.size ≤ b ∧ w'.heap[b]? = some (dclBox t n p)) ∧ Kp B W w' ∧ RdS w' B (d : Int) (.bad a e)) : Calls Tryd.prog 26 #[.pointer (some ⟨B, 0, none⟩)] w (PostO B d w a e) := by
  have hB := hS.lt
  have HS := Lib.hid hS
  have HP := Lib.hid hP
  have HDS := Lib.hid hds
  have hxe := bytes_of hx
  have HXE := Lib.hid hxe
  clear hS hP hds hx hxe
  have HW0 : RowKit.Hid (RdS ((w.alloc (pgBox none 0 0 none 0 0 ⟨#[]⟩ ⟨#[]⟩ 0 0 none 0 0)).alloc (pgBox none 0 0 none 0 0 ⟨#[]⟩ ⟨#[]⟩ 0 0 none 0 0)) B (d : Int) (.good l)) := Lib.hid ((HS.out.alloc _).alloc _)
  have HKA : RowKit.Hid (Kp B w ((w.alloc (pgBox none 0 0 none 0 0 ⟨#[]⟩ ⟨#[]⟩ 0 0 none 0 0)).alloc (pgBox none 0 0 none 0 0 ⟨#[]⟩ ⟨#[]⟩ 0 0 none 0 0))) := Lib.hid (((Kp.refl B w).alloc _).alloc _)
  have HZA : RowKit.Hid ((((w.alloc (pgBox none 0 0 none 0 0 ⟨#[]⟩ ⟨#[]⟩ 0 0 none 0 0)).alloc (pgBox none 0 0 none 0 0 ⟨#[]⟩ ⟨#[]⟩ 0 0 none 0 0))).heap[w.heap.size]? = some (pgBox none 0 0 none 0 0 ⟨#[]⟩ ⟨#[]⟩ 0 0 none 0 0)) := Lib.hid ((Below.heap_alloc _ _ _ (lt_heap (new_at w (pgBox none 0 0 none 0 0 ⟨#[]⟩ ⟨#[]⟩ 0 0 none 0 0)))).trans (new_at w (pgBox none 0 0 none 0 0 ⟨#[]⟩ ⟨#[]⟩ 0 0 none 0 0)))
  have HPA : RowKit.Hid ((((w.alloc (pgBox none 0 0 none 0 0 ⟨#[]⟩ ⟨#[]⟩ 0 0 none 0 0)).alloc (pgBox none 0 0 none 0 0 ⟨#[]⟩ ⟨#[]⟩ 0 0 none 0 0))).heap[w.heap.size + 1]? = some (pgBox none 0 0 none 0 0 ⟨#[]⟩ ⟨#[]⟩ 0 0 none 0 0)) := Lib.hid (by have h := new_at (w.alloc (pgBox none 0 0 none 0 0 ⟨#[]⟩ ⟨#[]⟩ 0 0 none 0 0)) (pgBox none 0 0 none 0 0 ⟨#[]⟩ ⟨#[]⟩ 0 0 none 0 0); rw [alloc_size] at h; exact h)
  go_enter Tryd.func26, Tryd.ntmps26
  go_wp2_with fail
  go_loopg [] 2 (fun gf wx => RowKit.Hid (Kp B w wx) ∧ RowKit.Hid (wx.heap[w.heap.size]? = some (pgBox none 0 0 none 0 0 ⟨#[]⟩ ⟨#[]⟩ 0 0 none 0 0)) ∧ ((gf = 2 ∧ RowKit.Hid (RdS wx B (d : Int) (.good l)) ∧ RowKit.Hid (wx.heap[w.heap.size + 1]? = some (pgBox none 0 0 none 0 0 ⟨#[]⟩ ⟨#[]⟩ 0 0 none 0 0))) ∨ (gf = 1 ∧ RowKit.Hid (RdS wx B (d : Int) (.bad a e)) ∧ ∃ da dl dc pa pl pc, RowKit.Hid (wx.heap[w.heap.size + 1]? = some (pgBox da dl dc pa pl pc ⟨#[]⟩ ⟨#[]⟩ 0 0 none 0 0)))))
  case atStart => exact ⟨HKA, HZA, .inl ⟨rfl, HW0, HPA⟩⟩
  case round =>
    clear HW0 HKA HZA HPA
    obtain ⟨HK0, HBZ0, ⟨rfl, HR0, HBP0⟩ | ⟨rfl, HR0, da, dl, dc, pa, pl, pc, HBP0⟩⟩ := hrel
    · have hzZ0 := lt_heap HBZ0.out
      have hzP0 := lt_heap HBP0.out
      have HC1 := Lib.hid (word_l l _ HXE.out wr B d HR0.out)
      go_wp2_with fail
      refine HC1.out.mono ?_
      rintro e1 w1 ⟨rfl, hb1⟩
      have HK1 := Lib.hid (HK0.out.below hb1)
      have HR1 := Lib.hid (HR0.out.below hb1)
      have HBZ1 := Lib.hid ((hb1.block _ (lt_heap HBZ0.out)).trans HBZ0.out)
      have HBP1 := Lib.hid ((hb1.block _ (lt_heap HBP0.out)).trans HBP0.out)
      clear hb1 HBZ0 HBP0 hzZ0 hzP0 HK0 HR0 HC1
      have HC2 := Lib.hid (HDS.out w1.drew ((HP.out.kp HK1.out).drew) (HR1.out.drew))
      go_wp2_with fail
      have hfr0 := Lib.hid ((pg_frozen HBP1.out).1)
      refine wp_region_last 3 (fun W => W.heap[w.heap.size + 1]? = some (pgBox none 0 0 none 0 0 ⟨#[]⟩ ⟨#[]⟩ 0 0 none 0 0)) (by kernel_rfl) (by kernel_rfl) HBP1.out ?_
      refine headsC_val _ (.pointer (some ⟨w.heap.size + 1, 0, none⟩)) rfl (fun W hW => by unfold execOp; simp [go_sem, Act.eval]) ?_
      refine headsC_val _ (.slice none 0 0) rfl (fun W hW => by have h := pg_cells hW; unfold execOp; simp [go_sem, Act.eval, h]) ?_
      refine headsC_move _ _ rfl rfl ?_
      refine headsC_nil ?_
      show wpList _ _ (thenC _ _ _ _) _ _ _
      go_wp2_with fail
      refine HC2.out.mono ?_
      rintro e2 w2 ⟨⟨b, nn, pp, tt, rfl, hbs, hb0, hbb⟩, hk2, hr2⟩
      have hk2' := kp_drew hk2
      have HBZ2 := Lib.hid (hk2'.blk HBZ1.out (by omega))
      have HBP2 := Lib.hid (hk2'.blk HBP1.out (by omega))
      have HK2 := Lib.hid (HK1.out.trans hk2')
      have HR2 := Lib.hid hr2
      have HBB := Lib.hid hbb
      have hzZ2 := lt_heap HBZ2.out
      have hzP2 := lt_heap HBP2.out
      have hB2 : B < w2.heap.size := HR2.out.lt
      clear hk2 hk2' hr2 hbb HC2 HK1 HR1 HBZ1 HBP1 hfr0 hbs hb0
      go_wp2_with fail
      refine ⟨fun _ => HBP2.out, ?_⟩
      show wpList _ _ (thenC _ _ _ _) _ _ _
      obtain ⟨i0, hi, hz0, hz1, hz2⟩ := info_parts Tryd.infoDecl3
      go_wp2_with (at_builtin; refine wpList_append_own_at _ rfl _ _ 22 rfl w2.heap.size 55 i0 (.agg #[.string ⟨#[]⟩, .int .i64 0, .int .i64 0]) 3 32 Tryd.underlying22 hi hz0 hz1 hz2 rfl (by decide) (.slice none 0 0) 0 [] rfl (World.ownsRow_nil _ _ _ _) ⟨b, 0, none⟩ 1 1 [.string tt, .int .i64 nn, .int .i64 pp] rfl rfl (row_cells HBB.out) (fun x hx => by simp at hx; rcases hx with rfl | rfl | rfl <;> rfl) (by unfold maxLen; omega) (by omega) (by simp) ?_; intro v' w9 hown9 hgrow9 _ _)
      obtain ⟨a', cap', rfl⟩ := own_form hown9
      have HBP9 := Lib.hid ((hgrow9.block _ (hzP2) (fun h => by cases h)).trans HBP2.out)
      have HBZ9 := Lib.hid ((hgrow9.block _ (hzZ2) (fun h => by cases h)).trans HBZ2.out)
      have HK9 := Lib.hid (kp_append (HK2.out) hgrow9 (fun k hk => by cases hk))
      have HR9 := Lib.hid (rds_append (HR2.out) hgrow9 (fun k hk => by cases hk))
      have hzP9 := lt_heap HBP9.out
      clear hown9 hgrow9
      refine ⟨fun _ => HBP9.out, ?_⟩
      show wpList _ _ (thenC _ _ _ _) _ _ _
      go_wp2_with fail
      refine ⟨fun _ => HBP9.out, ?_⟩
      show wpList _ _ (thenC _ _ _ _) _ _ _
      obtain ⟨p0, p1, p2, p3, p4, p5, p6⟩ := pg_cells HBP9.out
      obtain ⟨g0, g1, g2, g3, g4, g5, g6⟩ := pg_frozen HBP9.out
      go_wp2_with fail
      refine ⟨fun h => (by cases h), NoPanic.normal ?_⟩
      clear p0 p1 p2 p3 p4 p5 p6 g0 g1 g2 g3 g4 g5 g6
      go_wp2_with fail
      go_roundg 1
      case rel =>
        refine ⟨Lib.hid (by repeat (with_reducible first | exact HK9.out | refine Kp.set ?_ (show w.heap.size ≤ w.heap.size + 1 by omega) _)), Lib.hid ((Below.heap_setCell _ _ _ _ (by simp)).trans HBZ9.out), .inr ⟨rfl, Lib.hid (by repeat (with_reducible first | exact HR9.out | refine RdS.set ?_ (show B < w.heap.size + 1 by omega) _)), a', 1, cap', none, 0, 0, Lib.hid (heap_setCell_same _ _ 0 _ _ _ HBP9.out)⟩⟩
      case measure => omega
    · have hzZ0 := lt_heap HBZ0.out
      have hzP0 := lt_heap HBP0.out
      have HC1 := Lib.hid (word_b wr B d a e HR0.out)
      go_wp2_with fail
      refine HC1.out.mono ?_
      rintro e1 w1 ⟨rfl, hb1⟩
      have HK1 := Lib.hid (HK0.out.below hb1)
      have HR1 := Lib.hid (HR0.out.below hb1)
      have HBZ1 := Lib.hid ((hb1.block _ (lt_heap HBZ0.out)).trans HBZ0.out)
      have hzZ1 := lt_heap HBZ1.out
      have HBP1 := Lib.hid ((hb1.block _ (lt_heap HBP0.out)).trans HBP0.out)
      have hzP1 := lt_heap HBP1.out
      clear hb1
      have HC2 := Lib.hid (form_b w1 B d a e hd30 (HP.out.kp HK1.out) HR1.out)
      go_wp2_with fail
      refine HC2.out.mono ?_
      rintro e2 w2 ⟨T, rfl, hk2, ho2⟩
      have HR2 := Lib.hid (show RdS w2 B (d : Int) (.bad a e) from ho2)
      have HK2 := Lib.hid (HK1.out.trans hk2)
      have HBZ2 := Lib.hid (hk2.blk HBZ1.out (by omega))
      have hzZ2 := lt_heap HBZ2.out
      have HBP2 := Lib.hid (hk2.blk HBP1.out (by omega))
      have hzP2 := lt_heap HBP2.out
      clear hk2 ho2
      obtain ⟨pP0, pP1, pP2, pP3, pP4, pP5, pP6⟩ := pg_cells HBP2.out
      obtain ⟨gP0, gP1, gP2, gP3, gP4, gP5, gP6⟩ := pg_frozen HBP2.out
      obtain ⟨w3, hW⟩ : ∃ x, x = (((((w2.setCell ⟨w.heap.size + 1, 2, none⟩ (.string T.op)).setCell ⟨w.heap.size + 1, 3, none⟩ (.string T.name)).setCell ⟨w.heap.size + 1, 4, none⟩ (.int .i64 T.n)).setCell ⟨w.heap.size + 1, 5, none⟩ (.int .i64 T.pos)).setCell ⟨w.heap.size + 1, 6, none⟩ (.slice T.a T.kids.len T.cap)) := ⟨_, rfl⟩
      have HR3 : RowKit.Hid (RdS w3 B (d : Int) (.bad a e)) := Lib.hid (by rw [hW]; exact (by repeat (with_reducible first | exact HR2.out | refine RdS.set ?_ (show B < w.heap.size + 1 by omega) _)))
      have HK3 : RowKit.Hid (Kp B w w3) := Lib.hid (by rw [hW]; exact (by repeat (with_reducible first | exact HK2.out | refine Kp.set ?_ (show w.heap.size ≤ w.heap.size + 1 by omega) _)))
      have HBP3 : RowKit.Hid (w3.heap[w.heap.size + 1]? = some (pgBox da dl dc pa pl pc T.op T.name T.n T.pos T.a T.kids.len T.cap)) := Lib.hid (by rw [hW]; exact pg_main HBP2.out _ _ _ _ _ _ _)
      have HBZ3 : RowKit.Hid (w3.heap[w.heap.size]? = some (pgBox none 0 0 none 0 0 ⟨#[]⟩ ⟨#[]⟩ 0 0 none 0 0)) := Lib.hid (by rw [hW, Below.heap_setCell _ _ _ _ (by simp), Below.heap_setCell _ _ _ _ (by simp), Below.heap_setCell _ _ _ _ (by simp), Below.heap_setCell _ _ _ _ (by simp), Below.heap_setCell _ _ _ _ (by simp)]; exact HBZ2.out)
      have hzZ3 := lt_heap HBZ3.out
      have hzP3 := lt_heap HBP3.out
      have HC4 := Lib.hid (must_b ⟨#[59]⟩ w3 B d a e (by decide +kernel) HR3.out)
      go_wp2_with fail
      rw [← hW]
      clear hW
      clear pP0 pP1 pP2 pP3 pP4 pP5 pP6 gP0 gP1 gP2 gP3 gP4 gP5 gP6
      refine HC4.out.mono ?_
      rintro e4 w4 ⟨rfl, hk4, hr4⟩
      have HK4 := Lib.hid (HK3.out.trans hk4)
      have HR4 := Lib.hid hr4
      have HBZ4 := Lib.hid (hk4.blk HBZ3.out (by omega))
      have hzZ4 := lt_heap HBZ4.out
      have HBP4 := Lib.hid (hk4.blk HBP3.out (by omega))
      have hzP4 := lt_heap HBP4.out
      clear hk4
      have HC5 := Lib.hid (kind_b 4 w4 B d a e (by decide) HR4.out)
      go_wp2_with fail
      refine HC5.out.mono ?_
      rintro e5 w5 ⟨rfl, hk5, hr5⟩
      have HK5 := Lib.hid (HK4.out.trans hk5)
      have HR5 := Lib.hid hr5
      have HBZ5 := Lib.hid (hk5.blk HBZ4.out (by omega))
      have hzZ5 := lt_heap HBZ5.out
      have HBP5 := Lib.hid (hk5.blk HBP4.out (by omega))
      have hzP5 := lt_heap HBP5.out
      clear hk5
      obtain ⟨pZ0, pZ1, pZ2, pZ3, pZ4, pZ5, pZ6⟩ := pg_cells HBZ5.out
      obtain ⟨gZ0, gZ1, gZ2, gZ3, gZ4, gZ5, gZ6⟩ := pg_frozen HBZ5.out
      obtain ⟨pP0, pP1, pP2, pP3, pP4, pP5, pP6⟩ := pg_cells HBP5.out
      obtain ⟨gP0, gP1, gP2, gP3, gP4, gP5, gP6⟩ := pg_frozen HBP5.out
      go_wp2_with fail
      refine bodyPost_ret (results_cell_row Tryd.results26 _ _ w.heap.size _ (pgCells da dl dc pa pl pc T.op T.name T.n T.pos T.a T.kids.len T.cap) _ _ rfl (pg_set HBZ5.out da dl dc pa pl pc T.op T.name T.n T.pos T.a T.kids.len T.cap) Tryd.underlying28 rfl infoProg) rfl ⟨da, dl, dc, pa, pl, pc, T, rfl, (by repeat (with_reducible first | exact HK5.out | refine Kp.set ?_ (Nat.le_refl _) _)), ?_⟩
      have hr := HR5.out
      exact (by repeat (with_reducible first | exact hr | refine RdS.alloc ?_ _ | refine RdS.set ?_ hB _))

set_option maxRecDepth 100000 in
set_option maxHeartbeats 16000000 in
theorem prog_prd (a e : Int) (l : List Tok) (w : World) (B d : Nat) (hd30 : d ≤ 30) (hP : PTB B w) (hS : RdS w B (d : Int) (.good l)) (hx : ((wrd l).toList == [112, 114, 101, 100]) = true) (hds : ∀ W, PTB B W → RdS W B (d : Int) (.good l) → Calls Tryd.prog 41 #[.pointer (some ⟨B, 0, none⟩)] W fun x w' => (∃ t g op name n pos b k cap p, x = .returned (.agg #[.string t, .slice (some ⟨g, 0, none⟩) 1 1, .string op, .string name, .int .i64 n, .int .i64 pos, .slice b k cap, .int .i64 p])) ∧ Kp B W w' ∧ RdS w' B (d : Int) (.bad a e)) : Calls Tryd.prog 26 #[.pointer (some ⟨B, 0, none⟩)] w (PostO B d w a e) := by
  have hB := hS.lt
  have HS := Lib.hid hS
  have HP := Lib.hid hP
  have HDS := Lib.hid hds
  have hxe := bytes_of hx
  have HXE := Lib.hid hxe
  clear hS hP hds hx hxe
  have HW0 : RowKit.Hid (RdS ((w.alloc (pgBox none 0 0 none 0 0 ⟨#[]⟩ ⟨#[]⟩ 0 0 none 0 0)).alloc (pgBox none 0 0 none 0 0 ⟨#[]⟩ ⟨#[]⟩ 0 0 none 0 0)) B (d : Int) (.good l)) := Lib.hid ((HS.out.alloc _).alloc _)
  have HKA : RowKit.Hid (Kp B w ((w.alloc (pgBox none 0 0 none 0 0 ⟨#[]⟩ ⟨#[]⟩ 0 0 none 0 0)).alloc (pgBox none 0 0 none 0 0 ⟨#[]⟩ ⟨#[]⟩ 0 0 none 0 0))) := Lib.hid (((Kp.refl B w).alloc _).alloc _)
  have HZA : RowKit.Hid ((((w.alloc (pgBox none 0 0 none 0 0 ⟨#[]⟩ ⟨#[]⟩ 0 0 none 0 0)).alloc (pgBox none 0 0 none 0 0 ⟨#[]⟩ ⟨#[]⟩ 0 0 none 0 0))).heap[w.heap.size]? = some (pgBox none 0 0 none 0 0 ⟨#[]⟩ ⟨#[]⟩ 0 0 none 0 0)) := Lib.hid ((Below.heap_alloc _ _ _ (lt_heap (new_at w (pgBox none 0 0 none 0 0 ⟨#[]⟩ ⟨#[]⟩ 0 0 none 0 0)))).trans (new_at w (pgBox none 0 0 none 0 0 ⟨#[]⟩ ⟨#[]⟩ 0 0 none 0 0)))
  have HPA : RowKit.Hid ((((w.alloc (pgBox none 0 0 none 0 0 ⟨#[]⟩ ⟨#[]⟩ 0 0 none 0 0)).alloc (pgBox none 0 0 none 0 0 ⟨#[]⟩ ⟨#[]⟩ 0 0 none 0 0))).heap[w.heap.size + 1]? = some (pgBox none 0 0 none 0 0 ⟨#[]⟩ ⟨#[]⟩ 0 0 none 0 0)) := Lib.hid (by have h := new_at (w.alloc (pgBox none 0 0 none 0 0 ⟨#[]⟩ ⟨#[]⟩ 0 0 none 0 0)) (pgBox none 0 0 none 0 0 ⟨#[]⟩ ⟨#[]⟩ 0 0 none 0 0); rw [alloc_size] at h; exact h)
  go_enter Tryd.func26, Tryd.ntmps26
  go_wp2_with fail
  go_loopg [] 2 (fun gf wx => RowKit.Hid (Kp B w wx) ∧ RowKit.Hid (wx.heap[w.heap.size]? = some (pgBox none 0 0 none 0 0 ⟨#[]⟩ ⟨#[]⟩ 0 0 none 0 0)) ∧ ((gf = 2 ∧ RowKit.Hid (RdS wx B (d : Int) (.good l)) ∧ RowKit.Hid (wx.heap[w.heap.size + 1]? = some (pgBox none 0 0 none 0 0 ⟨#[]⟩ ⟨#[]⟩ 0 0 none 0 0))) ∨ (gf = 1 ∧ RowKit.Hid (RdS wx B (d : Int) (.bad a e)) ∧ ∃ da dl dc pa pl pc, RowKit.Hid (wx.heap[w.heap.size + 1]? = some (pgBox da dl dc pa pl pc ⟨#[]⟩ ⟨#[]⟩ 0 0 none 0 0)))))
  case atStart => exact ⟨HKA, HZA, .inl ⟨rfl, HW0, HPA⟩⟩
  case round =>
    clear HW0 HKA HZA HPA
    obtain ⟨HK0, HBZ0, ⟨rfl, HR0, HBP0⟩ | ⟨rfl, HR0, da, dl, dc, pa, pl, pc, HBP0⟩⟩ := hrel
    · have hzZ0 := lt_heap HBZ0.out
      have hzP0 := lt_heap HBP0.out
      have HC1 := Lib.hid (word_l l _ HXE.out wr B d HR0.out)
      go_wp2_with fail
      refine HC1.out.mono ?_
      rintro e1 w1 ⟨rfl, hb1⟩
      have HK1 := Lib.hid (HK0.out.below hb1)
      have HR1 := Lib.hid (HR0.out.below hb1)
      have HBZ1 := Lib.hid ((hb1.block _ (lt_heap HBZ0.out)).trans HBZ0.out)
      have HBP1 := Lib.hid ((hb1.block _ (lt_heap HBP0.out)).trans HBP0.out)
      clear hb1 HBZ0 HBP0 hzZ0 hzP0 HK0 HR0 HC1
      have HC2 := Lib.hid (HDS.out w1.drew ((HP.out.kp HK1.out).drew) (HR1.out.drew))
      go_wp2_with fail
      have hfr0 := Lib.hid ((pg_frozen HBP1.out).1)
      refine wp_region_last 3 (fun W => W.heap[w.heap.size + 1]? = some (pgBox none 0 0 none 0 0 ⟨#[]⟩ ⟨#[]⟩ 0 0 none 0 0)) (by kernel_rfl) (by kernel_rfl) HBP1.out ?_
      refine headsC_val _ (.pointer (some ⟨w.heap.size + 1, 1, none⟩)) rfl (fun W hW => by unfold execOp; simp [go_sem, Act.eval]) ?_
      refine headsC_val _ (.slice none 0 0) rfl (fun W hW => by have h := pg_cells hW; unfold execOp; simp [go_sem, Act.eval, h]) ?_
      refine headsC_move _ _ rfl rfl ?_
      refine headsC_nil ?_
      show wpList _ _ (thenC _ _ _ _) _ _ _
      go_wp2_with fail
      refine HC2.out.mono ?_
      rintro e2 w2 ⟨⟨t, g, op, name, n, pos, gb, k, cap, p, rfl⟩, hk2, hr2⟩
      have hk2' := kp_drew hk2
      have HBZ2 := Lib.hid (hk2'.blk HBZ1.out (by omega))
      have HBP2 := Lib.hid (hk2'.blk HBP1.out (by omega))
      have HK2 := Lib.hid (HK1.out.trans hk2')
      have HR2 := Lib.hid hr2
      have hzZ2 := lt_heap HBZ2.out
      have hzP2 := lt_heap HBP2.out
      have hB2 : B < w2.heap.size := HR2.out.lt
      clear hk2 hk2' hr2 HC2 HK1 HR1 HBZ1 HBP1 hfr0
      go_wp2_with fail
      refine ⟨fun _ => HBP2.out, ?_⟩
      show wpList _ _ (thenC _ _ _ _) _ _ _
      go_wp2_with fail
      refine ⟨fun _ => (Below.heap_alloc _ _ _ hzP2).trans HBP2.out, ?_⟩
      show wpList _ _ (thenC _ _ _ _) _ _ _
      obtain ⟨i0, hi, hz0, hz1, hz2⟩ := info_parts Tryd.infoPred8
      go_wp2_with (at_builtin; refine wpList_append_own_at _ rfl _ _ 23 rfl (w2.alloc (prdBox t (.slice (some ⟨g, 0, none⟩) 1 1) op name n pos gb k cap p)).heap.size 31 i0 (.agg #[.string ⟨#[]⟩, .slice none 0 0, .string ⟨#[]⟩, .string ⟨#[]⟩, .int .i64 0, .int .i64 0, .slice none 0 0, .int .i64 0]) 8 120 Tryd.underlying23 hi hz0 hz1 hz2 rfl (by decide) (.slice none 0 0) 0 [] rfl (World.ownsRow_nil _ _ _ _) ⟨w2.heap.size, 0, none⟩ 1 1 [.string t, .slice (some ⟨g, 0, none⟩) 1 1, .string op, .string name, .int .i64 n, .int .i64 pos, .slice gb k cap, .int .i64 p] rfl rfl (row_cells (new_at w2 (prdBox t (.slice (some ⟨g, 0, none⟩) 1 1) op name n pos gb k cap p))) (fun x hx => by simp at hx; rcases hx with rfl | rfl | rfl | rfl | rfl | rfl | rfl | rfl <;> rfl) (by unfold maxLen; omega) (by omega) (by simp) ?_; intro v' w9 hown9 hgrow9 _ _)
      obtain ⟨a', cap', rfl⟩ := own_form hown9
      have HBP9 := Lib.hid ((hgrow9.block _ (by rw [alloc_size]; omega) (fun h => by cases h)).trans ((Below.heap_alloc _ _ _ hzP2).trans HBP2.out))
      have HBZ9 := Lib.hid ((hgrow9.block _ (by rw [alloc_size]; omega) (fun h => by cases h)).trans ((Below.heap_alloc _ _ _ hzZ2).trans HBZ2.out))
      have HK9 := Lib.hid (kp_append (HK2.out.alloc _) hgrow9 (fun k hk => by cases hk))
      have HR9 := Lib.hid (rds_append (HR2.out.alloc _) hgrow9 (fun k hk => by cases hk))
      have hzP9 := lt_heap HBP9.out
      clear hown9 hgrow9
      refine ⟨fun _ => HBP9.out, ?_⟩
      show wpList _ _ (thenC _ _ _ _) _ _ _
      go_wp2_with fail
      refine ⟨fun _ => HBP9.out, ?_⟩
      show wpList _ _ (thenC _ _ _ _) _ _ _
      obtain ⟨p0, p1, p2, p3, p4, p5, p6⟩ := pg_cells HBP9.out
      obtain ⟨g0, g1, g2, g3, g4, g5, g6⟩ := pg_frozen HBP9.out
      go_wp2_with fail
      refine ⟨fun h => (by cases h), NoPanic.normal ?_⟩
      clear p0 p1 p2 p3 p4 p5 p6 g0 g1 g2 g3 g4 g5 g6
      go_wp2_with fail
      go_roundg 1
      case rel =>
        refine ⟨Lib.hid (by repeat (with_reducible first | exact HK9.out | refine Kp.set ?_ (show w.heap.size ≤ w.heap.size + 1 by omega) _)), Lib.hid ((Below.heap_setCell _ _ _ _ (by simp)).trans HBZ9.out), .inr ⟨rfl, Lib.hid (by repeat (with_reducible first | exact HR9.out | refine RdS.set ?_ (show B < w.heap.size + 1 by omega) _)), none, 0, 0, a', 1, cap', Lib.hid (heap_setCell_same _ _ 1 _ _ _ HBP9.out)⟩⟩
      case measure => omega
    · have hzZ0 := lt_heap HBZ0.out
      have hzP0 := lt_heap HBP0.out
      have HC1 := Lib.hid (word_b wr B d a e HR0.out)
      go_wp2_with fail
      refine HC1.out.mono ?_
      rintro e1 w1 ⟨rfl, hb1⟩
      have HK1 := Lib.hid (HK0.out.below hb1)
      have HR1 := Lib.hid (HR0.out.below hb1)
      have HBZ1 := Lib.hid ((hb1.block _ (lt_heap HBZ0.out)).trans HBZ0.out)
      have hzZ1 := lt_heap HBZ1.out
      have HBP1 := Lib.hid ((hb1.block _ (lt_heap HBP0.out)).trans HBP0.out)
      have hzP1 := lt_heap HBP1.out
      clear hb1
      have HC2 := Lib.hid (form_b w1 B d a e hd30 (HP.out.kp HK1.out) HR1.out)
      go_wp2_with fail
      refine HC2.out.mono ?_
      rintro e2 w2 ⟨T, rfl, hk2, ho2⟩
      have HR2 := Lib.hid (show RdS w2 B (d : Int) (.bad a e) from ho2)
      have HK2 := Lib.hid (HK1.out.trans hk2)
      have HBZ2 := Lib.hid (hk2.blk HBZ1.out (by omega))
      have hzZ2 := lt_heap HBZ2.out
      have HBP2 := Lib.hid (hk2.blk HBP1.out (by omega))
      have hzP2 := lt_heap HBP2.out
      clear hk2 ho2
      obtain ⟨pP0, pP1, pP2, pP3, pP4, pP5, pP6⟩ := pg_cells HBP2.out
      obtain ⟨gP0, gP1, gP2, gP3, gP4, gP5, gP6⟩ := pg_frozen HBP2.out
      obtain ⟨w3, hW⟩ : ∃ x, x = (((((w2.setCell ⟨w.heap.size + 1, 2, none⟩ (.string T.op)).setCell ⟨w.heap.size + 1, 3, none⟩ (.string T.name)).setCell ⟨w.heap.size + 1, 4, none⟩ (.int .i64 T.n)).setCell ⟨w.heap.size + 1, 5, none⟩ (.int .i64 T.pos)).setCell ⟨w.heap.size + 1, 6, none⟩ (.slice T.a T.kids.len T.cap)) := ⟨_, rfl⟩
      have HR3 : RowKit.Hid (RdS w3 B (d : Int) (.bad a e)) := Lib.hid (by rw [hW]; exact (by repeat (with_reducible first | exact HR2.out | refine RdS.set ?_ (show B < w.heap.size + 1 by omega) _)))
      have HK3 : RowKit.Hid (Kp B w w3) := Lib.hid (by rw [hW]; exact (by repeat (with_reducible first | exact HK2.out | refine Kp.set ?_ (show w.heap.size ≤ w.heap.size + 1 by omega) _)))
      have HBP3 : RowKit.Hid (w3.heap[w.heap.size + 1]? = some (pgBox da dl dc pa pl pc T.op T.name T.n T.pos T.a T.kids.len T.cap)) := Lib.hid (by rw [hW]; exact pg_main HBP2.out _ _ _ _ _ _ _)
      have HBZ3 : RowKit.Hid (w3.heap[w.heap.size]? = some (pgBox none 0 0 none 0 0 ⟨#[]⟩ ⟨#[]⟩ 0 0 none 0 0)) := Lib.hid (by rw [hW, Below.heap_setCell _ _ _ _ (by simp), Below.heap_setCell _ _ _ _ (by simp), Below.heap_setCell _ _ _ _ (by simp), Below.heap_setCell _ _ _ _ (by simp), Below.heap_setCell _ _ _ _ (by simp)]; exact HBZ2.out)
      have hzZ3 := lt_heap HBZ3.out
      have hzP3 := lt_heap HBP3.out
      have HC4 := Lib.hid (must_b ⟨#[59]⟩ w3 B d a e (by decide +kernel) HR3.out)
      go_wp2_with fail
      rw [← hW]
      clear hW
      clear pP0 pP1 pP2 pP3 pP4 pP5 pP6 gP0 gP1 gP2 gP3 gP4 gP5 gP6
      refine HC4.out.mono ?_
      rintro e4 w4 ⟨rfl, hk4, hr4⟩
      have HK4 := Lib.hid (HK3.out.trans hk4)
      have HR4 := Lib.hid hr4
      have HBZ4 := Lib.hid (hk4.blk HBZ3.out (by omega))
      have hzZ4 := lt_heap HBZ4.out
      have HBP4 := Lib.hid (hk4.blk HBP3.out (by omega))
      have hzP4 := lt_heap HBP4.out
      clear hk4
      have HC5 := Lib.hid (kind_b 4 w4 B d a e (by decide) HR4.out)
      go_wp2_with fail
      refine HC5.out.mono ?_
      rintro e5 w5 ⟨rfl, hk5, hr5⟩
      have HK5 := Lib.hid (HK4.out.trans hk5)
      have HR5 := Lib.hid hr5
      have HBZ5 := Lib.hid (hk5.blk HBZ4.out (by omega))
      have hzZ5 := lt_heap HBZ5.out
      have HBP5 := Lib.hid (hk5.blk HBP4.out (by omega))
      have hzP5 := lt_heap HBP5.out
      clear hk5
      obtain ⟨pZ0, pZ1, pZ2, pZ3, pZ4, pZ5, pZ6⟩ := pg_cells HBZ5.out
      obtain ⟨gZ0, gZ1, gZ2, gZ3, gZ4, gZ5, gZ6⟩ := pg_frozen HBZ5.out
      obtain ⟨pP0, pP1, pP2, pP3, pP4, pP5, pP6⟩ := pg_cells HBP5.out
      obtain ⟨gP0, gP1, gP2, gP3, gP4, gP5, gP6⟩ := pg_frozen HBP5.out
      go_wp2_with fail
      refine bodyPost_ret (results_cell_row Tryd.results26 _ _ w.heap.size _ (pgCells da dl dc pa pl pc T.op T.name T.n T.pos T.a T.kids.len T.cap) _ _ rfl (pg_set HBZ5.out da dl dc pa pl pc T.op T.name T.n T.pos T.a T.kids.len T.cap) Tryd.underlying28 rfl infoProg) rfl ⟨da, dl, dc, pa, pl, pc, T, rfl, (by repeat (with_reducible first | exact HK5.out | refine Kp.set ?_ (Nat.le_refl _) _)), ?_⟩
      have hr := HR5.out
      exact (by repeat (with_reducible first | exact hr | refine RdS.alloc ?_ _ | refine RdS.set ?_ hB _))
end Go.Proofs.YtmmicnjiikiklaaDoor
