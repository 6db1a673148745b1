/- program, of texts that begin with their formula. -/
import Derived.Test.YtmmicnjiikiklaaDoorPForms
import Derived.Test.YtmmicnjiikiklaaDoorOpen
import Derived.Test.YtmmicnjiikiklaaDoorLexA
import Derived.Test.YtmmicnjiikiklaaDoorRows
import Derived.WalkKit
import Derived.WalkLawsBesides
import Derived.WalkSpells
import Derived.ProofKit
import Derived.Outline
import Derived.Deep.QuietTactic
import Derived.BigQuiet
import Derived.Deep.Light
import Derived.Deep.CutBlock
import Derived.Deep.DeepCutAuto
import Derived.Deep.DeepFit
import Derived.Deep.LoopGhost
import Derived.Lib.Hide
import Derived.Lib.OthersKept
import Derived.IntWalk
import Derived.StillTailTactics
namespace Go.Proofs.YtmmicnjiikiklaaDoor
open Go.RowKit
/-! program and Parse, of texts that begin with their formula. -/
abbrev pgBox (da : Option Addr) (dlen dc : Nat) (pa : Option Addr) (pl pc : Nat) (op name : ByteArray) (n pos : Int) (a : Option Addr) (k cap : Nat) : Obj := .cells (pgCells da dlen dc pa pl pc op name n pos a k cap) 28
theorem pg_frozen {w : World} {B : Nat} {da : Option Addr} {dlen dc : Nat} {pa : Option Addr} {pl pc : Nat} {op name : ByteArray} {n pos : Int} {a : Option Addr} {k cap : Nat} (h : w.heap[B]? = some (pgBox da dlen dc pa pl pc op name n pos a k cap)) :
    w.frozen? ⟨B, 0, none⟩ = false ∧ w.frozen? ⟨B, 1, none⟩ = false ∧ w.frozen? ⟨B, 2, none⟩ = false ∧ w.frozen? ⟨B, 3, none⟩ = false ∧ w.frozen? ⟨B, 4, none⟩ = false ∧ w.frozen? ⟨B, 5, none⟩ = false ∧ w.frozen? ⟨B, 6, none⟩ = false := by
  refine ⟨?_, ?_, ?_, ?_, ?_, ?_, ?_⟩ <;> simp [World.frozen?, h]
/-- Main is stored. -/
theorem pg_main {w : World} {B : Nat} {da : Option Addr} {dlen dc : Nat} {pa : Option Addr} {pl pc : Nat} {op name : ByteArray} {n pos : Int} {a : Option Addr} {k cap : Nat} (h : w.heap[B]? = some (pgBox da dlen dc pa pl pc op name n pos a k cap)) (op' name' : ByteArray) (n' pos' : Int) (a' : Option Addr) (k' cap' : Nat) :
    (((((w.setCell ⟨B, 2, none⟩ (.string op')).setCell ⟨B, 3, none⟩ (.string name')).setCell ⟨B, 4, none⟩ (.int .i64 n')).setCell ⟨B, 5, none⟩ (.int .i64 pos')).setCell ⟨B, 6, none⟩ (.slice a' k' cap')).heap[B]? = some (pgBox da dlen dc pa pl pc op' name' n' pos' a' k' cap') := by
  have h0 := heap_setCell_same w B 2 _ _ (.string op') h
  have h1 := heap_setCell_same _ B 3 _ _ (.string name') h0
  have h2 := heap_setCell_same _ B 4 _ _ (.int .i64 n') h1
  have h3 := heap_setCell_same _ B 5 _ _ (.int .i64 pos') h2
  have h4 := heap_setCell_same _ B 6 _ _ (.slice a' k' cap') h3
  exact h4
/-- A whole program is stored. -/
theorem pg_set {w : World} {B : Nat} {da : Option Addr} {dlen dc : Nat} {pa : Option Addr} {pl pc : Nat} {op name : ByteArray} {n pos : Int} {a : Option Addr} {k cap : Nat} (h : w.heap[B]? = some (pgBox da dlen dc pa pl pc op name n pos a k cap)) (da' : Option Addr) (dlen' dc' : Nat) (pa' : Option Addr) (pl' pc' : Nat) (op' name' : ByteArray) (n' pos' : Int) (a' : Option Addr) (k' cap' : Nat) :
    (((((((w.setCell ⟨B, 0, none⟩ (.slice da' dlen' dc')).setCell ⟨B, 1, none⟩ (.slice pa' pl' pc')).setCell ⟨B, 2, none⟩ (.string op')).setCell ⟨B, 3, none⟩ (.string name')).setCell ⟨B, 4, none⟩ (.int .i64 n')).setCell ⟨B, 5, none⟩ (.int .i64 pos')).setCell ⟨B, 6, none⟩ (.slice a' k' cap')).heap[B]? = some (pgBox da' dlen' dc' pa' pl' pc' op' name' n' pos' a' k' cap') := by
  have e0 := heap_setCell_same w B 0 _ _ (.slice da' dlen' dc') h
  have e1 := heap_setCell_same _ B 1 _ _ (.slice pa' pl' pc') e0
  exact pg_main (w := (w.setCell ⟨B, 0, none⟩ (.slice da' dlen' dc')).setCell ⟨B, 1, none⟩ (.slice pa' pl' pc')) (op := op) (name := name) (n := n) (pos := pos) (a := a) (k := k) (cap := cap) e1 op' name' n' pos' a' k' cap'
theorem sets_from {S : Nat → Prop} (w : World) {B : Nat} (hB : ¬ S B) (l : List (Nat × Value)) : From S w (l.foldl (fun w x => w.setCell ⟨B, x.1, none⟩ x.2) w) := by
  induction l generalizing w with
  | nil => exact From.refl _ _
  | cons x r ih => exact (From.set w hB x.2).trans (ih _)
/-- A text that is its formula alone. -/
def pMain (f : Nat) (l : List Tok) : Res Nd :=
  match pForm f 0 l with
  | .ok n l' => if (wrd l').toList == [59] then (if (hd l'.tail).kind == 4 then .ok n l'.tail.tail else .bad (hd l'.tail).pos 2) else .bad (hd l').pos 2
  | .bad a e => .bad a e
def PostG (B : Nat) (d : Int) (w : World) (r : Res Nd) (e : Ending) (w' : World) : Prop := ∃ T : Nd, e = .returned (.agg #[.slice none 0 0, .slice none 0 0, .string T.op, .string T.name, .int .i64 T.n, .int .i64 T.pos, .slice T.a T.kids.len T.cap]) ∧ Kp B w w' ∧ OutN B d (fun b => w.heap.size ≤ b) w' T r
theorem infoProg : (Tryd.prog.info? 28).map (·.size) = some 7 := by kernel_rfl
set_option maxRecDepth 100000 in
set_option maxHeartbeats 16000000 in
theorem prog_ok (nd : Nd) (l' : List Tok) (l : List Tok) (w : World) (B d : Nat) (hP : PTB B w) (hS : RdS w B (d : Int) (.good l)) (hw0 : ((wrd l).toList == [118, 97, 114, 48]) = false) (hw1 : ((wrd l).toList == [118, 97, 114, 49]) = false) (hw2 : ((wrd l).toList == [118, 97, 114, 50]) = false) (hw3 : ((wrd l).toList == [112, 114, 101, 100]) = false) (hf : ∀ W, PTB B W → RdS W B (d : Int) (.good l) → Calls Tryd.prog 42 #[.pointer (some ⟨B, 0, none⟩)] W (PostN B d W (.ok nd l'))) (hm : ((wrd l').toList == (ByteArray.mk #[59]).toList) = true) (hk4 : ((hd l'.tail).kind == 4) = true) : Calls Tryd.prog 26 #[.pointer (some ⟨B, 0, none⟩)] w (PostG B d w (.ok nd l'.tail.tail)) := by
  have HF := Lib.hid hf
  clear hf
  have HM := Lib.hid hm
  clear hm
  have HKE := Lib.hid hk4
  clear hk4
  have hc5 := cellsNode
  have hc4 := cellsTok
  have hB := hS.lt
  have q3 := tok_f3
  have q0 := tok_f0
  have q2 := tok_f2
  have HS := Lib.hid hS
  have HP := Lib.hid hP
  clear hS hP
  have HW0 : RowKit.Hid (RdS ((w.alloc (pgBox none 0 0 none 0 0 ⟨#[]⟩ ⟨#[]⟩ 0 0 none 0 0)).alloc (pgBox none 0 0 none 0 0 ⟨#[]⟩ ⟨#[]⟩ 0 0 none 0 0)) B (d : Int) (.good l)) := Lib.hid ((HS.out.alloc _).alloc _)
  have HKA : RowKit.Hid (Kp B w ((w.alloc (pgBox none 0 0 none 0 0 ⟨#[]⟩ ⟨#[]⟩ 0 0 none 0 0)).alloc (pgBox none 0 0 none 0 0 ⟨#[]⟩ ⟨#[]⟩ 0 0 none 0 0))) := Lib.hid (((Kp.refl B w).alloc _).alloc _)
  have HZA : RowKit.Hid ((((w.alloc (pgBox none 0 0 none 0 0 ⟨#[]⟩ ⟨#[]⟩ 0 0 none 0 0)).alloc (pgBox none 0 0 none 0 0 ⟨#[]⟩ ⟨#[]⟩ 0 0 none 0 0))).heap[w.heap.size]? = some (pgBox none 0 0 none 0 0 ⟨#[]⟩ ⟨#[]⟩ 0 0 none 0 0)) := Lib.hid ((Below.heap_alloc _ _ _ (lt_heap (new_at w (pgBox none 0 0 none 0 0 ⟨#[]⟩ ⟨#[]⟩ 0 0 none 0 0)))).trans (new_at w (pgBox none 0 0 none 0 0 ⟨#[]⟩ ⟨#[]⟩ 0 0 none 0 0)))
  have HPA : RowKit.Hid ((((w.alloc (pgBox none 0 0 none 0 0 ⟨#[]⟩ ⟨#[]⟩ 0 0 none 0 0)).alloc (pgBox none 0 0 none 0 0 ⟨#[]⟩ ⟨#[]⟩ 0 0 none 0 0))).heap[w.heap.size + 1]? = some (pgBox none 0 0 none 0 0 ⟨#[]⟩ ⟨#[]⟩ 0 0 none 0 0)) := Lib.hid (by have h := new_at (w.alloc (pgBox none 0 0 none 0 0 ⟨#[]⟩ ⟨#[]⟩ 0 0 none 0 0)) (pgBox none 0 0 none 0 0 ⟨#[]⟩ ⟨#[]⟩ 0 0 none 0 0); rw [alloc_size] at h; exact h)
  go_enter Tryd.func26, Tryd.ntmps26
  go_wp2_with fail
  go_loopg [] 1 (fun _ wx => RowKit.Hid (RdS wx B (d : Int) (.good l)) ∧ RowKit.Hid (Kp B w wx) ∧ RowKit.Hid (wx.heap[w.heap.size]? = some (pgBox none 0 0 none 0 0 ⟨#[]⟩ ⟨#[]⟩ 0 0 none 0 0)) ∧ RowKit.Hid (wx.heap[w.heap.size + 1]? = some (pgBox none 0 0 none 0 0 ⟨#[]⟩ ⟨#[]⟩ 0 0 none 0 0)))
  case atStart => exact ⟨HW0, HKA, HZA, HPA⟩
  case round =>
    clear HW0 HKA HZA HPA
    obtain ⟨HR0, HK0, HBZ0, HBP0⟩ := hrel
    have hzZ0 := lt_heap HBZ0.out
    have hzP0 := lt_heap HBP0.out
    have HC1 := Lib.hid (word_g l wr B d HR0.out)
    go_wp2_with fail
    refine HC1.out.mono ?_
    rintro e1 w1 ⟨rfl, hb1⟩
    have HK1 := Lib.hid (HK0.out.below hb1)
    have HR1 := Lib.hid (HR0.out.below hb1)
    have HBZ1 := Lib.hid ((hb1.block _ (lt_heap HBZ0.out)).trans HBZ0.out)
    have hzZ1 := lt_heap HBZ1.out
    have HBP1 := Lib.hid ((hb1.block _ (lt_heap HBP0.out)).trans HBP0.out)
    have hzP1 := lt_heap HBP1.out
    clear hb1
    have HC2 := Lib.hid (HF.out w1 (HP.out.kp HK1.out) HR1.out)
    obtain ⟨pP0, pP1, pP2, pP3, pP4, pP5, pP6⟩ := pg_cells HBP1.out
    obtain ⟨gP0, gP1, gP2, gP3, gP4, gP5, gP6⟩ := pg_frozen HBP1.out
    go_wp2_with fail
    refine HC2.out.mono ?_
    clear pP0 pP1 pP2 pP3 pP4 pP5 pP6 gP0 gP1 gP2 gP3 gP4 gP5 gP6
    rintro e2 w2 ⟨T, rfl, hk2, ho2⟩
    have HO2 := Lib.hid ho2
    clear ho2
    have HK2 := Lib.hid (HK1.out.trans hk2)
    have HBZ2 := Lib.hid (hk2.blk HBZ1.out (by omega))
    have hzZ2 := lt_heap HBZ2.out
    have HBP2 := Lib.hid (hk2.blk HBP1.out (by omega))
    have hzP2 := lt_heap HBP2.out
    have HKL2 := Lib.hid hk2
    clear hk2
    obtain ⟨pP0, pP1, pP2, pP3, pP4, pP5, pP6⟩ := pg_cells HBP2.out
    obtain ⟨gP0, gP1, gP2, gP3, gP4, gP5, gP6⟩ := pg_frozen HBP2.out
    obtain ⟨hr2, hg2, hs2⟩ := HO2.out
    have HR2 := Lib.hid hr2
    have HG2 := Lib.hid hg2
    have HST := Lib.hid hs2
    clear hr2 hg2 hs2
    obtain ⟨w3, hW⟩ : ∃ x, x = (((((w2.setCell ⟨w.heap.size + 1, 2, none⟩ (.string T.op)).setCell ⟨w.heap.size + 1, 3, none⟩ (.string T.name)).setCell ⟨w.heap.size + 1, 4, none⟩ (.int .i64 T.n)).setCell ⟨w.heap.size + 1, 5, none⟩ (.int .i64 T.pos)).setCell ⟨w.heap.size + 1, 6, none⟩ (.slice T.a T.kids.len T.cap)) := ⟨_, rfl⟩
    have HR3 : RowKit.Hid (RdS w3 B (d : Int) (.good l')) := Lib.hid (by rw [hW]; exact (by repeat (with_reducible first | exact HR2.out | refine RdS.set ?_ (show B < w.heap.size + 1 by omega) _)))
    have HK3 : RowKit.Hid (Kp B w w3) := Lib.hid (by rw [hW]; exact (by repeat (with_reducible first | exact HK2.out | refine Kp.set ?_ (show w.heap.size ≤ w.heap.size + 1 by omega) _)))
    have HBP3 : RowKit.Hid (w3.heap[w.heap.size + 1]? = some (pgBox none 0 0 none 0 0 T.op T.name T.n T.pos T.a T.kids.len T.cap)) := Lib.hid (by rw [hW]; exact pg_main HBP2.out _ _ _ _ _ _ _)
    have HBZ3 : RowKit.Hid (w3.heap[w.heap.size]? = some (pgBox none 0 0 none 0 0 ⟨#[]⟩ ⟨#[]⟩ 0 0 none 0 0)) := Lib.hid (by rw [hW, Below.heap_setCell _ _ _ _ (by simp), Below.heap_setCell _ _ _ _ (by simp), Below.heap_setCell _ _ _ _ (by simp), Below.heap_setCell _ _ _ _ (by simp), Below.heap_setCell _ _ _ _ (by simp)]; exact HBZ2.out)
    have HGW : RowKit.Hid (T.Good (fun b => w.heap.size + 2 ≤ b) w3) := Lib.hid (by rw [hW]; refine ((HG2.out.mono (S' := fun b => w.heap.size + 2 ≤ b) (fun b hb => by have h5 : w1.heap.size ≤ b := hb; omega)).from (((((From.set _ ?_ _).trans (From.set _ ?_ _)).trans (From.set _ ?_ _)).trans (From.set _ ?_ _)).trans (From.set _ ?_ _))) <;> (show ¬ w.heap.size + 2 ≤ w.heap.size + 1; omega))
    have hzZ3 := lt_heap HBZ3.out
    have hzP3 := lt_heap HBP3.out
    have HC4 := Lib.hid (must_yes l' ⟨#[59]⟩ w3 B d HM.out HR3.out)
    go_wp2_with fail
    rw [← hW]
    clear hW
    clear pP0 pP1 pP2 pP3 pP4 pP5 pP6 gP0 gP1 gP2 gP3 gP4 gP5 gP6
    refine HC4.out.mono ?_
    rintro e4 w4 ⟨rfl, hk4, hr4⟩
    have HMG4 := Lib.hid ((Kp.refl B w3).trans hk4)
    have HK4 := Lib.hid (HK3.out.trans hk4)
    have HR4 := Lib.hid hr4
    have HBZ4 := Lib.hid (hk4.blk HBZ3.out (by omega))
    have hzZ4 := lt_heap HBZ4.out
    have HBP4 := Lib.hid (hk4.blk HBP3.out (by omega))
    have hzP4 := lt_heap HBP4.out
    clear hk4
    have HC5 := Lib.hid (kind_g l'.tail 4 w4 B d HKE.out HR4.out)
    go_wp2_with fail
    refine HC5.out.mono ?_
    rintro e5 w5 ⟨rfl, hk5, hr5⟩
    have HMG5 := Lib.hid (HMG4.out.trans hk5)
    have HK5 := Lib.hid (HK4.out.trans hk5)
    have HR5 := Lib.hid hr5
    have HBZ5 := Lib.hid (hk5.blk HBZ4.out (by omega))
    have hzZ5 := lt_heap HBZ5.out
    have HBP5 := Lib.hid (hk5.blk HBP4.out (by omega))
    have hzP5 := lt_heap HBP5.out
    clear hk5
    obtain ⟨pZ0, pZ1, pZ2, pZ3, pZ4, pZ5, pZ6⟩ := pg_cells HBZ5.out
    obtain ⟨gZ0, gZ1, gZ2, gZ3, gZ4, gZ5, gZ6⟩ := pg_frozen HBZ5.out
    obtain ⟨pP0, pP1, pP2, pP3, pP4, pP5, pP6⟩ := pg_cells HBP5.out
    obtain ⟨gP0, gP1, gP2, gP3, gP4, gP5, gP6⟩ := pg_frozen HBP5.out
    go_wp2_with fail
    refine bodyPost_ret (results_cell_row Tryd.results26 _ _ w.heap.size _ (pgCells none 0 0 none 0 0 T.op T.name T.n T.pos T.a T.kids.len T.cap) _ _ rfl (pg_set HBZ5.out none 0 0 none 0 0 T.op T.name T.n T.pos T.a T.kids.len T.cap) Tryd.underlying28 rfl infoProg) rfl ⟨T, rfl, (by repeat (with_reducible first | exact HK5.out | refine Kp.set ?_ (Nat.le_refl _) _)), ?_⟩
    refine ⟨(by repeat (with_reducible first | exact HR5.out | refine RdS.alloc ?_ _ | refine RdS.set ?_ hB _)), ?_, HST.out⟩
    refine Nd.Good.mono (S := fun b => w.heap.size + 2 ≤ b) ?_ (fun b hb => by omega)
    exact (HGW.out.from (HMG5.out.from (fun h => absurd h (by omega)))).from (sets_from _ (by omega) [(0, _), (1, _), (2, _), (3, _), (4, _), (5, _), (6, _)])
set_option maxRecDepth 100000 in
set_option maxHeartbeats 16000000 in
theorem prog_end (nd : Nd) (l' : List Tok) (l : List Tok) (w : World) (B d : Nat) (hP : PTB B w) (hS : RdS w B (d : Int) (.good l)) (hw0 : ((wrd l).toList == [118, 97, 114, 48]) = false) (hw1 : ((wrd l).toList == [118, 97, 114, 49]) = false) (hw2 : ((wrd l).toList == [118, 97, 114, 50]) = false) (hw3 : ((wrd l).toList == [112, 114, 101, 100]) = false) (hf : ∀ W, PTB B W → RdS W B (d : Int) (.good l) → Calls Tryd.prog 42 #[.pointer (some ⟨B, 0, none⟩)] W (PostN B d W (.ok nd l'))) (hm : ((wrd l').toList == (ByteArray.mk #[59]).toList) = true) (hk4 : ((hd l'.tail).kind == 4) = false) : Calls Tryd.prog 26 #[.pointer (some ⟨B, 0, none⟩)] w (PostG B d w (.bad (hd l'.tail).pos 2)) := by
  have HF := Lib.hid hf
  clear hf
  have HM := Lib.hid hm
  clear hm
  have HKE := Lib.hid hk4
  clear hk4
  have hc5 := cellsNode
  have hc4 := cellsTok
  have hB := hS.lt
  have q3 := tok_f3
  have q0 := tok_f0
  have q2 := tok_f2
  have HS := Lib.hid hS
  have HP := Lib.hid hP
  clear hS hP
  have HW0 : RowKit.Hid (RdS ((w.alloc (pgBox none 0 0 none 0 0 ⟨#[]⟩ ⟨#[]⟩ 0 0 none 0 0)).alloc (pgBox none 0 0 none 0 0 ⟨#[]⟩ ⟨#[]⟩ 0 0 none 0 0)) B (d : Int) (.good l)) := Lib.hid ((HS.out.alloc _).alloc _)
  have HKA : RowKit.Hid (Kp B w ((w.alloc (pgBox none 0 0 none 0 0 ⟨#[]⟩ ⟨#[]⟩ 0 0 none 0 0)).alloc (pgBox none 0 0 none 0 0 ⟨#[]⟩ ⟨#[]⟩ 0 0 none 0 0))) := Lib.hid (((Kp.refl B w).alloc _).alloc _)
  have HZA : RowKit.Hid ((((w.alloc (pgBox none 0 0 none 0 0 ⟨#[]⟩ ⟨#[]⟩ 0 0 none 0 0)).alloc (pgBox none 0 0 none 0 0 ⟨#[]⟩ ⟨#[]⟩ 0 0 none 0 0))).heap[w.heap.size]? = some (pgBox none 0 0 none 0 0 ⟨#[]⟩ ⟨#[]⟩ 0 0 none 0 0)) := Lib.hid ((Below.heap_alloc _ _ _ (lt_heap (new_at w (pgBox none 0 0 none 0 0 ⟨#[]⟩ ⟨#[]⟩ 0 0 none 0 0)))).trans (new_at w (pgBox none 0 0 none 0 0 ⟨#[]⟩ ⟨#[]⟩ 0 0 none 0 0)))
  have HPA : RowKit.Hid ((((w.alloc (pgBox none 0 0 none 0 0 ⟨#[]⟩ ⟨#[]⟩ 0 0 none 0 0)).alloc (pgBox none 0 0 none 0 0 ⟨#[]⟩ ⟨#[]⟩ 0 0 none 0 0))).heap[w.heap.size + 1]? = some (pgBox none 0 0 none 0 0 ⟨#[]⟩ ⟨#[]⟩ 0 0 none 0 0)) := Lib.hid (by have h := new_at (w.alloc (pgBox none 0 0 none 0 0 ⟨#[]⟩ ⟨#[]⟩ 0 0 none 0 0)) (pgBox none 0 0 none 0 0 ⟨#[]⟩ ⟨#[]⟩ 0 0 none 0 0); rw [alloc_size] at h; exact h)
  go_enter Tryd.func26, Tryd.ntmps26
  go_wp2_with fail
  go_loopg [] 1 (fun _ wx => RowKit.Hid (RdS wx B (d : Int) (.good l)) ∧ RowKit.Hid (Kp B w wx) ∧ RowKit.Hid (wx.heap[w.heap.size]? = some (pgBox none 0 0 none 0 0 ⟨#[]⟩ ⟨#[]⟩ 0 0 none 0 0)) ∧ RowKit.Hid (wx.heap[w.heap.size + 1]? = some (pgBox none 0 0 none 0 0 ⟨#[]⟩ ⟨#[]⟩ 0 0 none 0 0)))
  case atStart => exact ⟨HW0, HKA, HZA, HPA⟩
  case round =>
    clear HW0 HKA HZA HPA
    obtain ⟨HR0, HK0, HBZ0, HBP0⟩ := hrel
    have hzZ0 := lt_heap HBZ0.out
    have hzP0 := lt_heap HBP0.out
    have HC1 := Lib.hid (word_g l wr B d HR0.out)
    go_wp2_with fail
    refine HC1.out.mono ?_
    rintro e1 w1 ⟨rfl, hb1⟩
    have HK1 := Lib.hid (HK0.out.below hb1)
    have HR1 := Lib.hid (HR0.out.below hb1)
    have HBZ1 := Lib.hid ((hb1.block _ (lt_heap HBZ0.out)).trans HBZ0.out)
    have hzZ1 := lt_heap HBZ1.out
    have HBP1 := Lib.hid ((hb1.block _ (lt_heap HBP0.out)).trans HBP0.out)
    have hzP1 := lt_heap HBP1.out
    clear hb1
    have HC2 := Lib.hid (HF.out w1 (HP.out.kp HK1.out) HR1.out)
    obtain ⟨pP0, pP1, pP2, pP3, pP4, pP5, pP6⟩ := pg_cells HBP1.out
    obtain ⟨gP0, gP1, gP2, gP3, gP4, gP5, gP6⟩ := pg_frozen HBP1.out
    go_wp2_with fail
    refine HC2.out.mono ?_
    clear pP0 pP1 pP2 pP3 pP4 pP5 pP6 gP0 gP1 gP2 gP3 gP4 gP5 gP6
    rintro e2 w2 ⟨T, rfl, hk2, ho2⟩
    have HO2 := Lib.hid ho2
    clear ho2
    have HK2 := Lib.hid (HK1.out.trans hk2)
    have HBZ2 := Lib.hid (hk2.blk HBZ1.out (by omega))
    have hzZ2 := lt_heap HBZ2.out
    have HBP2 := Lib.hid (hk2.blk HBP1.out (by omega))
    have hzP2 := lt_heap HBP2.out
    have HKL2 := Lib.hid hk2
    clear hk2
    obtain ⟨pP0, pP1, pP2, pP3, pP4, pP5, pP6⟩ := pg_cells HBP2.out
    obtain ⟨gP0, gP1, gP2, gP3, gP4, gP5, gP6⟩ := pg_frozen HBP2.out
    obtain ⟨hr2, hg2, hs2⟩ := HO2.out
    have HR2 := Lib.hid hr2
    have HG2 := Lib.hid hg2
    have HST := Lib.hid hs2
    clear hr2 hg2 hs2
    obtain ⟨w3, hW⟩ : ∃ x, x = (((((w2.setCell ⟨w.heap.size + 1, 2, none⟩ (.string T.op)).setCell ⟨w.heap.size + 1, 3, none⟩ (.string T.name)).setCell ⟨w.heap.size + 1, 4, none⟩ (.int .i64 T.n)).setCell ⟨w.heap.size + 1, 5, none⟩ (.int .i64 T.pos)).setCell ⟨w.heap.size + 1, 6, none⟩ (.slice T.a T.kids.len T.cap)) := ⟨_, rfl⟩
    have HR3 : RowKit.Hid (RdS w3 B (d : Int) (.good l')) := Lib.hid (by rw [hW]; exact (by repeat (with_reducible first | exact HR2.out | refine RdS.set ?_ (show B < w.heap.size + 1 by omega) _)))
    have HK3 : RowKit.Hid (Kp B w w3) := Lib.hid (by rw [hW]; exact (by repeat (with_reducible first | exact HK2.out | refine Kp.set ?_ (show w.heap.size ≤ w.heap.size + 1 by omega) _)))
    have HBP3 : RowKit.Hid (w3.heap[w.heap.size + 1]? = some (pgBox none 0 0 none 0 0 T.op T.name T.n T.pos T.a T.kids.len T.cap)) := Lib.hid (by rw [hW]; exact pg_main HBP2.out _ _ _ _ _ _ _)
    have HBZ3 : RowKit.Hid (w3.heap[w.heap.size]? = some (pgBox none 0 0 none 0 0 ⟨#[]⟩ ⟨#[]⟩ 0 0 none 0 0)) := Lib.hid (by rw [hW, Below.heap_setCell _ _ _ _ (by simp), Below.heap_setCell _ _ _ _ (by simp), Below.heap_setCell _ _ _ _ (by simp), Below.heap_setCell _ _ _ _ (by simp), Below.heap_setCell _ _ _ _ (by simp)]; exact HBZ2.out)
    have HGW : RowKit.Hid (T.Good (fun b => w.heap.size + 2 ≤ b) w3) := Lib.hid (by rw [hW]; refine ((HG2.out.mono (S' := fun b => w.heap.size + 2 ≤ b) (fun b hb => by have h5 : w1.heap.size ≤ b := hb; omega)).from (((((From.set _ ?_ _).trans (From.set _ ?_ _)).trans (From.set _ ?_ _)).trans (From.set _ ?_ _)).trans (From.set _ ?_ _))) <;> (show ¬ w.heap.size + 2 ≤ w.heap.size + 1; omega))
    have hzZ3 := lt_heap HBZ3.out
    have hzP3 := lt_heap HBP3.out
    have HC4 := Lib.hid (must_yes l' ⟨#[59]⟩ w3 B d HM.out HR3.out)
    go_wp2_with fail
    rw [← hW]
    clear hW
    clear pP0 pP1 pP2 pP3 pP4 pP5 pP6 gP0 gP1 gP2 gP3 gP4 gP5 gP6
    refine HC4.out.mono ?_
    rintro e4 w4 ⟨rfl, hk4, hr4⟩
    have HMG4 := Lib.hid ((Kp.refl B w3).trans hk4)
    have HK4 := Lib.hid (HK3.out.trans hk4)
    have HR4 := Lib.hid hr4
    have HBZ4 := Lib.hid (hk4.blk HBZ3.out (by omega))
    have hzZ4 := lt_heap HBZ4.out
    have HBP4 := Lib.hid (hk4.blk HBP3.out (by omega))
    have hzP4 := lt_heap HBP4.out
    clear hk4
    have HC5 := Lib.hid (kind_n l'.tail 4 w4 B d HKE.out HR4.out)
    go_wp2_with fail
    refine HC5.out.mono ?_
    rintro e5 w5 ⟨rfl, hk5, hr5⟩
    have HMG5 := Lib.hid (HMG4.out.trans hk5)
    have HK5 := Lib.hid (HK4.out.trans hk5)
    have HR5 := Lib.hid hr5
    have HBZ5 := Lib.hid (hk5.blk HBZ4.out (by omega))
    have hzZ5 := lt_heap HBZ5.out
    have HBP5 := Lib.hid (hk5.blk HBP4.out (by omega))
    have hzP5 := lt_heap HBP5.out
    clear hk5
    obtain ⟨pZ0, pZ1, pZ2, pZ3, pZ4, pZ5, pZ6⟩ := pg_cells HBZ5.out
    obtain ⟨gZ0, gZ1, gZ2, gZ3, gZ4, gZ5, gZ6⟩ := pg_frozen HBZ5.out
    obtain ⟨pP0, pP1, pP2, pP3, pP4, pP5, pP6⟩ := pg_cells HBP5.out
    obtain ⟨gP0, gP1, gP2, gP3, gP4, gP5, gP6⟩ := pg_frozen HBP5.out
    go_wp2_with fail
    refine bodyPost_ret (results_cell_row Tryd.results26 _ _ w.heap.size _ (pgCells none 0 0 none 0 0 T.op T.name T.n T.pos T.a T.kids.len T.cap) _ _ rfl (pg_set HBZ5.out none 0 0 none 0 0 T.op T.name T.n T.pos T.a T.kids.len T.cap) Tryd.underlying28 rfl infoProg) rfl ⟨T, rfl, (by repeat (with_reducible first | exact HK5.out | refine Kp.set ?_ (Nat.le_refl _) _)), ?_⟩
    have hr := HR5.out
    show RdS _ B (d : Int) (.bad _ 2)
    exact (by repeat (with_reducible first | exact hr | refine RdS.alloc ?_ _ | refine RdS.set ?_ hB _))
set_option maxRecDepth 100000 in
set_option maxHeartbeats 16000000 in
theorem prog_semi (nd : Nd) (l' : List Tok) (l : List Tok) (w : World) (B d : Nat) (hP : PTB B w) (hS : RdS w B (d : Int) (.good l)) (hw0 : ((wrd l).toList == [118, 97, 114, 48]) = false) (hw1 : ((wrd l).toList == [118, 97, 114, 49]) = false) (hw2 : ((wrd l).toList == [118, 97, 114, 50]) = false) (hw3 : ((wrd l).toList == [112, 114, 101, 100]) = false) (hf : ∀ W, PTB B W → RdS W B (d : Int) (.good l) → Calls Tryd.prog 42 #[.pointer (some ⟨B, 0, none⟩)] W (PostN B d W (.ok nd l'))) (hm : ((wrd l').toList == (ByteArray.mk #[59]).toList) = false) : Calls Tryd.prog 26 #[.pointer (some ⟨B, 0, none⟩)] w (PostG B d w (.bad (hd l').pos 2)) := by
  have HF := Lib.hid hf
  clear hf
  have HM := Lib.hid hm
  clear hm
  have hc5 := cellsNode
  have hc4 := cellsTok
  have hB := hS.lt
  have q3 := tok_f3
  have q0 := tok_f0
  have q2 := tok_f2
  have HS := Lib.hid hS
  have HP := Lib.hid hP
  clear hS hP
  have HW0 : RowKit.Hid (RdS ((w.alloc (pgBox none 0 0 none 0 0 ⟨#[]⟩ ⟨#[]⟩ 0 0 none 0 0)).alloc (pgBox none 0 0 none 0 0 ⟨#[]⟩ ⟨#[]⟩ 0 0 none 0 0)) B (d : Int) (.good l)) := Lib.hid ((HS.out.alloc _).alloc _)
  have HKA : RowKit.Hid (Kp B w ((w.alloc (pgBox none 0 0 none 0 0 ⟨#[]⟩ ⟨#[]⟩ 0 0 none 0 0)).alloc (pgBox none 0 0 none 0 0 ⟨#[]⟩ ⟨#[]⟩ 0 0 none 0 0))) := Lib.hid (((Kp.refl B w).alloc _).alloc _)
  have HZA : RowKit.Hid ((((w.alloc (pgBox none 0 0 none 0 0 ⟨#[]⟩ ⟨#[]⟩ 0 0 none 0 0)).alloc (pgBox none 0 0 none 0 0 ⟨#[]⟩ ⟨#[]⟩ 0 0 none 0 0))).heap[w.heap.size]? = some (pgBox none 0 0 none 0 0 ⟨#[]⟩ ⟨#[]⟩ 0 0 none 0 0)) := Lib.hid ((Below.heap_alloc _ _ _ (lt_heap (new_at w (pgBox none 0 0 none 0 0 ⟨#[]⟩ ⟨#[]⟩ 0 0 none 0 0)))).trans (new_at w (pgBox none 0 0 none 0 0 ⟨#[]⟩ ⟨#[]⟩ 0 0 none 0 0)))
  have HPA : RowKit.Hid ((((w.alloc (pgBox none 0 0 none 0 0 ⟨#[]⟩ ⟨#[]⟩ 0 0 none 0 0)).alloc (pgBox none 0 0 none 0 0 ⟨#[]⟩ ⟨#[]⟩ 0 0 none 0 0))).heap[w.heap.size + 1]? = some (pgBox none 0 0 none 0 0 ⟨#[]⟩ ⟨#[]⟩ 0 0 none 0 0)) := Lib.hid (by have h := new_at (w.alloc (pgBox none 0 0 none 0 0 ⟨#[]⟩ ⟨#[]⟩ 0 0 none 0 0)) (pgBox none 0 0 none 0 0 ⟨#[]⟩ ⟨#[]⟩ 0 0 none 0 0); rw [alloc_size] at h; exact h)
  go_enter Tryd.func26, Tryd.ntmps26
  go_wp2_with fail
  go_loopg [] 1 (fun _ wx => RowKit.Hid (RdS wx B (d : Int) (.good l)) ∧ RowKit.Hid (Kp B w wx) ∧ RowKit.Hid (wx.heap[w.heap.size]? = some (pgBox none 0 0 none 0 0 ⟨#[]⟩ ⟨#[]⟩ 0 0 none 0 0)) ∧ RowKit.Hid (wx.heap[w.heap.size + 1]? = some (pgBox none 0 0 none 0 0 ⟨#[]⟩ ⟨#[]⟩ 0 0 none 0 0)))
  case atStart => exact ⟨HW0, HKA, HZA, HPA⟩
  case round =>
    clear HW0 HKA HZA HPA
    obtain ⟨HR0, HK0, HBZ0, HBP0⟩ := hrel
    have hzZ0 := lt_heap HBZ0.out
    have hzP0 := lt_heap HBP0.out
    have HC1 := Lib.hid (word_g l wr B d HR0.out)
    go_wp2_with fail
    refine HC1.out.mono ?_
    rintro e1 w1 ⟨rfl, hb1⟩
    have HK1 := Lib.hid (HK0.out.below hb1)
    have HR1 := Lib.hid (HR0.out.below hb1)
    have HBZ1 := Lib.hid ((hb1.block _ (lt_heap HBZ0.out)).trans HBZ0.out)
    have hzZ1 := lt_heap HBZ1.out
    have HBP1 := Lib.hid ((hb1.block _ (lt_heap HBP0.out)).trans HBP0.out)
    have hzP1 := lt_heap HBP1.out
    clear hb1
    have HC2 := Lib.hid (HF.out w1 (HP.out.kp HK1.out) HR1.out)
    obtain ⟨pP0, pP1, pP2, pP3, pP4, pP5, pP6⟩ := pg_cells HBP1.out
    obtain ⟨gP0, gP1, gP2, gP3, gP4, gP5, gP6⟩ := pg_frozen HBP1.out
    go_wp2_with fail
    refine HC2.out.mono ?_
    clear pP0 pP1 pP2 pP3 pP4 pP5 pP6 gP0 gP1 gP2 gP3 gP4 gP5 gP6
    rintro e2 w2 ⟨T, rfl, hk2, ho2⟩
    have HO2 := Lib.hid ho2
    clear ho2
    have HK2 := Lib.hid (HK1.out.trans hk2)
    have HBZ2 := Lib.hid (hk2.blk HBZ1.out (by omega))
    have hzZ2 := lt_heap HBZ2.out
    have HBP2 := Lib.hid (hk2.blk HBP1.out (by omega))
    have hzP2 := lt_heap HBP2.out
    have HKL2 := Lib.hid hk2
    clear hk2
    obtain ⟨pP0, pP1, pP2, pP3, pP4, pP5, pP6⟩ := pg_cells HBP2.out
    obtain ⟨gP0, gP1, gP2, gP3, gP4, gP5, gP6⟩ := pg_frozen HBP2.out
    obtain ⟨hr2, hg2, hs2⟩ := HO2.out
    have HR2 := Lib.hid hr2
    have HG2 := Lib.hid hg2
    have HST := Lib.hid hs2
    clear hr2 hg2 hs2
    obtain ⟨w3, hW⟩ : ∃ x, x = (((((w2.setCell ⟨w.heap.size + 1, 2, none⟩ (.string T.op)).setCell ⟨w.heap.size + 1, 3, none⟩ (.string T.name)).setCell ⟨w.heap.size + 1, 4, none⟩ (.int .i64 T.n)).setCell ⟨w.heap.size + 1, 5, none⟩ (.int .i64 T.pos)).setCell ⟨w.heap.size + 1, 6, none⟩ (.slice T.a T.kids.len T.cap)) := ⟨_, rfl⟩
    have HR3 : RowKit.Hid (RdS w3 B (d : Int) (.good l')) := Lib.hid (by rw [hW]; exact (by repeat (with_reducible first | exact HR2.out | refine RdS.set ?_ (show B < w.heap.size + 1 by omega) _)))
    have HK3 : RowKit.Hid (Kp B w w3) := Lib.hid (by rw [hW]; exact (by repeat (with_reducible first | exact HK2.out | refine Kp.set ?_ (show w.heap.size ≤ w.heap.size + 1 by omega) _)))
    have HBP3 : RowKit.Hid (w3.heap[w.heap.size + 1]? = some (pgBox none 0 0 none 0 0 T.op T.name T.n T.pos T.a T.kids.len T.cap)) := Lib.hid (by rw [hW]; exact pg_main HBP2.out _ _ _ _ _ _ _)
    have HBZ3 : RowKit.Hid (w3.heap[w.heap.size]? = some (pgBox none 0 0 none 0 0 ⟨#[]⟩ ⟨#[]⟩ 0 0 none 0 0)) := Lib.hid (by rw [hW, Below.heap_setCell _ _ _ _ (by simp), Below.heap_setCell _ _ _ _ (by simp), Below.heap_setCell _ _ _ _ (by simp), Below.heap_setCell _ _ _ _ (by simp), Below.heap_setCell _ _ _ _ (by simp)]; exact HBZ2.out)
    have HGW : RowKit.Hid (T.Good (fun b => w.heap.size + 2 ≤ b) w3) := Lib.hid (by rw [hW]; refine ((HG2.out.mono (S' := fun b => w.heap.size + 2 ≤ b) (fun b hb => by have h5 : w1.heap.size ≤ b := hb; omega)).from (((((From.set _ ?_ _).trans (From.set _ ?_ _)).trans (From.set _ ?_ _)).trans (From.set _ ?_ _)).trans (From.set _ ?_ _))) <;> (show ¬ w.heap.size + 2 ≤ w.heap.size + 1; omega))
    have hzZ3 := lt_heap HBZ3.out
    have hzP3 := lt_heap HBP3.out
    have HC4 := Lib.hid (must_no l' ⟨#[59]⟩ w3 B d HM.out HR3.out)
    go_wp2_with fail
    rw [← hW]
    clear hW
    clear pP0 pP1 pP2 pP3 pP4 pP5 pP6 gP0 gP1 gP2 gP3 gP4 gP5 gP6
    refine HC4.out.mono ?_
    rintro e4 w4 ⟨rfl, hk4, hr4⟩
    have HMG4 := Lib.hid ((Kp.refl B w3).trans hk4)
    have HK4 := Lib.hid (HK3.out.trans hk4)
    have HR4 := Lib.hid hr4
    have HBZ4 := Lib.hid (hk4.blk HBZ3.out (by omega))
    have hzZ4 := lt_heap HBZ4.out
    have HBP4 := Lib.hid (hk4.blk HBP3.out (by omega))
    have hzP4 := lt_heap HBP4.out
    clear hk4
    have HC5 := Lib.hid (kind_b 4 w4 B d _ _ (by decide) HR4.out)
    go_wp2_with fail
    refine HC5.out.mono ?_
    rintro e5 w5 ⟨rfl, hk5, hr5⟩
    have HMG5 := Lib.hid (HMG4.out.trans hk5)
    have HK5 := Lib.hid (HK4.out.trans hk5)
    have HR5 := Lib.hid hr5
    have HBZ5 := Lib.hid (hk5.blk HBZ4.out (by omega))
    have hzZ5 := lt_heap HBZ5.out
    have HBP5 := Lib.hid (hk5.blk HBP4.out (by omega))
    have hzP5 := lt_heap HBP5.out
    clear hk5
    obtain ⟨pZ0, pZ1, pZ2, pZ3, pZ4, pZ5, pZ6⟩ := pg_cells HBZ5.out
    obtain ⟨gZ0, gZ1, gZ2, gZ3, gZ4, gZ5, gZ6⟩ := pg_frozen HBZ5.out
    obtain ⟨pP0, pP1, pP2, pP3, pP4, pP5, pP6⟩ := pg_cells HBP5.out
    obtain ⟨gP0, gP1, gP2, gP3, gP4, gP5, gP6⟩ := pg_frozen HBP5.out
    go_wp2_with fail
    refine bodyPost_ret (results_cell_row Tryd.results26 _ _ w.heap.size _ (pgCells none 0 0 none 0 0 T.op T.name T.n T.pos T.a T.kids.len T.cap) _ _ rfl (pg_set HBZ5.out none 0 0 none 0 0 T.op T.name T.n T.pos T.a T.kids.len T.cap) Tryd.underlying28 rfl infoProg) rfl ⟨T, rfl, (by repeat (with_reducible first | exact HK5.out | refine Kp.set ?_ (Nat.le_refl _) _)), ?_⟩
    have hr := HR5.out
    show RdS _ B (d : Int) (.bad _ 2)
    exact (by repeat (with_reducible first | exact hr | refine RdS.alloc ?_ _ | refine RdS.set ?_ hB _))
set_option maxRecDepth 100000 in
set_option maxHeartbeats 16000000 in
theorem prog_bad (a e : Int) (l : List Tok) (w : World) (B d : Nat) (hP : PTB B w) (hS : RdS w B (d : Int) (.good l)) (hw0 : ((wrd l).toList == [118, 97, 114, 48]) = false) (hw1 : ((wrd l).toList == [118, 97, 114, 49]) = false) (hw2 : ((wrd l).toList == [118, 97, 114, 50]) = false) (hw3 : ((wrd l).toList == [112, 114, 101, 100]) = false) (hf : ∀ W, PTB B W → RdS W B (d : Int) (.good l) → Calls Tryd.prog 42 #[.pointer (some ⟨B, 0, none⟩)] W (PostN B d W (.bad a e)))  : Calls Tryd.prog 26 #[.pointer (some ⟨B, 0, none⟩)] w (PostG B d w (.bad a e)) := by
  have HF := Lib.hid hf
  clear hf
  have hc5 := cellsNode
  have hc4 := cellsTok
  have hB := hS.lt
  have q3 := tok_f3
  have q0 := tok_f0
  have q2 := tok_f2
  have HS := Lib.hid hS
  have HP := Lib.hid hP
  clear hS hP
  have HW0 : RowKit.Hid (RdS ((w.alloc (pgBox none 0 0 none 0 0 ⟨#[]⟩ ⟨#[]⟩ 0 0 none 0 0)).alloc (pgBox none 0 0 none 0 0 ⟨#[]⟩ ⟨#[]⟩ 0 0 none 0 0)) B (d : Int) (.good l)) := Lib.hid ((HS.out.alloc _).alloc _)
  have HKA : RowKit.Hid (Kp B w ((w.alloc (pgBox none 0 0 none 0 0 ⟨#[]⟩ ⟨#[]⟩ 0 0 none 0 0)).alloc (pgBox none 0 0 none 0 0 ⟨#[]⟩ ⟨#[]⟩ 0 0 none 0 0))) := Lib.hid (((Kp.refl B w).alloc _).alloc _)
  have HZA : RowKit.Hid ((((w.alloc (pgBox none 0 0 none 0 0 ⟨#[]⟩ ⟨#[]⟩ 0 0 none 0 0)).alloc (pgBox none 0 0 none 0 0 ⟨#[]⟩ ⟨#[]⟩ 0 0 none 0 0))).heap[w.heap.size]? = some (pgBox none 0 0 none 0 0 ⟨#[]⟩ ⟨#[]⟩ 0 0 none 0 0)) := Lib.hid ((Below.heap_alloc _ _ _ (lt_heap (new_at w (pgBox none 0 0 none 0 0 ⟨#[]⟩ ⟨#[]⟩ 0 0 none 0 0)))).trans (new_at w (pgBox none 0 0 none 0 0 ⟨#[]⟩ ⟨#[]⟩ 0 0 none 0 0)))
  have HPA : RowKit.Hid ((((w.alloc (pgBox none 0 0 none 0 0 ⟨#[]⟩ ⟨#[]⟩ 0 0 none 0 0)).alloc (pgBox none 0 0 none 0 0 ⟨#[]⟩ ⟨#[]⟩ 0 0 none 0 0))).heap[w.heap.size + 1]? = some (pgBox none 0 0 none 0 0 ⟨#[]⟩ ⟨#[]⟩ 0 0 none 0 0)) := Lib.hid (by have h := new_at (w.alloc (pgBox none 0 0 none 0 0 ⟨#[]⟩ ⟨#[]⟩ 0 0 none 0 0)) (pgBox none 0 0 none 0 0 ⟨#[]⟩ ⟨#[]⟩ 0 0 none 0 0); rw [alloc_size] at h; exact h)
  go_enter Tryd.func26, Tryd.ntmps26
  go_wp2_with fail
  go_loopg [] 1 (fun _ wx => RowKit.Hid (RdS wx B (d : Int) (.good l)) ∧ RowKit.Hid (Kp B w wx) ∧ RowKit.Hid (wx.heap[w.heap.size]? = some (pgBox none 0 0 none 0 0 ⟨#[]⟩ ⟨#[]⟩ 0 0 none 0 0)) ∧ RowKit.Hid (wx.heap[w.heap.size + 1]? = some (pgBox none 0 0 none 0 0 ⟨#[]⟩ ⟨#[]⟩ 0 0 none 0 0)))
  case atStart => exact ⟨HW0, HKA, HZA, HPA⟩
  case round =>
    clear HW0 HKA HZA HPA
    obtain ⟨HR0, HK0, HBZ0, HBP0⟩ := hrel
    have hzZ0 := lt_heap HBZ0.out
    have hzP0 := lt_heap HBP0.out
    have HC1 := Lib.hid (word_g l wr B d HR0.out)
    go_wp2_with fail
    refine HC1.out.mono ?_
    rintro e1 w1 ⟨rfl, hb1⟩
    have HK1 := Lib.hid (HK0.out.below hb1)
    have HR1 := Lib.hid (HR0.out.below hb1)
    have HBZ1 := Lib.hid ((hb1.block _ (lt_heap HBZ0.out)).trans HBZ0.out)
    have hzZ1 := lt_heap HBZ1.out
    have HBP1 := Lib.hid ((hb1.block _ (lt_heap HBP0.out)).trans HBP0.out)
    have hzP1 := lt_heap HBP1.out
    clear hb1
    have HC2 := Lib.hid (HF.out w1 (HP.out.kp HK1.out) HR1.out)
    obtain ⟨pP0, pP1, pP2, pP3, pP4, pP5, pP6⟩ := pg_cells HBP1.out
    obtain ⟨gP0, gP1, gP2, gP3, gP4, gP5, gP6⟩ := pg_frozen HBP1.out
    go_wp2_with fail
    refine HC2.out.mono ?_
    clear pP0 pP1 pP2 pP3 pP4 pP5 pP6 gP0 gP1 gP2 gP3 gP4 gP5 gP6
    rintro e2 w2 ⟨T, rfl, hk2, ho2⟩
    have HO2 := Lib.hid ho2
    clear ho2
    have HK2 := Lib.hid (HK1.out.trans hk2)
    have HBZ2 := Lib.hid (hk2.blk HBZ1.out (by omega))
    have hzZ2 := lt_heap HBZ2.out
    have HBP2 := Lib.hid (hk2.blk HBP1.out (by omega))
    have hzP2 := lt_heap HBP2.out
    have HKL2 := Lib.hid hk2
    clear hk2
    obtain ⟨pP0, pP1, pP2, pP3, pP4, pP5, pP6⟩ := pg_cells HBP2.out
    obtain ⟨gP0, gP1, gP2, gP3, gP4, gP5, gP6⟩ := pg_frozen HBP2.out
    have HR2 := Lib.hid (show RdS w2 B (d : Int) (.bad a e) from HO2.out)
    obtain ⟨w3, hW⟩ : ∃ x, x = (((((w2.setCell ⟨w.heap.size + 1, 2, none⟩ (.string T.op)).setCell ⟨w.heap.size + 1, 3, none⟩ (.string T.name)).setCell ⟨w.heap.size + 1, 4, none⟩ (.int .i64 T.n)).setCell ⟨w.heap.size + 1, 5, none⟩ (.int .i64 T.pos)).setCell ⟨w.heap.size + 1, 6, none⟩ (.slice T.a T.kids.len T.cap)) := ⟨_, rfl⟩
    have HR3 : RowKit.Hid (RdS w3 B (d : Int) (.bad a e)) := Lib.hid (by rw [hW]; exact (by repeat (with_reducible first | exact HR2.out | refine RdS.set ?_ (show B < w.heap.size + 1 by omega) _)))
    have HK3 : RowKit.Hid (Kp B w w3) := Lib.hid (by rw [hW]; exact (by repeat (with_reducible first | exact HK2.out | refine Kp.set ?_ (show w.heap.size ≤ w.heap.size + 1 by omega) _)))
    have HBP3 : RowKit.Hid (w3.heap[w.heap.size + 1]? = some (pgBox none 0 0 none 0 0 T.op T.name T.n T.pos T.a T.kids.len T.cap)) := Lib.hid (by rw [hW]; exact pg_main HBP2.out _ _ _ _ _ _ _)
    have HBZ3 : RowKit.Hid (w3.heap[w.heap.size]? = some (pgBox none 0 0 none 0 0 ⟨#[]⟩ ⟨#[]⟩ 0 0 none 0 0)) := Lib.hid (by rw [hW, Below.heap_setCell _ _ _ _ (by simp), Below.heap_setCell _ _ _ _ (by simp), Below.heap_setCell _ _ _ _ (by simp), Below.heap_setCell _ _ _ _ (by simp), Below.heap_setCell _ _ _ _ (by simp)]; exact HBZ2.out)
    have hzZ3 := lt_heap HBZ3.out
    have hzP3 := lt_heap HBP3.out
    have HC4 := Lib.hid (must_b ⟨#[59]⟩ w3 B d a e (by decide +kernel) HR3.out)
    go_wp2_with fail
    rw [← hW]
    clear hW
    clear pP0 pP1 pP2 pP3 pP4 pP5 pP6 gP0 gP1 gP2 gP3 gP4 gP5 gP6
    refine HC4.out.mono ?_
    rintro e4 w4 ⟨rfl, hk4, hr4⟩
    have HK4 := Lib.hid (HK3.out.trans hk4)
    have HR4 := Lib.hid hr4
    have HBZ4 := Lib.hid (hk4.blk HBZ3.out (by omega))
    have hzZ4 := lt_heap HBZ4.out
    have HBP4 := Lib.hid (hk4.blk HBP3.out (by omega))
    have hzP4 := lt_heap HBP4.out
    clear hk4
    have HC5 := Lib.hid (kind_b 4 w4 B d a e (by decide) HR4.out)
    go_wp2_with fail
    refine HC5.out.mono ?_
    rintro e5 w5 ⟨rfl, hk5, hr5⟩
    have HK5 := Lib.hid (HK4.out.trans hk5)
    have HR5 := Lib.hid hr5
    have HBZ5 := Lib.hid (hk5.blk HBZ4.out (by omega))
    have hzZ5 := lt_heap HBZ5.out
    have HBP5 := Lib.hid (hk5.blk HBP4.out (by omega))
    have hzP5 := lt_heap HBP5.out
    clear hk5
    obtain ⟨pZ0, pZ1, pZ2, pZ3, pZ4, pZ5, pZ6⟩ := pg_cells HBZ5.out
    obtain ⟨gZ0, gZ1, gZ2, gZ3, gZ4, gZ5, gZ6⟩ := pg_frozen HBZ5.out
    obtain ⟨pP0, pP1, pP2, pP3, pP4, pP5, pP6⟩ := pg_cells HBP5.out
    obtain ⟨gP0, gP1, gP2, gP3, gP4, gP5, gP6⟩ := pg_frozen HBP5.out
    go_wp2_with fail
    refine bodyPost_ret (results_cell_row Tryd.results26 _ _ w.heap.size _ (pgCells none 0 0 none 0 0 T.op T.name T.n T.pos T.a T.kids.len T.cap) _ _ rfl (pg_set HBZ5.out none 0 0 none 0 0 T.op T.name T.n T.pos T.a T.kids.len T.cap) Tryd.underlying28 rfl infoProg) rfl ⟨T, rfl, (by repeat (with_reducible first | exact HK5.out | refine Kp.set ?_ (Nat.le_refl _) _)), ?_⟩
    have hr := HR5.out
    show RdS _ B (d : Int) (.bad a e)
    exact (by repeat (with_reducible first | exact hr | refine RdS.alloc ?_ _ | refine RdS.set ?_ hB _))
end Go.Proofs.YtmmicnjiikiklaaDoor
