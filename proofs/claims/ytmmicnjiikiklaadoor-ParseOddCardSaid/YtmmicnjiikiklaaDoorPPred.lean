/- pred, when what stands behind its name is wrong. -/
import Derived.Test.YtmmicnjiikiklaaDoorPDcl
import Derived.Test.YtmmicnjiikiklaaDoorLexA
import Derived.Test.YtmmicnjiikiklaaDoorRows
import Derived.WalkKit
import Derived.WalkLawsBesides
import Derived.WalkSpells
import Derived.ProofKit
import Derived.Outline
import Derived.Deep.QuietTactic
import Derived.BigQuiet
import Derived.Deep.Light
import Derived.Deep.CutBlock
import Derived.Deep.DeepCutAuto
import Derived.Deep.DeepFit
import Derived.Deep.LoopGhost
import Derived.Lib.Hide
import Derived.Lib.OthersKept
import Derived.IntWalk
import Derived.StillTailTactics
namespace Go.Proofs.YtmmicnjiikiklaaDoor
open Go.RowKit
/-! pred, when what stands behind its name is wrong. -/
abbrev prdBox (t : ByteArray) (v : Value) (op name : ByteArray) (n pos : Int) (a : Option Addr) (k cap : Nat) (p : Int) : Obj := .cells #[.string t, v, .string op, .string name, .int .i64 n, .int .i64 pos, .slice a k cap, .int .i64 p] 31
theorem prd_cells {w : World} {B : Nat} {t : ByteArray} {v : Value} {op name : ByteArray} {n pos : Int} {a : Option Addr} {k cap : Nat} {p : Int} (h : w.heap[B]? = some (prdBox t v op name n pos a k cap p)) : w.cell? ⟨B, 0, none⟩ = some (.string t) ∧ w.cell? ⟨B, 1, none⟩ = some v ∧ w.cell? ⟨B, 2, none⟩ = some (.string op) ∧ w.cell? ⟨B, 3, none⟩ = some (.string name) ∧ w.cell? ⟨B, 4, none⟩ = some (.int .i64 n) ∧ w.cell? ⟨B, 5, none⟩ = some (.int .i64 pos) ∧ w.cell? ⟨B, 6, none⟩ = some (.slice a k cap) ∧ w.cell? ⟨B, 7, none⟩ = some (.int .i64 p) := by
  refine ⟨?_, ?_, ?_, ?_, ?_, ?_, ?_, ?_⟩ <;> simp [World.cell?, h]
theorem infoPred : (Tryd.prog.info? 31).map (·.size) = some 8 := by kernel_rfl
theorem prd_set {w : World} {B : Nat} {t : ByteArray} {v : Value} {op name : ByteArray} {n pos : Int} {a : Option Addr} {k cap : Nat} {p : Int} (h : w.heap[B]? = some (prdBox t v op name n pos a k cap p)) (t' : ByteArray) (v' : Value) (op' name' : ByteArray) (n' pos' : Int) (a' : Option Addr) (k' cap' : Nat) (p' : Int) :
    ((((((((w.setCell ⟨B, 0, none⟩ (.string t')).setCell ⟨B, 1, none⟩ v').setCell ⟨B, 2, none⟩ (.string op')).setCell ⟨B, 3, none⟩ (.string name')).setCell ⟨B, 4, none⟩ (.int .i64 n')).setCell ⟨B, 5, none⟩ (.int .i64 pos')).setCell ⟨B, 6, none⟩ (.slice a' k' cap')).setCell ⟨B, 7, none⟩ (.int .i64 p')).heap[B]? = some (prdBox t' v' op' name' n' pos' a' k' cap' p') := by
  have h0 : (World.setCell w ⟨B, 0, none⟩ (.string t')).heap[B]? = some (prdBox t' v op name n pos a k cap p) := heap_setCell_same _ B 0 _ _ (.string t') h
  obtain ⟨w0, e0⟩ : ∃ x, x = World.setCell w ⟨B, 0, none⟩ (.string t') := ⟨_, rfl⟩
  rw [← e0] at h0 ⊢
  have h1 : (World.setCell w0 ⟨B, 1, none⟩ v').heap[B]? = some (prdBox t' v' op name n pos a k cap p) := heap_setCell_same _ B 1 _ _ v' h0
  obtain ⟨w1, e1⟩ : ∃ x, x = World.setCell w0 ⟨B, 1, none⟩ v' := ⟨_, rfl⟩
  rw [← e1] at h1 ⊢
  have h2 : (World.setCell w1 ⟨B, 2, none⟩ (.string op')).heap[B]? = some (prdBox t' v' op' name n pos a k cap p) := heap_setCell_same _ B 2 _ _ (.string op') h1
  obtain ⟨w2, e2⟩ : ∃ x, x = World.setCell w1 ⟨B, 2, none⟩ (.string op') := ⟨_, rfl⟩
  rw [← e2] at h2 ⊢
  have h3 : (World.setCell w2 ⟨B, 3, none⟩ (.string name')).heap[B]? = some (prdBox t' v' op' name' n pos a k cap p) := heap_setCell_same _ B 3 _ _ (.string name') h2
  obtain ⟨w3, e3⟩ : ∃ x, x = World.setCell w2 ⟨B, 3, none⟩ (.string name') := ⟨_, rfl⟩
  rw [← e3] at h3 ⊢
  have h4 : (World.setCell w3 ⟨B, 4, none⟩ (.int .i64 n')).heap[B]? = some (prdBox t' v' op' name' n' pos a k cap p) := heap_setCell_same _ B 4 _ _ (.int .i64 n') h3
  obtain ⟨w4, e4⟩ : ∃ x, x = World.setCell w3 ⟨B, 4, none⟩ (.int .i64 n') := ⟨_, rfl⟩
  rw [← e4] at h4 ⊢
  have h5 : (World.setCell w4 ⟨B, 5, none⟩ (.int .i64 pos')).heap[B]? = some (prdBox t' v' op' name' n' pos' a k cap p) := heap_setCell_same _ B 5 _ _ (.int .i64 pos') h4
  obtain ⟨w5, e5⟩ : ∃ x, x = World.setCell w4 ⟨B, 5, none⟩ (.int .i64 pos') := ⟨_, rfl⟩
  rw [← e5] at h5 ⊢
  have h6 : (World.setCell w5 ⟨B, 6, none⟩ (.slice a' k' cap')).heap[B]? = some (prdBox t' v' op' name' n' pos' a' k' cap' p) := heap_setCell_same _ B 6 _ _ (.slice a' k' cap') h5
  obtain ⟨w6, e6⟩ : ∃ x, x = World.setCell w5 ⟨B, 6, none⟩ (.slice a' k' cap') := ⟨_, rfl⟩
  rw [← e6] at h6 ⊢
  have h7 : (World.setCell w6 ⟨B, 7, none⟩ (.int .i64 p')).heap[B]? = some (prdBox t' v' op' name' n' pos' a' k' cap' p') := heap_setCell_same _ B 7 _ _ (.int .i64 p') h6
  exact h7
set_option maxRecDepth 100000 in
set_option maxHeartbeats 4000000 in
theorem pred_odd (l : List Tok) (s2 : St) (a e : Int) (hf : s2.fail (hd s2.l).pos 2 = .bad a e) (w : World) (B d : Nat) (hd30 : d ≤ 30) (hx : ((wrd l).toList == (⟨#[112, 114, 101, 100]⟩ : ByteArray).toList) = true) (hk : ((hd l.tail).kind == 1) = true)
    (hm : ∀ W, RdS W B (d : Int) (.good l.tail.tail) → Calls Tryd.prog 43 #[.pointer (some ⟨B, 0, none⟩), .string ⟨#[40]⟩] W fun e w' => e = .returned (.tuple #[]) ∧ Kp B W w' ∧ RdS w' B (d : Int) s2)
    (hp : ((wrd s2.l).toList == (⟨#[41]⟩ : ByteArray).toList) = false) (h0 : ((wrd s2.l).toList == [118, 97, 114, 48]) = false) (h1 : ((wrd s2.l).toList == [118, 97, 114, 49]) = false) (h2 : ((wrd s2.l).toList == [118, 97, 114, 50]) = false) (hP : PTB B w) (hS : RdS w B (d : Int) (.good l)) : Calls Tryd.prog 41 #[.pointer (some ⟨B, 0, none⟩)] w fun x w' => (∃ t g op name n pos b k cap p, x = .returned (.agg #[.string t, .slice (some ⟨g, 0, none⟩) 1 1, .string op, .string name, .int .i64 n, .int .i64 pos, .slice b k cap, .int .i64 p])) ∧ Kp B w w' ∧ RdS w' B (d : Int) (.bad a e) := by
  have hB := hS.lt
  have HC := Lib.hid (must_yes l ⟨#[112, 114, 101, 100]⟩ (w.alloc (prdBox ⟨#[]⟩ (.slice none 0 0) ⟨#[]⟩ ⟨#[]⟩ 0 0 none 0 0 0)) B (d : Int) hx (hS.alloc _))
  have HK0 := Lib.hid ((Kp.refl B w).alloc (prdBox ⟨#[]⟩ (.slice none 0 0) ⟨#[]⟩ ⟨#[]⟩ 0 0 none 0 0 0))
  have HN := Lib.hid (new_at w (prdBox ⟨#[]⟩ (.slice none 0 0) ⟨#[]⟩ ⟨#[]⟩ 0 0 none 0 0 0))
  have HP := Lib.hid hP
  have HM := Lib.hid hm
  clear hS hx hP hm
  go_enter Tryd.func41, Tryd.ntmps41
  go_wp2_with fail
  refine HC.out.mono ?_
  rintro x1 w1 ⟨rfl, hk1, hr1⟩
  have HN1 := Lib.hid (hk1.blk HN.out (by omega))
  have HK1 := Lib.hid (HK0.out.trans hk1)
  have HC2 := Lib.hid (kind_g l.tail 1 w1 B (d : Int) hk hr1)
  have hz1 := lt_heap HN1.out
  clear hk1 hr1 HC HK0 HN hk
  go_wp2_with fail
  refine HC2.out.mono ?_
  rintro x2 w2 ⟨rfl, hk2, hr2⟩
  have HN2 := Lib.hid ((Below.heap_alloc w2 (tokBox (hd l.tail).kind (hd l.tail).text (hd l.tail).n (hd l.tail).pos) w.heap.size (lt_heap (hk2.blk HN1.out (by omega)))).trans (hk2.blk HN1.out (by omega)))
  have hsz := hk2.size
  have HT2 := Lib.hid (new_at w2 (tokBox (hd l.tail).kind (hd l.tail).text (hd l.tail).n (hd l.tail).pos))
  have HK2 := Lib.hid ((HK1.out.trans hk2).alloc (tokBox (hd l.tail).kind (hd l.tail).text (hd l.tail).n (hd l.tail).pos))
  have HC3 := Lib.hid (HM.out _ (hr2.alloc (tokBox (hd l.tail).kind (hd l.tail).text (hd l.tail).n (hd l.tail).pos)))
  clear hk2 hr2 HC2 HK1 HN1 HM
  go_wp2_with fail
  refine HC3.out.mono ?_
  rintro x3 w3 ⟨rfl, hk3, hr3⟩
  have HN3 := Lib.hid (hk3.blk HN2.out (by omega))
  have HT3 := Lib.hid (hk3.blk HT2.out (by omega))
  have HK3 := Lib.hid (HK2.out.trans hk3)
  have HC4 := Lib.hid (params_odd s2 a e hf w3 B (d : Int) hp h0 h1 h2 hr3)
  clear hk3 hr3 HC3 HK2 HN2 HT2 hp h0 h1 h2 hf
  go_wp2_with fail
  refine HC4.out.mono ?_
  rintro x4 w4 ⟨⟨g4, rfl⟩, hk4, hr4⟩
  have HN4 := Lib.hid (hk4.blk HN3.out (by omega))
  have HT4 := Lib.hid (hk4.blk HT3.out (by omega))
  have HK4 := Lib.hid (HK3.out.trans hk4)
  have HC5 := Lib.hid (must_b ⟨#[61]⟩ w4 B (d : Int) a e (by decide +kernel) hr4)
  clear hk4 hr4 HC4 HK3 HN3 HT3
  go_wp2_with fail
  refine HC5.out.mono ?_
  rintro x5 w5 ⟨rfl, hk5, hr5⟩
  have HN5 := Lib.hid (hk5.blk HN4.out (by omega))
  have HT5 := Lib.hid (hk5.blk HT4.out (by omega))
  have HK5 := Lib.hid (HK4.out.trans hk5)
  have HC6 := Lib.hid (form_b w5 B d a e hd30 (HP.out.kp HK5.out) hr5)
  clear hk5 hr5 HC5 HK4 HN4 HT4
  go_wp2_with fail
  refine HC6.out.mono ?_
  rintro x6 w6 ⟨T, rfl, hk6, hr6⟩
  have HN6 := Lib.hid ((Below.heap_alloc w6 (boxOf T.op T.name T.n T.pos T.a T.kids.len T.cap) w.heap.size (lt_heap (hk6.blk HN5.out (by omega)))).trans (hk6.blk HN5.out (by omega)))
  have HT6 := Lib.hid ((Below.heap_alloc w6 (boxOf T.op T.name T.n T.pos T.a T.kids.len T.cap) w2.heap.size (lt_heap (hk6.blk HT5.out (by omega)))).trans (hk6.blk HT5.out (by omega)))
  have HB6 := Lib.hid (new_at w6 (boxOf T.op T.name T.n T.pos T.a T.kids.len T.cap))
  have hz6 : B < w6.heap.size := (show RdS w6 B (d : Int) (.bad a e) from hr6).lt
  have hz2 := lt_heap (hk6.blk HT5.out (by omega))
  have hz0 := lt_heap (hk6.blk HN5.out (by omega))
  have HK6 := Lib.hid ((HK5.out.trans hk6).alloc (boxOf T.op T.name T.n T.pos T.a T.kids.len T.cap))
  have hr6' : RdS w6 B (d : Int) (.bad a e) := hr6
  have HC7 := Lib.hid (must_b ⟨#[59]⟩ (w6.alloc (boxOf T.op T.name T.n T.pos T.a T.kids.len T.cap)) B (d : Int) a e (by decide +kernel) (hr6'.alloc _))
  clear hk6 hr6 hr6' HC6 HK5 HN5 HT5
  go_wp2_with fail
  refine HC7.out.mono ?_
  rintro x7 w7 ⟨rfl, hk7, hr7⟩
  have HN7 := Lib.hid (hk7.blk HN6.out (by omega))
  have HT7 := Lib.hid (hk7.blk HT6.out (by omega))
  have HB7 := Lib.hid (hk7.blk HB6.out (by omega))
  have HK7 := Lib.hid (HK6.out.trans hk7)
  have HR7 := Lib.hid hr7
  clear hk7 hr7 HC7 HK6 HN6 HT6 HB6
  obtain ⟨⟨t0, t1, t2, t3⟩, tf0, tf1, tf2, tf3⟩ := tok_cells HT7.out
  obtain ⟨b0, b1, b2, b3, b4⟩ := box_cells HB7.out
  have hn0 : ¬ w.heap.size = w2.heap.size := by omega
  have hn1 : ¬ w.heap.size = w6.heap.size := by omega
  have hfr : ∀ i, w7.frozen? ⟨w.heap.size, i, none⟩ = false := fun i => by simp [World.frozen?, HN7.out]
  have hf0 := hfr 0
  have hf1 := hfr 1
  have hf2 := hfr 2
  have hf3 := hfr 3
  have hf4 := hfr 4
  have hf5 := hfr 5
  have hf6 := hfr 6
  have hf7 := hfr 7
  obtain ⟨p0, p1, p2, p3, p4, p5, p6, p7⟩ := prd_cells HN7.out
  clear hfr
  go_wp2_with fail
  refine bodyPost_ret (results_cell_row Tryd.results41 _ _ w.heap.size _ #[.string (hd l.tail).text, .slice (some ⟨g4, 0, none⟩) 1 1, .string T.op, .string T.name, .int .i64 T.n, .int .i64 T.pos, .slice T.a T.kids.len T.cap, .int .i64 (hd l.tail).pos] _ _ rfl (prd_set HN7.out _ _ _ _ _ _ _ _ _ _) Tryd.underlying31 rfl infoPred) rfl ⟨⟨_, _, _, _, _, _, _, _, _, _, rfl⟩, (by repeat (with_reducible first | exact HK7.out | refine Kp.set ?_ (Nat.le_refl _) _)), (by repeat (with_reducible first | exact HR7.out | refine RdS.set ?_ hB _))⟩
end Go.Proofs.YtmmicnjiikiklaaDoor
