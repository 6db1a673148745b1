/- The small steps of the reader of parse. -/
import Derived.Test.YtmmicnjiikiklaaDoorPRd
import Derived.Test.YtmmicnjiikiklaaDoorLexC
import Derived.Test.YtmmicnjiikiklaaDoorLexA
import Derived.Test.YtmmicnjiikiklaaDoorRows
import Derived.WalkKit
import Derived.WalkLawsBesides
import Derived.WalkSpells
import Derived.ProofKit
import Derived.Outline
import Derived.Deep.QuietTactic
import Derived.BigQuiet
import Derived.Deep.Light
import Derived.Deep.CutBlock
import Derived.Deep.DeepCutAuto
import Derived.Deep.DeepFit
import Derived.Deep.LoopGhost
import Derived.Lib.Hide
import Derived.Lib.OthersKept
import Derived.IntWalk
import Derived.StillTailTactics
namespace Go.Proofs.YtmmicnjiikiklaaDoor
open Go.RowKit
/-! now, take, fail, unfit, word, may, must, kind. -/
theorem hd_some {l : List Tok} (h : l ≠ []) : l[0]? = some (hd l) := by
  cases l with
  | nil => exact (h rfl).elim
  | cons a r => rfl
theorem RdS.open {w : World} {B : Nat} {d : Int} {s : St} (h : RdS w B d s) : ∃ a cap p e, RdAt w B a s.l.length cap d p e ∧ s.l.length ≤ cap ∧ cap ≤ 9223372036854775807 ∧ ToksIn w B a s.l := by
  cases s with
  | good l => obtain ⟨a, cap, h1, h2, h3, h4⟩ := h; exact ⟨a, cap, 0, 0, h1, h2, h3, h4⟩
  | bad p e => exact ⟨none, 0, p, e, h.1, Nat.le_refl _, by omega, .inl rfl⟩
set_option maxRecDepth 100000 in
set_option maxHeartbeats 4000000 in
theorem now_any (s : St) (w : World) (B : Nat) (d : Int) (h : RdS w B d s) : Calls Tryd.prog 67 #[.pointer (some ⟨B, 0, none⟩)] w fun e w' => e = .returned (.agg #[.int .i64 (hd s.l).kind, .string (hd s.l).text, .int .i64 (hd s.l).n, .int .i64 (hd s.l).pos]) ∧ Below w.heap.size w w' := by
  have hc4 := cellsTok
  have hB := h.lt
  obtain ⟨a, cap, p, e, h1, h2, h3, h4⟩ := h.open
  obtain ⟨⟨k0, k1, k2, k3⟩, f0, f1, f2, f3⟩ := h1.cells
  generalize s.l = l at *
  clear h h1
  by_cases hl : l = []
  · subst hl
    have k0 : w.cell? ⟨B, 0, none⟩ = some (.slice a 0 cap) := k0
    go_enter Tryd.func67, Tryd.ntmps67
    go_wp2
    exact bodyPost_ret (v := .agg #[.int .i64 0, .string ⟨#[]⟩, .int .i64 0, .int .i64 0]) (by simp [results, Tryd.results67, go_sem]) rfl ⟨rfl, below_box _ _⟩
  · obtain ⟨g, o, rfl, hg, ht⟩ := h4.resolve_left hl
    obtain ⟨t0, t1, t2, t3⟩ := ht 0 (hd l) (hd_some hl)
    simp only [Nat.zero_mul, Nat.add_zero] at t0 t1 t2 t3
    have hgs : g < w.heap.size := by omega
    have hpos : 0 < l.length := List.length_pos_iff.2 hl
    have hp1 : ((l.length : Int) == 0) = false := by rw [beq_eq_false_iff_ne]; omega
    have hp2 : (0 : Int) < (l.length : Int) := by omega
    clear ht h4 hl
    go_enter Tryd.func67, Tryd.ntmps67
    go_wp2
    exact bodyPost_ret (v := .agg #[.int .i64 (hd l).kind, .string (hd l).text, .int .i64 (hd l).n, .int .i64 (hd l).pos]) (by simp [results, Tryd.results67, go_sem]) rfl ⟨rfl, (below_box _ _)⟩
theorem RdAt.set0 {w : World} {B : Nat} {a a' : Option Addr} {len cap len' cap' : Nat} {d p e : Int} (h : RdAt w B a len cap d p e) : RdAt (w.setCell ⟨B, 0, none⟩ (.slice a' len' cap')) B a' len' cap' d p e := by
  unfold RdAt at *
  exact heap_setCell_same w B 0 _ _ _ h
theorem RdAt.set1 {w : World} {B : Nat} {a : Option Addr} {len cap : Nat} {d d' p e : Int} (h : RdAt w B a len cap d p e) : RdAt (w.setCell ⟨B, 1, none⟩ (.int .i64 d')) B a len cap d' p e := by
  unfold RdAt at *
  exact heap_setCell_same w B 1 _ _ _ h
theorem RdAt.set2 {w : World} {B : Nat} {a : Option Addr} {len cap : Nat} {d p p' e : Int} (h : RdAt w B a len cap d p e) : RdAt (w.setCell ⟨B, 2, none⟩ (.int .i64 p')) B a len cap d p' e := by
  unfold RdAt at *
  exact heap_setCell_same w B 2 _ _ _ h
theorem RdAt.set3 {w : World} {B : Nat} {a : Option Addr} {len cap : Nat} {d p e e' : Int} (h : RdAt w B a len cap d p e) : RdAt (w.setCell ⟨B, 3, none⟩ (.int .i64 e')) B a len cap d p e' := by
  unfold RdAt at *
  exact heap_setCell_same w B 3 _ _ _ h
theorem RdAt.below {w w' : World} {B : Nat} {a : Option Addr} {len cap : Nat} {d p e : Int} (h : RdAt w B a len cap d p e) (hb : Below w.heap.size w w') : RdAt w' B a len cap d p e := by
  have hl := h.lt
  unfold RdAt at *
  rw [hb.block B hl]; exact h
theorem tail_in {w : World} {B g o : Nat} {l : List Tok} (h : ToksIn w B (some ⟨g, o, none⟩) l) : ToksIn w B (some ⟨g, o + 4, none⟩) l.tail := by
  rcases h with rfl | ⟨g', o', ha, hg, ht⟩
  · exact .inl rfl
  · have e1 := congrArg Addr.block (Option.some.inj ha)
    have e2 := congrArg Addr.off (Option.some.inj ha)
    simp only [] at e1 e2
    subst e1 e2
    refine .inr ⟨g, o + 4, rfl, hg, fun i t hi => ?_⟩
    have := ht (i + 1) t (by rw [List.getElem?_tail] at hi; exact hi)
    rw [show o + (i + 1) * 4 = o + 4 + i * 4 by omega] at this
    exact this
abbrev tokBox (k : Int) (s : ByteArray) (n p : Int) : Obj := .cells #[.int .i64 k, .string s, .int .i64 n, .int .i64 p] 53
theorem tok_cells {w : World} {B : Nat} {k : Int} {s : ByteArray} {n p : Int} (h : w.heap[B]? = some (tokBox k s n p)) :
    (w.cell? ⟨B, 0, none⟩ = some (.int .i64 k) ∧ w.cell? ⟨B, 1, none⟩ = some (.string s) ∧ w.cell? ⟨B, 2, none⟩ = some (.int .i64 n) ∧ w.cell? ⟨B, 3, none⟩ = some (.int .i64 p)) ∧ (w.frozen? ⟨B, 0, none⟩ = false ∧ w.frozen? ⟨B, 1, none⟩ = false ∧ w.frozen? ⟨B, 2, none⟩ = false ∧ w.frozen? ⟨B, 3, none⟩ = false) := by
  refine ⟨⟨?_, ?_, ?_, ?_⟩, ⟨?_, ?_, ?_, ?_⟩⟩
  all_goals first | (rw [cell_of_row w B _ _ _ _ h]; rfl) | simp [World.frozen?, h]
/-- A new block's content behind a call. -/
theorem new_then {w w' : World} {ob : Obj} (h : Below (w.alloc ob).heap.size (w.alloc ob) w') : w'.heap[w.heap.size]? = some ob := (h.block _ (by simp)).trans (new_at w ob)
theorem tok_set {w : World} {B : Nat} {k n p : Int} {s : ByteArray} (h : w.heap[B]? = some (tokBox k s n p)) (k' n' p' : Int) (s' : ByteArray) : ((((w.setCell ⟨B, 0, none⟩ (.int .i64 k')).setCell ⟨B, 1, none⟩ (.string s')).setCell ⟨B, 2, none⟩ (.int .i64 n')).setCell ⟨B, 3, none⟩ (.int .i64 p')).heap[B]? = some (tokBox k' s' n' p') := by
  have h0 := heap_setCell_same w B 0 _ _ (.int .i64 k') h
  have h1 := heap_setCell_same _ B 1 _ _ (.string s') h0
  have h2 := heap_setCell_same _ B 2 _ _ (.int .i64 n') h1
  have h3 := heap_setCell_same _ B 3 _ _ (.int .i64 p') h2
  exact h3
theorem node_set {w : World} {B : Nat} {op name : ByteArray} {n pos : Int} {a : Option Addr} {k cap : Nat} (h : w.heap[B]? = some (boxOf op name n pos a k cap)) (op' name' : ByteArray) (n' pos' : Int) (a' : Option Addr) (k' cap' : Nat) : (((((w.setCell ⟨B, 0, none⟩ (.string op')).setCell ⟨B, 1, none⟩ (.string name')).setCell ⟨B, 2, none⟩ (.int .i64 n')).setCell ⟨B, 3, none⟩ (.int .i64 pos')).setCell ⟨B, 4, none⟩ (.slice a' k' cap')).heap[B]? = some (boxOf op' name' n' pos' a' k' cap') := by
  have h0 := heap_setCell_same w B 0 _ _ (.string op') h
  have h1 := heap_setCell_same _ B 1 _ _ (.string name') h0
  have h2 := heap_setCell_same _ B 2 _ _ (.int .i64 n') h1
  have h3 := heap_setCell_same _ B 3 _ _ (.int .i64 pos') h2
  have h4 := heap_setCell_same _ B 4 _ _ (.slice a' k' cap') h3
  exact h4
theorem ret_tok {f : Func} {i : Tmp} {R : Ending → World → Prop} {a : Act} {w : World} {B : Nat} {k n p : Int} {s : ByteArray} (hf : f.results = #[.cell i 53]) (hs : a.tmps.getD i undef = .pointer (some ⟨B, 0, none⟩)) (hd : a.defers = []) (h : w.heap[B]? = some (tokBox k s n p)) (hR : R (.returned (.agg #[.int .i64 k, .string s, .int .i64 n, .int .i64 p])) w) : bodyPost Tryd.prog f R .ret a w := by
  obtain ⟨⟨c0, c1, c2, c3⟩, _⟩ := tok_cells h
  refine bodyPost_ret (v := .agg #[.int .i64 k, .string s, .int .i64 n, .int .i64 p]) ?_ hd hR
  have hc4 := cellsTok
  simp at hs
  simp [results, hf, go_sem, hs, c0, c1, c2, c3]
theorem ret_node {f : Func} {i : Tmp} {R : Ending → World → Prop} {a : Act} {w : World} {B : Nat} (op name : ByteArray) (n pos : Int) (b : Option Addr) (k cap : Nat) (hf : f.results = #[.cell i 26]) (hs : a.tmps.getD i undef = .pointer (some ⟨B, 0, none⟩)) (hd : a.defers = []) (h : w.heap[B]? = some (boxOf op name n pos b k cap)) (hR : R (.returned (.agg (nodeCells op name n pos b k cap))) w) : bodyPost Tryd.prog f R .ret a w := by
  obtain ⟨c0, c1, c2, c3, c4⟩ := box_cells h
  refine bodyPost_ret (v := .agg (nodeCells op name n pos b k cap)) ?_ hd hR
  have hc4 := cellsNode
  simp at hs
  simp [results, hf, go_sem, hs, c0, c1, c2, c3, c4]
theorem tok_f0 (a b c e : Value) (w : World) : Sem.run Tryd.prog (Instr.field 53 (.agg #[a, b, c, e]) 0) w = .ok a w := by kernel_rfl
theorem tok_f1 (a b c e : Value) (w : World) : Sem.run Tryd.prog (Instr.field 53 (.agg #[a, b, c, e]) 1) w = .ok b w := by kernel_rfl
theorem tok_f2 (a b c e : Value) (w : World) : Sem.run Tryd.prog (Instr.field 53 (.agg #[a, b, c, e]) 2) w = .ok c w := by kernel_rfl
theorem tok_f3 (a b c e : Value) (w : World) : Sem.run Tryd.prog (Instr.field 53 (.agg #[a, b, c, e]) 3) w = .ok e w := by kernel_rfl
def St.may (s : St) (x : List UInt8) : St := if (wrd s.l).toList == x then s.take else s
def St.must (s : St) (x : List UInt8) : St := if (wrd s.l).toList == x then s.take else s.fail (hd s.l).pos 2
def St.kind (s : St) (k : Int) : St := if (hd s.l).kind == k then s.take else (s.fail (hd s.l).pos 2).take
theorem St.may_yes {s : St} {x : List UInt8} (h : ((wrd s.l).toList == x) = true) : s.may x = s.take := by unfold St.may; rw [h]; rfl
theorem St.may_no {s : St} {x : List UInt8} (h : ((wrd s.l).toList == x) = false) : s.may x = s := by unfold St.may; rw [h]; rfl
theorem St.must_yes {s : St} {x : List UInt8} (h : ((wrd s.l).toList == x) = true) : s.must x = s.take := by unfold St.must; rw [h]; rfl
theorem St.must_no {s : St} {x : List UInt8} (h : ((wrd s.l).toList == x) = false) : s.must x = s.fail (hd s.l).pos 2 := by unfold St.must; rw [h]; rfl
theorem St.kind_yes {s : St} {k : Int} (h : ((hd s.l).kind == k) = true) : s.kind k = s.take := by unfold St.kind; rw [h]; rfl
theorem St.kind_no {s : St} {k : Int} (h : ((hd s.l).kind == k) = false) : s.kind k = (s.fail (hd s.l).pos 2).take := by unfold St.kind; rw [h]; rfl
set_option maxRecDepth 100000 in
set_option maxHeartbeats 4000000 in
theorem take_any (s : St) (w : World) (B : Nat) (d : Int) (h : RdS w B d s) : Calls Tryd.prog 75 #[.pointer (some ⟨B, 0, none⟩)] w fun e w' => e = .returned (.agg #[.int .i64 (hd s.l).kind, .string (hd s.l).text, .int .i64 (hd s.l).n, .int .i64 (hd s.l).pos]) ∧ Kp B w w' ∧ RdS w' B d s.take := by
  have hc4 := cellsTok
  have hB := h.lt
  have HC := Lib.hid (now_any s (w.alloc (tokBox 0 ⟨#[]⟩ 0 0)) B d (h.alloc _))
  have HR := Lib.hid h
  have hnz : w.heap.size ≠ B := by omega
  by_cases hl : s.l = []
  · have hst : s.take = s := by
      cases s with
      | good l => have : l = [] := hl; subst this; rfl
      | bad a e => rfl
    rw [hst]
    obtain ⟨a, cap, p, e, h1, h2, h3, h4⟩ := h.open
    rw [hl] at h1 HC ⊢
    have H1 := Lib.hid h1
    clear h hst h1 h2 h3 h4 hl
    go_enter Tryd.func75, Tryd.ntmps75
    go_wp2_with fail
    refine HC.out.mono ?_
    rintro e w1 ⟨rfl, hb1⟩
    have hz := hb1.size
    have HB1 := Lib.hid hb1
    simp only [alloc_size] at hz
    obtain ⟨⟨k0, k1, k2, k3⟩, f0, f1, f2, f3⟩ := ((H1.out.below (below_box w _)).below hb1).cells
    have HB0 := Lib.hid (new_then hb1)
    obtain ⟨⟨r0, r1, r2, r3⟩, q0, q1, q2, q3⟩ := tok_cells (new_then hb1)
    have hB1 : B < w1.heap.size := by omega
    have hN1 : w.heap.size < w1.heap.size := by omega
    have hNN : w.heap.size ≠ w1.heap.size := by omega
    clear hb1 HC
    go_wp2
    have HKP := Lib.hid (Kp.of_below (B := B) (box_then HB1.out))
    have HRD := Lib.hid (HR.out.below (box_then HB1.out))
    refine ret_tok (B := w.heap.size) Tryd.results75 rfl rfl ((Below.heap_alloc _ _ _ (by simp; omega)).trans (tok_set HB0.out _ _ _ _)) ⟨rfl, ?_, ?_⟩
    · exact (by repeat (with_reducible first | exact HKP.out | refine Kp.alloc ?_ _ | refine Kp.set ?_ (Nat.le_refl _) _ | refine Kp.setB ?_ _ _))
    · exact (by repeat (with_reducible first | exact HRD.out | refine RdS.alloc ?_ _ | refine RdS.set ?_ hB _))
  · obtain ⟨l, rfl⟩ : ∃ l, s = .good l := by
      cases s with
      | good l => exact ⟨l, rfl⟩
      | bad a e => exact (hl rfl).elim
    have hl2 : l ≠ [] := hl
    show Calls _ _ _ _ (fun e w' => e = .returned (.agg #[.int .i64 (hd l).kind, .string (hd l).text, .int .i64 (hd l).n, .int .i64 (hd l).pos]) ∧ Kp B w w' ∧ RdS w' B d (.good l.tail))
    obtain ⟨a, cap, h1, h2, h3, h4⟩ := h
    obtain ⟨g, o, rfl, hg, ht⟩ := h4.resolve_left hl2
    have hpos : 0 < l.length := List.length_pos_iff.2 hl2
    have hp2 : (0 : Int) < (l.length : Int) := by omega
    have H1 := Lib.hid h1
    have HT := Lib.hid h4
    clear h1 h4 ht hl hl2
    go_enter Tryd.func75, Tryd.ntmps75
    go_wp2_with fail
    refine HC.out.mono ?_
    rintro e w1 ⟨rfl, hb1⟩
    have hz := hb1.size
    have HB1 := Lib.hid hb1
    simp only [alloc_size] at hz
    have HA1 := Lib.hid ((H1.out.below (below_box w _)).below hb1)
    obtain ⟨⟨k0, k1, k2, k3⟩, f0, f1, f2, f3⟩ := HA1.out.cells
    have HB0 := Lib.hid (new_then hb1)
    obtain ⟨⟨r0, r1, r2, r3⟩, q0, q1, q2, q3⟩ := tok_cells (new_then hb1)
    have hB1 : B < w1.heap.size := by omega
    have hN1 : w.heap.size < w1.heap.size := by omega
    have hNN : w.heap.size ≠ w1.heap.size := by omega
    have HTI := Lib.hid ((HT.out.same (w' := w1) fun g hg => (hb1.block g (by simp; omega)).trans (Below.heap_alloc _ _ _ (by omega))))
    have HKP := Lib.hid (Kp.of_below (B := B) (box_then hb1))
    clear hb1 HC HB1
    go_wp2
    · have h1 : l.length = 1 := by omega
      have ht : l.tail = [] := by
        cases l with
        | nil => rfl
        | cons a r => cases r with
          | nil => rfl
          | cons b r => simp at h1
      have hrd : RdS (w1.setCell ⟨B, 0, none⟩ (.slice (some ⟨g, o, none⟩) (l.length - 1) 0)) B d (.good l.tail) :=
        ⟨_, 0, by rw [ht]; have := HA1.out.set0 (a' := some ⟨g, o, none⟩) (len' := l.length - 1) (cap' := 0); rw [h1] at this ⊢; exact this, by rw [ht]; simp, by omega, .inl ht⟩
      refine ret_tok (B := w.heap.size) Tryd.results75 rfl rfl ((Below.heap_alloc _ _ _ (by simp; omega)).trans (tok_set ((Below.heap_setCell _ _ _ _ hnz).trans HB0.out) _ _ _ _)) ⟨rfl, ?_, ?_⟩
      · exact (by repeat (with_reducible first | exact HKP.out | refine Kp.alloc ?_ _ | refine Kp.set ?_ (Nat.le_refl _) _ | refine Kp.setB ?_ _ _))
      · exact (by repeat (with_reducible first | exact hrd | refine RdS.alloc ?_ _ | refine RdS.set ?_ hB _))
    · have hrd : RdS (w1.setCell ⟨B, 0, none⟩ (.slice (some ⟨g, o + 4, none⟩) (l.length - 1) (cap - 1))) B d (.good l.tail) := by
        have h := HA1.out.set0 (a' := some ⟨g, o + 4, none⟩) (len' := l.length - 1) (cap' := cap - 1)
        rw [← List.length_tail] at h ⊢
        exact ⟨_, _, h, by rw [List.length_tail]; omega, by omega, (tail_in HTI.out).same fun g' hg' => Below.heap_setCell _ _ _ _ (by simp; omega)⟩
      refine ret_tok (B := w.heap.size) Tryd.results75 rfl rfl ((Below.heap_alloc _ _ _ (by simp; omega)).trans (tok_set ((Below.heap_setCell _ _ _ _ hnz).trans HB0.out) _ _ _ _)) ⟨rfl, ?_, ?_⟩
      · exact (by repeat (with_reducible first | exact HKP.out | refine Kp.alloc ?_ _ | refine Kp.set ?_ (Nat.le_refl _) _ | refine Kp.setB ?_ _ _))
      · exact (by repeat (with_reducible first | exact hrd | refine RdS.alloc ?_ _ | refine RdS.set ?_ hB _))
set_option maxRecDepth 100000 in
set_option maxHeartbeats 4000000 in
theorem fail_any (s : St) (p e : Int) (w : World) (B : Nat) (d : Int) (he : (e == 0) = false) (h : RdS w B d s) : Calls Tryd.prog 92 #[.pointer (some ⟨B, 0, none⟩), .int .i64 p, .int .i64 e] w fun x w' => x = .returned (.tuple #[]) ∧ Kp B w w' ∧ RdS w' B d (s.fail p e) := by
  have hB := h.lt
  cases s with
  | good l =>
    obtain ⟨a, cap, h1, h2, h3, h4⟩ := h
    obtain ⟨⟨k0, k1, k2, k3⟩, f0, f1, f2, f3⟩ := h1.cells
    have H1 := Lib.hid h1
    have HE := Lib.hid he
    clear h1 h4 he
    go_enter Tryd.func92, Tryd.ntmps92
    go_wp2
    go_end0
    exact ⟨rfl, (((Kp.refl B w).setB 2 _).setB 3 _).setB 0 _, H1.out.set2.set3.set0, HE.out⟩
  | bad a0 e0 =>
    obtain ⟨h1, h2⟩ := h
    obtain ⟨⟨k0, k1, k2, k3⟩, f0, f1, f2, f3⟩ := h1.cells
    have H1 := Lib.hid h1
    have HE := Lib.hid h2
    clear h1 he
    go_enter Tryd.func92, Tryd.ntmps92
    go_wp2
    go_end0
    exact ⟨rfl, (Kp.refl B w).setB 0 _, H1.out.set0, HE.out⟩
set_option maxRecDepth 100000 in
set_option maxHeartbeats 4000000 in
theorem unfit_any (s : St) (w : World) (B : Nat) (d : Int) (h : RdS w B d s) : Calls Tryd.prog 74 #[.pointer (some ⟨B, 0, none⟩)] w fun x w' => x = .returned (.tuple #[]) ∧ Kp B w w' ∧ RdS w' B d (s.fail (hd s.l).pos 2) := by
  have HC := Lib.hid (now_any s w B d h)
  have HF := Lib.hid (fun W (hb : Below w.heap.size w W) => fail_any s (hd s.l).pos 2 W B d rfl (h.below hb))
  clear h
  have q3 := tok_f3
  go_enter Tryd.func74, Tryd.ntmps74
  go_wp2_with fail
  refine HC.out.mono ?_
  rintro e w1 ⟨rfl, hb1⟩
  have HC2 := Lib.hid (HF.out w1 hb1)
  have HK := Lib.hid (Kp.of_below (B := B) hb1)
  clear hb1 HC HF
  go_wp2_with fail
  refine HC2.out.mono ?_
  rintro e w2 ⟨rfl, hk, hr⟩
  go_wp2
  go_end0
  exact ⟨rfl, HK.out.trans hk, hr⟩
set_option maxRecDepth 100000 in
set_option maxHeartbeats 4000000 in
theorem word_any (s : St) (w : World) (B : Nat) (d : Int) (h : RdS w B d s) : Calls Tryd.prog 39 #[.pointer (some ⟨B, 0, none⟩)] w fun e w' => e = .returned (.string (wrd s.l)) ∧ Below w.heap.size w w' := by
  have hc4 := cellsTok
  have HC := Lib.hid (now_any s w B d h)
  have HW : RowKit.Hid (wrd s.l = if (hd s.l).kind == 3 then (hd s.l).text else ⟨#[]⟩) := Lib.hid rfl
  generalize hd s.l = t at HC HW
  generalize wrd s.l = x at HW ⊢
  obtain ⟨k, tx, n, p⟩ := t
  simp only [] at HC HW
  clear h
  by_cases hk : (k == 3) = true
  · have HX : RowKit.Hid (x = tx) := Lib.hid (by rw [HW.out, hk]; rfl)
    go_enter Tryd.func39, Tryd.ntmps39
    go_wp2_with fail
    refine HC.out.mono ?_
    rintro e w1 ⟨rfl, hb1⟩
    go_wp2
    go_ret
    exact ⟨by rw [HX.out]; rfl, hb1.alloc hb1.size _⟩
  · have hk2 : (k == 3) = false := by simpa using hk
    have HX : RowKit.Hid (x = ⟨#[]⟩) := Lib.hid (by rw [HW.out, hk2]; rfl)
    clear hk
    go_enter Tryd.func39, Tryd.ntmps39
    go_wp2_with fail
    refine HC.out.mono ?_
    rintro e w1 ⟨rfl, hb1⟩
    go_wp2
    go_ret
    exact ⟨by rw [HX.out]; rfl, hb1.alloc hb1.size _⟩
set_option maxRecDepth 100000 in
set_option maxHeartbeats 4000000 in
theorem may_any (s : St) (x : ByteArray) (w : World) (B : Nat) (d : Int) (h : RdS w B d s) : Calls Tryd.prog 70 #[.pointer (some ⟨B, 0, none⟩), .string x] w fun e w' => e = .returned (.bool ((wrd s.l).toList == x.toList)) ∧ Kp B w w' ∧ RdS w' B d (s.may x.toList) := by
  have HC := Lib.hid (word_any s w B d h)
  have HR := Lib.hid h
  by_cases hk : ((wrd s.l).toList == x.toList) = true
  · rw [St.may_yes hk]
    have HF := Lib.hid (fun W (hb : Below w.heap.size w W) => take_any s W B d (HR.out.below hb))
    generalize wrd s.l = t at HC hk ⊢
    rw [hk]
    clear h
    go_enter Tryd.func70, Tryd.ntmps70
    go_wp2_with fail
    refine HC.out.mono ?_
    rintro e w1 ⟨rfl, hb1⟩
    have HC2 := Lib.hid (HF.out w1 hb1)
    have HK := Lib.hid (Kp.of_below (B := B) hb1)
    clear hb1 HC HF
    go_wp2_with fail
    refine HC2.out.mono ?_
    rintro e w2 ⟨rfl, hk, hr⟩
    go_wp2
    go_ret
    exact ⟨rfl, HK.out.trans hk, hr⟩
  · have hk2 : ((wrd s.l).toList == x.toList) = false := by simpa using hk
    rw [St.may_no hk2]
    generalize wrd s.l = t at HC hk2 ⊢
    rw [hk2]
    clear hk h
    go_enter Tryd.func70, Tryd.ntmps70
    go_wp2_with fail
    refine HC.out.mono ?_
    rintro e w1 ⟨rfl, hb1⟩
    have HK := Lib.hid (Kp.of_below (B := B) hb1)
    have HRB := Lib.hid (HR.out.below hb1)
    clear hb1 HC
    go_wp2_with fail
    go_ret
    exact ⟨rfl, HK.out, HRB.out⟩
set_option maxRecDepth 100000 in
set_option maxHeartbeats 4000000 in
theorem must_any (s : St) (x : ByteArray) (w : World) (B : Nat) (d : Int) (h : RdS w B d s) : Calls Tryd.prog 43 #[.pointer (some ⟨B, 0, none⟩), .string x] w fun e w' => e = .returned (.tuple #[]) ∧ Kp B w w' ∧ RdS w' B d (s.must x.toList) := by
  have HC := Lib.hid (may_any s x w B d h)
  clear h
  by_cases hk : ((wrd s.l).toList == x.toList) = true
  · rw [St.must_yes hk]
    rw [St.may_yes hk, hk] at HC
    clear hk
    go_enter Tryd.func43, Tryd.ntmps43
    go_wp2_with fail
    refine HC.out.mono ?_
    rintro e w1 ⟨rfl, hk1, hr1⟩
    go_wp2_with fail
    go_end0
    exact ⟨rfl, hk1, hr1⟩
  · have hk2 : ((wrd s.l).toList == x.toList) = false := by simpa using hk
    rw [St.must_no hk2]
    rw [St.may_no hk2, hk2] at HC
    clear hk hk2
    go_enter Tryd.func43, Tryd.ntmps43
    go_wp2_with fail
    refine HC.out.mono ?_
    rintro e w1 ⟨rfl, hk1, hr1⟩
    have HC2 := Lib.hid (unfit_any s w1 B d hr1)
    have HK := Lib.hid hk1
    clear hk1 hr1 HC
    go_wp2_with fail
    refine HC2.out.mono ?_
    rintro e w2 ⟨rfl, hk2, hr2⟩
    go_wp2_with fail
    go_end0
    exact ⟨rfl, HK.out.trans hk2, hr2⟩
theorem Kp.blk {B : Nat} {a b : World} (h : Kp B a b) {i : Nat} {ob : Obj} (hi : a.heap[i]? = some ob) (hne : i ≠ B) : b.heap[i]? = some ob :=
  (h.block i (lt_heap hi) (fun e => hne (Option.some.inj e))).trans hi
set_option maxRecDepth 100000 in
set_option maxHeartbeats 4000000 in
theorem kind_yes (s : St) (k : Int) (w : World) (B : Nat) (d : Int) (h : RdS w B d s) (hk : ((hd s.l).kind == k) = true) : Calls Tryd.prog 44 #[.pointer (some ⟨B, 0, none⟩), .int .i64 k] w fun e w' => e = .returned (.agg #[.int .i64 (hd s.l).kind, .string (hd s.l).text, .int .i64 (hd s.l).n, .int .i64 (hd s.l).pos]) ∧ Kp B w w' ∧ RdS w' B d s.take := by
  have hc4 := cellsTok
  have HC := Lib.hid (now_any s (w.alloc (tokBox 0 ⟨#[]⟩ 0 0)) B d (h.alloc _))
  have HR := Lib.hid h
  have hB := h.lt
  have HF := Lib.hid (fun W (hb : Below w.heap.size w W) => take_any s W B d (HR.out.below hb))
  clear h
  have q0 := tok_f0
  generalize hd s.l = t at HC HF hk ⊢
  obtain ⟨tk, tx, tn, tp⟩ := t
  simp only [] at HC HF hk
  have hk2 : (tk != k) = false := by unfold bne; rw [hk]; rfl
  go_enter Tryd.func44, Tryd.ntmps44
  go_wp2_with fail
  refine HC.out.mono ?_
  rintro e w1 ⟨rfl, hb1⟩
  have HC2 := Lib.hid (HF.out w1 (box_then hb1))
  have HK := Lib.hid (Kp.of_below (B := B) (box_then hb1))
  have HB := Lib.hid (new_then hb1)
  have hz := hb1.size
  simp only [alloc_size] at hz
  clear hb1 HC HF
  go_wp2_with fail
  refine HC2.out.mono ?_
  rintro e w2 ⟨rfl, hk2, hr2⟩
  have HB2 := Lib.hid (hk2.blk HB.out (by omega))
  obtain ⟨⟨r0, r1, r2, r3⟩, q0, q1, q2, q3⟩ := tok_cells HB2.out
  have HK2 := Lib.hid (HK.out.trans hk2)
  have HR2 := Lib.hid hr2
  clear hk2 hr2 HK HB HC2
  go_wp2
  refine ret_tok (B := w.heap.size) Tryd.results44 rfl rfl (tok_set HB2.out _ _ _ _) ⟨rfl, ?_, ?_⟩
  · exact (by repeat (with_reducible first | exact HK2.out | refine Kp.alloc ?_ _ | refine Kp.set ?_ (Nat.le_refl _) _ | refine Kp.setB ?_ _ _))
  · exact (by repeat (with_reducible first | exact HR2.out | refine RdS.alloc ?_ _ | refine RdS.set ?_ hB _))
theorem St.fail_l (s : St) (a e : Int) : (s.fail a e).l = [] := by cases s <;> rfl
theorem St.fail_take (s : St) (a e : Int) : (s.fail a e).take = s.fail a e := by cases s <;> rfl
set_option maxRecDepth 100000 in
set_option maxHeartbeats 4000000 in
theorem kind_no (s : St) (k : Int) (w : World) (B : Nat) (d : Int) (h : RdS w B d s) (hk : ((hd s.l).kind == k) = false) : Calls Tryd.prog 44 #[.pointer (some ⟨B, 0, none⟩), .int .i64 k] w fun e w' => e = .returned (.agg #[.int .i64 0, .string ⟨#[]⟩, .int .i64 0, .int .i64 0]) ∧ Kp B w w' ∧ RdS w' B d (s.fail (hd s.l).pos 2) := by
  have hc4 := cellsTok
  have HC := Lib.hid (now_any s (w.alloc (tokBox 0 ⟨#[]⟩ 0 0)) B d (h.alloc _))
  have HR := Lib.hid h
  have hB := h.lt
  have HF := Lib.hid (fun W (hb : Below w.heap.size w W) => unfit_any s W B d (HR.out.below hb))
  have HT := Lib.hid (fun W (hr : RdS W B d (s.fail (hd s.l).pos 2)) => take_any _ W B d hr)
  rw [St.fail_take, St.fail_l] at HT
  clear h
  have q0 := tok_f0
  generalize hd s.l = t at HC HF HT hk ⊢
  obtain ⟨tk, tx, tn, tp⟩ := t
  simp only [] at HC HF HT hk
  have hk2 : (tk != k) = true := by unfold bne; rw [hk]; rfl
  go_enter Tryd.func44, Tryd.ntmps44
  go_wp2_with fail
  refine HC.out.mono ?_
  rintro e w1 ⟨rfl, hb1⟩
  have HC2 := Lib.hid (HF.out w1 (box_then hb1))
  have HK := Lib.hid (Kp.of_below (B := B) (box_then hb1))
  have HB := Lib.hid (new_then hb1)
  have hz := hb1.size
  simp only [alloc_size] at hz
  clear hb1 HC HF
  go_wp2_with fail
  refine HC2.out.mono ?_
  rintro e w2 ⟨rfl, hk2, hr2⟩
  have HB2 := Lib.hid (hk2.blk HB.out (by omega))
  have HK2 := Lib.hid (HK.out.trans hk2)
  have HC3 := Lib.hid (HT.out w2 hr2)
  clear hk2 hr2 HK HB HC2 HT
  go_wp2_with fail
  refine HC3.out.mono ?_
  rintro e w3 ⟨rfl, hk3, hr3⟩
  have HB3 := Lib.hid (hk3.blk HB2.out (by omega))
  obtain ⟨⟨r0, r1, r2, r3⟩, q0, q1, q2, q3⟩ := tok_cells HB3.out
  have HK3 := Lib.hid (HK2.out.trans hk3)
  have HR3 := Lib.hid hr3
  clear hk3 hr3 HK2 HB2 HC3
  go_wp2
  refine ret_tok (B := w.heap.size) Tryd.results44 rfl rfl (tok_set HB3.out _ _ _ _) ⟨rfl, ?_, ?_⟩
  · exact (by repeat (with_reducible first | exact HK3.out | refine Kp.alloc ?_ _ | refine Kp.set ?_ (Nat.le_refl _) _ | refine Kp.setB ?_ _ _))
  · exact (by repeat (with_reducible first | exact HR3.out | refine RdS.alloc ?_ _ | refine RdS.set ?_ hB _))
end Go.Proofs.YtmmicnjiikiklaaDoor
