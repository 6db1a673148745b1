/- Nodes in memory: rows of them, and what a walk over them goes by. No program is named here but by the imports. -/
import Derived.Test.YtamihfgkpilfiaaDoorLexA
import Derived.Test.YtamihfgkpilfiaaDoorRows
import Derived.WalkKit
import Derived.WalkLawsBesides
import Derived.WalkSpells
import Derived.ProofKit
import Derived.Outline
import Derived.Deep.QuietTactic
import Derived.BigQuiet
import Derived.Deep.Light
import Derived.Deep.CutBlock
import Derived.Deep.DeepCutAuto
import Derived.Deep.DeepFit
import Derived.Deep.LoopGhost
import Derived.Lib.Hide
import Derived.Lib.OthersKept
import Derived.IntWalk
import Derived.StillTailTactics
namespace Go.Proofs.YtamihfgkpilfiaaDoor
open Go.RowKit
/-! Nodes in memory. A node bears the address of its kids' row, so that its value is known whole. -/
/-- A row of nodes: each with its Op, Name, N, At, its kids' address and capacity, its kids; then the rest. -/
inductive Fo where
  | nil
  | cons (op name : ByteArray) (n pos : Int) (a : Option Addr) (cap : Nat) (kids rest : Fo)
namespace Fo
def len : Fo → Nat
  | nil => 0
  | cons _ _ _ _ _ _ _ r => r.len + 1
/-- How many nodes there are. -/
def size : Fo → Nat
  | nil => 0
  | cons _ _ _ _ _ _ k r => k.size + 1 + r.size
end Fo
/-- One node. -/
structure Nd where
  op : ByteArray
  name : ByteArray
  n : Int
  pos : Int
  a : Option Addr
  cap : Nat
  kids : Fo
/-- A node's five cells, and its value. -/
abbrev nodeCells (op name : ByteArray) (n pos : Int) (a : Option Addr) (k cap : Nat) : Array Value := #[.string op, .string name, .int .i64 n, .int .i64 pos, .slice a k cap]
def Nd.val (T : Nd) : Value := .agg (nodeCells T.op T.name T.n T.pos T.a T.kids.len T.cap)
def Nd.size (T : Nd) : Nat := T.kids.size + 1
/-- The node at a block's place. -/
def NodeAt (w : World) (b o : Nat) (op name : ByteArray) (n pos : Int) (a : Option Addr) (k cap : Nat) : Prop :=
  w.cell? ⟨b, o, none⟩ = some (.string op) ∧ w.cell? ⟨b, o + 1, none⟩ = some (.string name) ∧ w.cell? ⟨b, o + 2, none⟩ = some (.int .i64 n) ∧ w.cell? ⟨b, o + 3, none⟩ = some (.int .i64 pos) ∧ w.cell? ⟨b, o + 4, none⟩ = some (.slice a k cap)
/-- A row of nodes lies in memory from a place on; so do all that they lead to. -/
def Fo.In (w : World) : Fo → Nat → Nat → Prop
  | .nil, _, _ => True
  | .cons op name n pos a cap kids rest, b, o => NodeAt w b o op name n pos a kids.len cap ∧ (kids = .nil ∨ ∃ b' o', a = some ⟨b', o', none⟩ ∧ kids.len ≤ 140737488351232 ∧ (0 < kids.len ∧ w.frozen? ⟨b', o', none⟩ = false) ∧ Fo.In w kids b' o') ∧ Fo.In w rest b (o + 5)
/-- A node's kids lie in memory. -/
def Nd.In (w : World) (T : Nd) : Prop := T.kids = .nil ∨ ∃ b o, T.a = some ⟨b, o, none⟩ ∧ T.kids.len ≤ 140737488351232 ∧ (0 < T.kids.len ∧ w.frozen? ⟨b, o, none⟩ = false) ∧ T.kids.In w b o
/-- How many bounds a node's numbers keep. -/
def Fo.Has (P : Nd → Prop) : Fo → Prop
  | .nil => True
  | .cons op name n pos a cap kids rest => P ⟨op, name, n, pos, a, cap, kids⟩ ∧ Fo.Has P kids ∧ Fo.Has P rest
/-- What each node of a row meets (its kids' aside). -/
def Fo.All (P : Nd → Prop) : Fo → Prop
  | .nil => True
  | .cons op name n pos a cap kids rest => P ⟨op, name, n, pos, a, cap, kids⟩ ∧ Fo.All P rest
/-- What holds of a node as soon as it holds of its kids holds of all nodes. -/
theorem Fo.all_of {P : Nd → Prop} (h : ∀ T : Nd, Fo.All P T.kids → P T) : ∀ F : Fo, Fo.All P F := by
  intro F
  induction F with
  | nil => trivial
  | cons op name n pos a cap kids rest ihk ihr => exact ⟨h _ ihk, ihr⟩
theorem Nd.all_of {P : Nd → Prop} (h : ∀ T : Nd, Fo.All P T.kids → P T) (T : Nd) : P T := h T (Fo.all_of h _)
theorem cell_below {w w' : World} (h : Below w.heap.size w w') {p : Addr} {v : Value} (hc : w.cell? p = some v) : w'.cell? p = some v := by
  rw [h.cell (p := p)]
  · exact hc
  · have := hc
    rcases Nat.lt_or_ge p.block w.heap.size with hl | hl
    · exact hl
    · exfalso
      rw [World.cell?] at this
      rw [Array.getElem?_eq_none hl] at this
      cases this
theorem NodeAt.below {w w' : World} (hb : Below w.heap.size w w') {b o : Nat} {op name : ByteArray} {n pos : Int} {a : Option Addr} {k cap : Nat} (h : NodeAt w b o op name n pos a k cap) : NodeAt w' b o op name n pos a k cap :=
  ⟨cell_below hb h.1, cell_below hb h.2.1, cell_below hb h.2.2.1, cell_below hb h.2.2.2.1, cell_below hb h.2.2.2.2⟩
theorem lt_of_cell {w : World} {p : Addr} {v : Value} (hc : w.cell? p = some v) : p.block < w.heap.size := by
  rcases Nat.lt_or_ge p.block w.heap.size with hl | hl
  · exact hl
  · exfalso
    rw [World.cell?, Array.getElem?_eq_none hl] at hc
    cases hc
theorem Fo.In.lt {w : World} {F : Fo} {b o : Nat} (h : F.In w b o) (h0 : 0 < F.len) : b < w.heap.size := by
  cases F with
  | nil => cases h0
  | cons op name n pos a cap kids rest => exact lt_of_cell h.1.1
theorem Fo.In.below {w w' : World} (hb : Below w.heap.size w w') : ∀ {F : Fo} {b o : Nat}, F.In w b o → F.In w' b o := by
  intro F
  induction F with
  | nil => intro b o _; trivial
  | cons op name n pos a cap kids rest ihk ihr =>
    intro b o h
    obtain ⟨h1, h2, h3⟩ := h
    refine ⟨h1.below hb, ?_, ihr h3⟩
    rcases h2 with h2 | ⟨b', o', h2, hl, ⟨h0, hf⟩, h4⟩
    · exact .inl h2
    · exact .inr ⟨b', o', h2, hl, ⟨h0, by rw [hb.frozen (h4.lt h0)]; exact hf⟩, ihk h4⟩
theorem Nd.In.below {w w' : World} (hb : Below w.heap.size w w') {T : Nd} (h : T.In w) : T.In w' := by
  rcases h with h | ⟨b, o, h, hl, ⟨h0, hf⟩, h2⟩
  · exact .inl h
  · exact .inr ⟨b, o, h, hl, ⟨h0, by rw [hb.frozen (h2.lt h0)]; exact hf⟩, h2.below hb⟩
/-- A row's tail from a place on, as a loop goes. -/
structure Tail (w : World) (P : Nd → Prop) (F R : Fo) (b o k : Nat) : Prop where
  lies : R.In w b (o + k * 5)
  all : Fo.All P R
  len : k + R.len = F.len
theorem Tail.start {w : World} {P : Nd → Prop} {F : Fo} {b o : Nat} (h : F.In w b o) (ha : Fo.All P F) : Tail w P F F b o 0 := ⟨h, ha, by omega⟩
theorem Tail.next {w : World} {P : Nd → Prop} {F : Fo} {op name : ByteArray} {n pos : Int} {a : Option Addr} {cap : Nat} {kids rest : Fo} {b o k : Nat} (h : Tail w P F (.cons op name n pos a cap kids rest) b o k) :
    NodeAt w b (o + k * 5) op name n pos a kids.len cap ∧ Nd.In w ⟨op, name, n, pos, a, cap, kids⟩ ∧ P ⟨op, name, n, pos, a, cap, kids⟩ ∧ k < F.len ∧ Tail w P F rest b o (k + 1) := by
  obtain ⟨⟨h1, h2, h3⟩, ⟨h4, h5⟩, h6⟩ := h
  have h7 : (Fo.cons op name n pos a cap kids rest).len = rest.len + 1 := rfl
  rw [h7] at h6
  refine ⟨h1, h2, h4, by omega, ⟨?_, h5, by omega⟩⟩
  rw [show o + (k + 1) * 5 = o + k * 5 + 5 by omega]
  exact h3
theorem Tail.below {w w' : World} (hb : Below w.heap.size w w') {P : Nd → Prop} {F R : Fo} {b o k : Nat} (h : Tail w P F R b o k) : Tail w' P F R b o k := ⟨h.lies.below hb, h.all, h.len⟩
theorem new_at (w : World) (o : Obj) : (w.alloc o).heap[w.heap.size]? = some o := by show (w.heap.push _)[w.heap.size]? = _; simp
theorem Nd.val_def (T : Nd) : T.val = .agg #[.string T.op, .string T.name, .int .i64 T.n, .int .i64 T.pos, .slice T.a T.kids.len T.cap] := rfl
theorem cellsNode : Tryd.prog.cellsOf 24 = 5 := by kernel_rfl
/-- A box of a node's cells. -/
abbrev boxOf (op name : ByteArray) (n pos : Int) (a : Option Addr) (k cap : Nat) : Obj := .cells (nodeCells op name n pos a k cap) 24
theorem box_cell (w : World) (op name : ByteArray) (n pos : Int) (a : Option Addr) (k cap : Nat) : (w.alloc (boxOf op name n pos a k cap)).cell? ⟨w.heap.size, 4, none⟩ = some (.slice a k cap) := by
  rw [cell_of_row _ w.heap.size 4 _ _ _ (new_at _ _)]
  rfl
theorem alloc_size (w : World) (ob : Obj) : (w.alloc ob).heap.size = w.heap.size + 1 := by simp
/-! Boxes of nodes and shapes. -/
theorem below_box (w : World) (ob : Obj) : Below w.heap.size w (w.alloc ob) := (Below.refl _ _).alloc (Nat.le_refl _) _
theorem box_then {w w' : World} {ob : Obj} (h : Below (w.alloc ob).heap.size (w.alloc ob) w') : Below w.heap.size w w' := (below_box w ob).trans (h.mono (by rw [alloc_size]; omega))
theorem two_boxes (w : World) (o1 o2 : Obj) : Below w.heap.size w ((w.alloc o1).alloc o2) := ((Below.refl _ _).alloc (Nat.le_refl _) _).alloc (by simp) _
/-- A node's cells behind other calls. -/
theorem box_cells {w : World} {B : Nat} {op name : ByteArray} {n pos : Int} {a : Option Addr} {k cap : Nat} (h : w.heap[B]? = some (boxOf op name n pos a k cap)) :
    w.cell? ⟨B, 0, none⟩ = some (.string op) ∧ w.cell? ⟨B, 1, none⟩ = some (.string name) ∧ w.cell? ⟨B, 2, none⟩ = some (.int .i64 n) ∧ w.cell? ⟨B, 3, none⟩ = some (.int .i64 pos) ∧ w.cell? ⟨B, 4, none⟩ = some (.slice a k cap) := by
  refine ⟨?_, ?_, ?_, ?_, ?_⟩ <;> (rw [cell_of_row _ _ _ _ _ _ h]; rfl)
theorem lt_heap {w : World} {B : Nat} {ob : Obj} (h : w.heap[B]? = some ob) : B < w.heap.size := (Array.getElem?_eq_some_iff.1 h).1
theorem box_alloc {w : World} {B : Nat} {op name : ByteArray} {n pos : Int} {a : Option Addr} {k cap : Nat} (h : w.heap[B]? = some (boxOf op name n pos a k cap)) (ob : Obj) : (w.alloc ob).heap[B]? = some (boxOf op name n pos a k cap) := by
  rw [Below.heap_alloc _ _ _ (lt_heap h)]; exact h
theorem second_at (w : World) (o1 o2 : Obj) : ((w.alloc o1).alloc o2).heap[w.heap.size + 1]? = some o2 := by
  have := new_at (w.alloc o1) o2
  rw [alloc_size] at this
  exact this
/-- No name of a node, of its kids, of theirs is longer than may be. -/
def Fo.sized : Fo → Prop
  | .nil => True
  | .cons _ name _ _ _ _ kids rest => name.size ≤ 140737488351232 ∧ kids.sized ∧ rest.sized
def Nd.sized (T : Nd) : Prop := T.name.size ≤ 140737488351232 ∧ T.kids.sized
end Go.Proofs.YtamihfgkpilfiaaDoor
