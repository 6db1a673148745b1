/- Parts of the proof: PRdR RpNQ PNowR PSayR PSuf RpA KD KE. -/
import Derived.Test.YtmpcmpeloebnhaaGreatDoorKP01
import Derived.Test.YtmpcmpeloebnhaaGreatDoorKP00
import Derived.Test.YtmpcmpeloebnhaaGreatDoorRows
import Derived.WalkKit
import Derived.WalkLawsBesides
import Derived.WalkSpells
import Derived.ProofKit
import Derived.Outline
import Derived.Deep.QuietTactic
import Derived.BigQuiet
import Derived.Deep.Light
import Derived.Deep.CutBlock
import Derived.Deep.DeepCutAuto
import Derived.Deep.DeepFit
import Derived.Deep.LoopGhost
import Derived.Lib.Hide
import Derived.Lib.OthersKept
import Derived.IntWalk
import Derived.StillTailTactics
import Derived.Deep.RegionHeld3
import Derived.Maps.OwnSet
import Derived.Maps.OwnOps
import Derived.OrdersHeld
namespace Go.Proofs.YtmpcmpeloebnhaaGreatDoor
open Go.RowKit
inductive St where
 | good (l : List Tok)
 | bad (at' err : Int)
def St.l : St → List Tok
 | .good l => l
 | .bad _ _ => []
def TokAt (w : World) (b o : Nat) (t : Tok) : Prop := w.cell? ⟨b, o, none⟩ = some (.int .i64 t.kind) ∧ w.cell? ⟨b, o + 1, none⟩ = some (.string t.text) ∧ w.cell? ⟨b, o + 2, none⟩ = some (.int .i64 t.n) ∧ w.cell? ⟨b, o + 3, none⟩ = some (.int .i64 t.pos)
def ToksIn (w : World) (B : Nat) (a : Option Addr) (l : List Tok) : Prop := l = [] ∨ ∃ g o, a = some ⟨g, o, none⟩ ∧ g < B ∧ ∀ i t, l[i]? = some t → TokAt w g (o + i * 4) t
theorem cell_same {w w' : World} {g : Nat} (h : w'.heap[g]? = w.heap[g]?) {o : Nat} {v : Value} (hc : w.cell? ⟨g, o, none⟩ = some v) : w'.cell? ⟨g, o, none⟩ = some v := by
 rw [World.cell?_of_block (a := ⟨g, o, none⟩) h]; exact hc
theorem TokAt.same {w w' : World} {g o : Nat} {t : Tok} (h : w'.heap[g]? = w.heap[g]?) (ht : TokAt w g o t) : TokAt w' g o t := ⟨cell_same h ht.1, cell_same h ht.2.1, cell_same h ht.2.2.1, cell_same h ht.2.2.2⟩
theorem ToksIn.same {w w' : World} {B : Nat} (h : ∀ g, g < B → w'.heap[g]? = w.heap[g]?) {a : Option Addr} {l : List Tok} (ht : ToksIn w B a l) : ToksIn w' B a l := by
 rcases ht with ht | ⟨g, o, h1, h2, h3⟩
 ·exact .inl ht
 ·exact .inr ⟨g, o, h1, h2, fun i t hi => (h3 i t hi).same (h g h2)⟩
def Kp (B : Nat) (w w' : World) : Prop := w.grownBy w' (some B)
theorem Kp.refl (B : Nat) (w : World) : Kp B w w := ⟨rfl, rfl, rfl, Nat.le_refl _, fun _ _ _ => rfl⟩
theorem Kp.trans {B : Nat} {a b c : World} (h : Kp B a b) (k : Kp B b c) : Kp B a c := World.grownBy.trans h k
theorem Kp.below {B : Nat} {a b c : World} (h : Kp B a b) (k : Below b.heap.size b c) : Kp B a c :=
 World.grownBy.trans h ⟨k.os, k.tape, k.output, k.size, fun i hi _ => k.block i hi⟩
theorem Kp.alloc {B : Nat} {a b : World} (h : Kp B a b) (o : Obj) : Kp B a (b.alloc o) := h.below (below_box b o)
theorem Kp.set {B : Nat} {a b : World} (h : Kp B a b) {p : Addr} (hp : a.heap.size ≤ p.block) (v : Value) : Kp B a (b.setCell p v) :=
 ⟨h.os, h.tape, h.output, by simp [World.setCell]; exact h.size, fun i hi hne => (Below.heap_setCell _ _ _ _ (by omega)).trans (h.block i hi hne)⟩
theorem Kp.setB {B : Nat} {a b : World} (h : Kp B a b) (i : Nat) (v : Value) : Kp B a (b.setCell ⟨B, i, none⟩ v) :=
 ⟨h.os, h.tape, h.output, by simp [World.setCell]; exact h.size, fun i hi hne => (Below.heap_setCell _ _ _ _ (fun e => hne (by rw [e]))).trans (h.block i hi hne)⟩
theorem Kp.of_below {B : Nat} {a b : World} (k : Below a.heap.size a b) : Kp B a b := (Kp.refl B a).below k
theorem Kp.size {B : Nat} {a b : World} (h : Kp B a b) : a.heap.size ≤ b.heap.size := World.grownBy.size h
structure From (S : Nat → Prop) (w w' : World) : Prop where
 size : w.heap.size ≤ w'.heap.size
 block : ∀ b, S b → b < w.heap.size → w'.heap[b]? = w.heap[b]?
theorem From.refl (S : Nat → Prop) (w : World) : From S w w := ⟨Nat.le_refl _, fun _ _ _ => rfl⟩
theorem From.trans {S : Nat → Prop} {a b c : World} (h : From S a b) (k : From S b c) : From S a c :=
 ⟨Nat.le_trans h.size k.size, fun i hl hi => (k.block i hl (Nat.lt_of_lt_of_le hi h.size)).trans (h.block i hl hi)⟩
theorem From.below {S : Nat → Prop} {a b : World} (k : Below a.heap.size a b) : From S a b := ⟨k.size, fun i _ hi => k.block i hi⟩
theorem From.alloc (S : Nat → Prop) (w : World) (o : Obj) : From S w (w.alloc o) := From.below (below_box w o)
theorem From.set {S : Nat → Prop} (w : World) {p : Addr} (hp : ¬ S p.block) (v : Value) : From S w (w.setCell p v) :=
 ⟨by simp [World.setCell], fun i hl _ => Below.heap_setCell _ _ _ _ (fun e => hp (e ▸ hl))⟩
theorem Kp.from {S : Nat → Prop} {B : Nat} {a b : World} (h : Kp B a b) (hB : ¬ S B) : From S a b := ⟨h.size, fun i hl hi => h.block i hi (fun e => hB (Option.some.inj e ▸ hl))⟩
def Fo.above (S : Nat → Prop) : Fo → Prop
 | .nil => True
 | .cons _ _ _ _ a _ kids rest => (kids = .nil ∨ ∃ b o, a = some ⟨b, o, none⟩ ∧ S b) ∧ Fo.above S kids ∧ Fo.above S rest
def Nd.above (S : Nat → Prop) (T : Nd) : Prop := (T.kids = .nil ∨ ∃ b o, T.a = some ⟨b, o, none⟩ ∧ S b) ∧ T.kids.above S
theorem Fo.above.mono {S S' : Nat → Prop} (hl : ∀ b, S b → S' b) : ∀ {F : Fo}, F.above S → F.above S' := by
 intro F
 induction F with
 | nil => intro _; trivial
 | cons op name n pos a cap kids rest ihk ihr =>
  rintro ⟨h1, h2, h3⟩
  refine ⟨?_, ihk h2, ihr h3⟩
  rcases h1 with h1 | ⟨b, o, h1, h4⟩
  ·exact .inl h1
  ·exact .inr ⟨b, o, h1, hl b h4⟩
theorem Nd.above.mono {S S' : Nat → Prop} (hl : ∀ b, S b → S' b) {T : Nd} (h : T.above S) : T.above S' := by
 refine ⟨?_, h.2.mono hl⟩
 rcases h.1 with h1 | ⟨b, o, h1, h4⟩
 ·exact .inl h1
 ·exact .inr ⟨b, o, h1, hl b h4⟩
theorem NodeAt.same {w w' : World} {b o : Nat} {op name : ByteArray} {n pos : Int} {a : Option Addr} {k cap : Nat} (hs : w'.heap[b]? = w.heap[b]?) (h : NodeAt w b o op name n pos a k cap) : NodeAt w' b o op name n pos a k cap :=
 ⟨cell_same hs h.1, cell_same hs h.2.1, cell_same hs h.2.2.1, cell_same hs h.2.2.2.1, cell_same hs h.2.2.2.2⟩
theorem Fo.In.from {S : Nat → Prop} {w w' : World} (hg : From S w w') : ∀ {F : Fo} {b o : Nat}, F.In w b o → S b → F.above S → F.In w' b o := by
 intro F
 induction F with
 | nil => intro b o _ _ _; trivial
 | cons op name n pos a cap kids rest ihk ihr =>
  rintro b o ⟨h0, hk, hr⟩ hb ⟨ho, hok, hor⟩
  have hsame := hg.block b hb (lt_of_cell h0.1)
  refine ⟨h0.same hsame, ?_, ihr hr hb hor⟩
  rcases hk with hk | ⟨b', o', ha, hl, ⟨h5, hf⟩, hin⟩
  ·exact .inl hk
  ·rcases ho with ho | ⟨b2, o2, ha2, hb2⟩
   ·exact .inl ho
   ·rw [ha] at ha2
    have e1 : b' = b2 := congrArg Addr.block (Option.some.inj ha2)
    have hb' : S b' := e1 ▸ hb2
    refine .inr ⟨b', o', ha, hl, ⟨h5, ?_⟩, ihk hin hb' hok⟩
    rw [World.frozen?_of_block (a := ⟨b', o', none⟩) (hg.block b' hb' (hin.lt h5))]
    exact hf
theorem Fo.above.lt {S : Nat → Prop} {w : World} : ∀ {F : Fo} {b o : Nat}, F.In w b o → F.above S → F.above (fun i => S i ∧ i < w.heap.size) := by
 intro F
 induction F with
 | nil => intro b o _ _; trivial
 | cons op name n pos a cap kids rest ihk ihr =>
  rintro b o ⟨_, hk, hr⟩ ⟨ho, hok, hor⟩
  rcases hk with hk | ⟨b', o', ha, hl, ⟨h5, hf⟩, hin⟩
  ·subst hk
   exact ⟨.inl rfl, trivial, ihr hr hor⟩
  ·refine ⟨?_, ihk hin hok, ihr hr hor⟩
   rcases ho with ho | ⟨b2, o2, ha2, hb2⟩
   ·exact .inl ho
   ·rw [ha] at ha2
    have e1 : b' = b2 := congrArg Addr.block (Option.some.inj ha2)
    exact .inr ⟨b', o', ha, e1 ▸ hb2, hin.lt h5⟩
structure Nd.Good (S : Nat → Prop) (w : World) (T : Nd) : Prop where
 lies : T.In w
 above : T.above S
theorem Nd.Good.from {S : Nat → Prop} {w w' : World} {T : Nd} (h : T.Good S w) (hg : From S w w') : T.Good S w' := by
 refine ⟨?_, h.above⟩
 rcases h.lies with h1 | ⟨b', o', ha, hl, ⟨h5, hf⟩, hin⟩
 ·exact .inl h1
 ·rcases h.above.1 with ho | ⟨b2, o2, ha2, hb2⟩
  ·exact .inl ho
  ·rw [ha] at ha2
   have e1 : b' = b2 := congrArg Addr.block (Option.some.inj ha2)
   have hb' : S b' := e1 ▸ hb2
   refine .inr ⟨b', o', ha, hl, ⟨h5, ?_⟩, hin.from hg hb' h.above.2⟩
   rw [World.frozen?_of_block (a := ⟨b', o', none⟩) (hg.block b' hb' (hin.lt h5))]
   exact hf
theorem Nd.Good.mono {S S' : Nat → Prop} {w : World} {T : Nd} (h : T.Good S w) (hl : ∀ b, S b → S' b) : T.Good S' w := ⟨h.lies, h.above.mono hl⟩
theorem Nd.Good.lt {S : Nat → Prop} {w : World} {T : Nd} (h : T.Good S w) : T.Good (fun i => S i ∧ i < w.heap.size) w := by
 refine ⟨h.lies, ?_⟩
 rcases h.lies with h1 | ⟨b', o', ha, hl, ⟨h5, hf⟩, hin⟩
 ·have h2 := h.above.2
  rw [h1] at h2
  exact ⟨.inl h1, by rw [h1]; trivial⟩
 ·refine ⟨?_, h.above.2.lt hin⟩
  rcases h.above.1 with ho | ⟨b2, o2, ha2, hb2⟩
  ·exact .inl ho
  ·rw [ha] at ha2
   have e1 : b' = b2 := congrArg Addr.block (Option.some.inj ha2)
   exact .inr ⟨b', o', ha, e1 ▸ hb2, hin.lt h5⟩
theorem Nd.Good.leaf (S : Nat → Prop) (w : World) (op name : ByteArray) (n pos : Int) (a : Option Addr) (cap : Nat) : Nd.Good S w ⟨op, name, n, pos, a, cap, .nil⟩ := ⟨.inl rfl, .inl rfl, trivial⟩
theorem good1 {S : Nat → Prop} {w : World} {G cap : Nat} {op name : ByteArray} {n pos : Int} {T : Nd} (hG : S G) (h : w.heap[G]? = some (.cells #[.string T.op, .string T.name, .int .i64 T.n, .int .i64 T.pos, .slice T.a T.kids.len T.cap] 26)) (hT : T.Good S w) :
  Nd.Good S w ⟨op, name, n, pos, some ⟨G, 0, none⟩, cap, .cons T.op T.name T.n T.pos T.a T.cap T.kids .nil⟩ := by
 obtain ⟨c0, c1, c2, c3, c4⟩ := box_cells h
 refine ⟨.inr ⟨G, 0, rfl, ?_, ⟨Nat.succ_pos _, ?_⟩, ⟨⟨c0, c1, c2, c3, c4⟩, hT.lies, trivial⟩⟩, .inr ⟨G, 0, rfl, hG⟩, hT.above.1, hT.above.2, trivial⟩
 ·show 0 + 1 ≤ _; omega
 ·unfold World.frozen?
  simp only [h]
  rfl
theorem good2 {S : Nat → Prop} {w : World} {G cap : Nat} {op name : ByteArray} {n pos : Int} {T U : Nd} (hG : S G) (h : w.heap[G]? = some (.cells #[.string T.op, .string T.name, .int .i64 T.n, .int .i64 T.pos, .slice T.a T.kids.len T.cap, .string U.op, .string U.name, .int .i64 U.n, .int .i64 U.pos, .slice U.a U.kids.len U.cap] 26)) (hT : T.Good S w) (hU : U.Good S w) :
  Nd.Good S w ⟨op, name, n, pos, some ⟨G, 0, none⟩, cap, .cons T.op T.name T.n T.pos T.a T.cap T.kids (.cons U.op U.name U.n U.pos U.a U.cap U.kids .nil)⟩ := by
 have hc : ∀ i v, (#[.string T.op, .string T.name, .int .i64 T.n, .int .i64 T.pos, .slice T.a T.kids.len T.cap, .string U.op, .string U.name, .int .i64 U.n, .int .i64 U.pos, .slice U.a U.kids.len U.cap] : Array Value)[i]? = some v → w.cell? ⟨G, i, none⟩ = some v := by
  intro i v hv
  rw [cell_of_row _ _ _ _ _ _ h]
  exact hv
 refine ⟨.inr ⟨G, 0, rfl, ?_, ⟨Nat.succ_pos _, ?_⟩, ⟨⟨hc 0 _ rfl, hc 1 _ rfl, hc 2 _ rfl, hc 3 _ rfl, hc 4 _ rfl⟩, hT.lies, ⟨hc 5 _ rfl, hc 6 _ rfl, hc 7 _ rfl, hc 8 _ rfl, hc 9 _ rfl⟩, hU.lies, trivial⟩⟩, .inr ⟨G, 0, rfl, hG⟩, hT.above.1, hT.above.2, hU.above.1, hU.above.2, trivial⟩
 ·show 0 + 1 + 1 ≤ _; omega
 ·unfold World.frozen?
  simp only [h]
  rfl
def EndsOk (l : List Tok) : Prop := ∀ t, l.getLast? = some t → t.kind = 4
theorem EndsOk.tail {l : List Tok} (h : EndsOk l) : EndsOk l.tail := by
 cases l with
 | nil => exact h
 | cons a r =>
  cases r with
  | nil => intro t ht; simp at ht
  | cons b r => intro t ht; exact h t (by simpa [List.getLast?_cons_cons] using ht)
end Go.Proofs.YtmpcmpeloebnhaaGreatDoor
namespace Go.Proofs.YtmpcmpeloebnhaaGreatDoor
open Go.RowKit
def nqB (l : List Tok) : Bool := l.all fun t => !(isExW t.text.toList) && !(isAllW t.text.toList)
def NQ (l : List Tok) : Prop := nqB l = true
theorem NQ.tail {l : List Tok} (h : NQ l) : NQ l.tail := by
 cases l with
 | nil => exact h
 | cons t r =>
  have h1 : (_ && nqB r) = true := h
  rw [Bool.and_eq_true] at h1
  exact h1.2
theorem nq_no {l : List Tok} (h : NQ l) (hw : (isExW (wrd l).toList || isAllW (wrd l).toList) = true) : False := by
 cases l with
 | nil => revert hw; decide +kernel
 | cons t r =>
  have h1 : ((!(isExW t.text.toList) && !(isAllW t.text.toList)) && nqB r) = true := h
  rw [Bool.and_eq_true, Bool.and_eq_true] at h1
  obtain ⟨⟨a, b⟩, _⟩ := h1
  have hwr : wrd (t :: r) = t.text ∨ wrd (t :: r) = ⟨#[]⟩ := by
   unfold wrd
   split
   ·exact .inl rfl
   ·exact .inr rfl
  rcases hwr with e | e
  ·rw [e] at hw
   simp at a b
   rw [a, b] at hw
   cases hw
  ·rw [e] at hw
   revert hw
   decide +kernel
end Go.Proofs.YtmpcmpeloebnhaaGreatDoor
namespace Go.Proofs.YtmpcmpeloebnhaaGreatDoor
open Go.RowKit
abbrev tokBox (k : Int) (s : ByteArray) (n p : Int) : Obj := .cells #[.int .i64 k, .string s, .int .i64 n, .int .i64 p] 70
theorem tok_cells {w : World} {B : Nat} {k : Int} {s : ByteArray} {n p : Int} (h : w.heap[B]? = some (tokBox k s n p)) :
  (w.cell? ⟨B, 0, none⟩ = some (.int .i64 k) ∧ w.cell? ⟨B, 1, none⟩ = some (.string s) ∧ w.cell? ⟨B, 2, none⟩ = some (.int .i64 n) ∧ w.cell? ⟨B, 3, none⟩ = some (.int .i64 p)) ∧ (w.frozen? ⟨B, 0, none⟩ = false ∧ w.frozen? ⟨B, 1, none⟩ = false ∧ w.frozen? ⟨B, 2, none⟩ = false ∧ w.frozen? ⟨B, 3, none⟩ = false) := by
 refine ⟨⟨?_, ?_, ?_, ?_⟩, ⟨?_, ?_, ?_, ?_⟩⟩
 all_goals first | (rw [cell_of_row w B _ _ _ _ h]; rfl) | simp [World.frozen?, h]
theorem new_then {w w' : World} {ob : Obj} (h : Below (w.alloc ob).heap.size (w.alloc ob) w') : w'.heap[w.heap.size]? = some ob := (h.block _ (by simp)).trans (new_at w ob)
theorem tok_set {w : World} {B : Nat} {k n p : Int} {s : ByteArray} (h : w.heap[B]? = some (tokBox k s n p)) (k' n' p' : Int) (s' : ByteArray) : ((((w.setCell ⟨B, 0, none⟩ (.int .i64 k')).setCell ⟨B, 1, none⟩ (.string s')).setCell ⟨B, 2, none⟩ (.int .i64 n')).setCell ⟨B, 3, none⟩ (.int .i64 p')).heap[B]? = some (tokBox k' s' n' p') := by
 have h0 := heap_setCell_same w B 0 _ _ (.int .i64 k') h
 have h1 := heap_setCell_same _ B 1 _ _ (.string s') h0
 have h2 := heap_setCell_same _ B 2 _ _ (.int .i64 n') h1
 have h3 := heap_setCell_same _ B 3 _ _ (.int .i64 p') h2
 exact h3
theorem node_set {w : World} {B : Nat} {op name : ByteArray} {n pos : Int} {a : Option Addr} {k cap : Nat} (h : w.heap[B]? = some (boxOf op name n pos a k cap)) (op' name' : ByteArray) (n' pos' : Int) (a' : Option Addr) (k' cap' : Nat) : (((((w.setCell ⟨B, 0, none⟩ (.string op')).setCell ⟨B, 1, none⟩ (.string name')).setCell ⟨B, 2, none⟩ (.int .i64 n')).setCell ⟨B, 3, none⟩ (.int .i64 pos')).setCell ⟨B, 4, none⟩ (.slice a' k' cap')).heap[B]? = some (boxOf op' name' n' pos' a' k' cap') := by
 have h0 := heap_setCell_same w B 0 _ _ (.string op') h
 have h1 := heap_setCell_same _ B 1 _ _ (.string name') h0
 have h2 := heap_setCell_same _ B 2 _ _ (.int .i64 n') h1
 have h3 := heap_setCell_same _ B 3 _ _ (.int .i64 pos') h2
 have h4 := heap_setCell_same _ B 4 _ _ (.slice a' k' cap') h3
 exact h4
theorem ret_tok {f : Func} {i : Tmp} {R : Ending → World → Prop} {a : Act} {w : World} {B : Nat} {k n p : Int} {s : ByteArray} (hf : f.results = #[.cell i 70]) (hs : a.tmps.getD i undef = .pointer (some ⟨B, 0, none⟩)) (hd : a.defers = []) (h : w.heap[B]? = some (tokBox k s n p)) (hR : R (.returned (.agg #[.int .i64 k, .string s, .int .i64 n, .int .i64 p])) w) : bodyPost Tryz.prog f R .ret a w := by
 obtain ⟨⟨c0, c1, c2, c3⟩, _⟩ := tok_cells h
 refine bodyPost_ret (v := .agg #[.int .i64 k, .string s, .int .i64 n, .int .i64 p]) ?_ hd hR
 have hc4 := cellsTok
 simp at hs
 simp [results, hf, go_sem, hs, c0, c1, c2, c3]
theorem ret_node {f : Func} {i : Tmp} {R : Ending → World → Prop} {a : Act} {w : World} {B : Nat} (op name : ByteArray) (n pos : Int) (b : Option Addr) (k cap : Nat) (hf : f.results = #[.cell i 26]) (hs : a.tmps.getD i undef = .pointer (some ⟨B, 0, none⟩)) (hd : a.defers = []) (h : w.heap[B]? = some (boxOf op name n pos b k cap)) (hR : R (.returned (.agg (nodeCells op name n pos b k cap))) w) : bodyPost Tryz.prog f R .ret a w := by
 obtain ⟨c0, c1, c2, c3, c4⟩ := box_cells h
 refine bodyPost_ret (v := .agg (nodeCells op name n pos b k cap)) ?_ hd hR
 have hc4 := cellsNode
 simp at hs
 simp [results, hf, go_sem, hs, c0, c1, c2, c3, c4]
theorem tok_f0 (a b c e : Value) (w : World) : Sem.run Tryz.prog (Instr.field 70 (.agg #[a, b, c, e]) 0) w = .ok a w := by kernel_rfl
theorem tok_f1 (a b c e : Value) (w : World) : Sem.run Tryz.prog (Instr.field 70 (.agg #[a, b, c, e]) 1) w = .ok b w := by kernel_rfl
theorem tok_f2 (a b c e : Value) (w : World) : Sem.run Tryz.prog (Instr.field 70 (.agg #[a, b, c, e]) 2) w = .ok c w := by kernel_rfl
theorem tok_f3 (a b c e : Value) (w : World) : Sem.run Tryz.prog (Instr.field 70 (.agg #[a, b, c, e]) 3) w = .ok e w := by kernel_rfl
theorem Kp.blk {B : Nat} {a b : World} (h : Kp B a b) {i : Nat} {ob : Obj} (hi : a.heap[i]? = some ob) (hne : i ≠ B) : b.heap[i]? = some ob :=
 (h.block i (lt_heap hi) (fun e => hne (Option.some.inj e))).trans hi
end Go.Proofs.YtmpcmpeloebnhaaGreatDoor
namespace Go.Proofs.YtmpcmpeloebnhaaGreatDoor
open Go.RowKit
theorem Kp.drew {B : Nat} {a b : World} (h : Kp B a b) : Kp B a b.drew := ⟨h.os, h.tape, h.output, h.size, h.block⟩
theorem kp_drew {B : Nat} {a b : World} (h : Kp B a.drew b) : Kp B a b := ⟨h.os, h.tape, h.output, h.size, h.block⟩
theorem set5_size (w : World) (B : Nat) (a b c d e : Value) : (((((w.setCell ⟨B, 0, none⟩ a).setCell ⟨B, 1, none⟩ b).setCell ⟨B, 2, none⟩ c).setCell ⟨B, 3, none⟩ d).setCell ⟨B, 4, none⟩ e).heap.size = w.heap.size := by simp
theorem node_set_other {w : World} {i B : Nat} {ob : Obj} (h : w.heap[i]? = some ob) (hne : i ≠ B) (a b c d e : Value) : (((((w.setCell ⟨B, 0, none⟩ a).setCell ⟨B, 1, none⟩ b).setCell ⟨B, 2, none⟩ c).setCell ⟨B, 3, none⟩ d).setCell ⟨B, 4, none⟩ e).heap[i]? = some ob := by
 rw [Below.heap_setCell _ _ _ _ (by simpa using hne), Below.heap_setCell _ _ _ _ (by simpa using hne), Below.heap_setCell _ _ _ _ (by simpa using hne), Below.heap_setCell _ _ _ _ (by simpa using hne), Below.heap_setCell _ _ _ _ (by simpa using hne)]
 exact h
theorem box_frozen {w : World} {B : Nat} {op name : ByteArray} {n pos : Int} {a : Option Addr} {k cap : Nat} (h : w.heap[B]? = some (boxOf op name n pos a k cap)) :
  w.frozen? ⟨B, 0, none⟩ = false ∧ w.frozen? ⟨B, 1, none⟩ = false ∧ w.frozen? ⟨B, 2, none⟩ = false ∧ w.frozen? ⟨B, 3, none⟩ = false ∧ w.frozen? ⟨B, 4, none⟩ = false := by
 refine ⟨?_, ?_, ?_, ?_, ?_⟩ <;> simp [World.frozen?, h]
end Go.Proofs.YtmpcmpeloebnhaaGreatDoor
namespace Go.Proofs.YtmpcmpeloebnhaaGreatDoor
open Go.RowKit
def Suf (l' l : List Tok) : Prop := ∃ k, 0 < k ∧ k ≤ l.length ∧ l' = l.drop k
def SufE (l' l : List Tok) : Prop := ∃ k, k ≤ l.length ∧ l' = l.drop k
theorem Suf.len {l' l : List Tok} (h : Suf l' l) : l'.length < l.length := by
 obtain ⟨k, h1, h2, rfl⟩ := h
 rw [List.length_drop]; omega
theorem Suf.e {l' l : List Tok} (h : Suf l' l) : SufE l' l := by
 obtain ⟨k, _, h2, h3⟩ := h
 exact ⟨k, h2, h3⟩
theorem SufE.refl (l : List Tok) : SufE l l := ⟨0, Nat.zero_le _, rfl⟩
theorem SufE.trans {a b c : List Tok} (h : SufE a b) (k : SufE b c) : SufE a c := by
 obtain ⟨m, h1, rfl⟩ := h
 obtain ⟨n, h2, rfl⟩ := k
 rw [List.length_drop] at h1
 exact ⟨n + m, by omega, by rw [List.drop_drop]⟩
theorem Suf.trans {a b c : List Tok} (h : Suf a b) (k : SufE b c) : Suf a c := by
 obtain ⟨m, h0, h1, rfl⟩ := h
 obtain ⟨n, h2, rfl⟩ := k
 rw [List.length_drop] at h1
 exact ⟨n + m, by omega, by omega, by rw [List.drop_drop]⟩
theorem SufE.transS {a b c : List Tok} (h : SufE a b) (k : Suf b c) : Suf a c := by
 obtain ⟨m, h1, rfl⟩ := h
 obtain ⟨n, h0, h2, rfl⟩ := k
 rw [List.length_drop] at h1
 exact ⟨n + m, by omega, by omega, by rw [List.drop_drop]⟩
theorem Suf.tail {l : List Tok} (h : l ≠ []) : Suf l.tail l := ⟨1, by omega, by have := List.length_pos_iff.2 h; omega, by rw [List.drop_one]⟩
theorem ne_of_wrd {l : List Tok} {c : UInt8} {r : List UInt8} (h : ((wrd l).toList == c :: r) = true) : l ≠ [] := by
 rintro rfl
 rw [show (wrd ([] : List Tok)).toList = [] from by decide +kernel] at h
 exact absurd h (by simp)
theorem ne_of_kind {l : List Tok} {k : Int} (h : ((hd l).kind == k) = true) (hk : k ≠ 0) : l ≠ [] := by
 rintro rfl
 exact hk (beq_iff_eq.1 h).symm
theorem psgF_emp (lv : Int) : ∀ X : List (Int × ByteArray × ByteArray), (∀ s ∈ X, s.2.1.toList ≠ []) → psgF lv ⟨#[]⟩ X = ⟨#[]⟩ := by
 intro X
 induction X with
 | nil => intro _; rfl
 | cons s r ih =>
  intro h
  unfold psgF
  rw [if_neg, ih fun s hs => h s (List.mem_cons_of_mem _ hs)]
  intro hc
  rw [Bool.and_eq_true, beq_iff_eq] at hc
  exact h s (List.mem_cons_self ..) (by rw [beq_iff_eq] at hc; rw [hc.2]; decide +kernel)
theorem psg_nil (lv : Int) : psg lv (wrd []) = ⟨#[]⟩ := psgF_emp lv psigs (by decide +kernel)
theorem ne_of_psg {l : List Tok} {lv : Int} (h : ((psg lv (wrd l)).toList == []) = false) : l ≠ [] := by
 rintro rfl
 rw [psg_nil, show (ByteArray.mk #[]).toList = [] from by decide +kernel] at h
 exact absurd h (by decide)
theorem suf_terms : ∀ f : Nat, (∀ br l t l', pPart f br l = .ok t l' → Suf l' l) ∧ (∀ br l t l', pList f br l = .ok t l' → Suf l' l) ∧ (∀ br l t l', pKid f br l = .ok t l' → Suf l' l) ∧
  (∀ br acc l t l', pListL f br acc l = .ok t l' → Suf l' l) ∧ (∀ l t l', pTerm f l = .ok t l' → Suf l' l) ∧ (∀ n l t l', pTermL f n l = .ok t l' → SufE l' l) := by
 intro f
 induction f with
 | zero =>
  refine ⟨?_, ?_, ?_, ?_, ?_, ?_⟩
  ·intro br l t l' h; unfold pPart at h; cases h
  ·intro br l t l' h; unfold pList at h; cases h
  ·intro br l t l' h; cases br <;> (unfold pKid at h; cases h)
  ·intro br acc l t l' h; unfold pListL at h; cases h
  ·intro l t l' h; unfold pTerm at h; cases h
  ·intro n l t l' h; unfold pTermL at h; cases h
 | succ f ih =>
  obtain ⟨i1, i2, i3, i4, i5, i6⟩ := ih
  refine ⟨?_, ?_, ?_, ?_, ?_, ?_⟩
  ·intro br l t l' h
   unfold pPart at h
   split at h
   ·rename_i hw
    have hn := Suf.tail (ne_of_wrd hw)
    split at h
    ·cases h
    ·split at h
     ·rename_i hq; cases h; exact (i2 _ _ _ _ hq).trans hn.e
     ·cases h
   ·split at h
    ·rename_i hk
     have hn := Suf.tail (ne_of_kind hk (by decide))
     split at h
     ·rename_i hw2
      have hn2 := Suf.tail (ne_of_wrd hw2)
      split at h
      ·rename_i hk2
       rw [Bool.and_eq_true] at hk2
       have hn3 := Suf.tail (ne_of_kind hk2.1 (by decide))
       cases h; exact hn3.trans (hn2.trans hn.e).e
      ·cases h
     ·cases h; exact hn
    ·split at h
     ·rename_i hk
      cases h; exact Suf.tail (ne_of_kind hk (by decide))
     ·cases h
  ·intro br l t l' h
   unfold pList at h
   split at h
   ·rename_i hw
    cases h
    refine Suf.tail ?_
    cases br
    ·exact ne_of_wrd hw
    ·exact ne_of_wrd hw
   ·split at h
    ·rename_i hq; exact (i4 _ _ _ _ _ h).trans (i3 _ _ _ _ hq).e
    ·cases h
  ·intro br l t l' h
   cases br
   ·exact i5 _ _ _ h
   ·exact i1 _ _ _ _ h
  ·intro br acc l t l' h
   unfold pListL at h
   split at h
   ·rename_i hw
    have hn := Suf.tail (ne_of_wrd hw)
    split at h
    ·cases h
    ·split at h
     ·rename_i hq; exact (i4 _ _ _ _ _ h).trans ((i3 _ _ _ _ hq).trans hn.e).e
     ·cases h
   ·split at h
    ·rename_i hw
     cases h
     refine Suf.tail ?_
     cases br
     ·exact ne_of_wrd hw
     ·exact ne_of_wrd hw
    ·cases h
  ·intro l t l' h
   unfold pTerm at h
   split at h
   ·rename_i hq; exact (i6 _ _ _ _ h).transS (i1 _ _ _ _ hq)
   ·cases h
  ·intro n l t l' h
   unfold pTermL at h
   split at h
   ·cases h; exact SufE.refl _
   ·rename_i hw
    split at h
    ·rename_i hq; exact ((i6 _ _ _ _ h).transS (i1 _ _ _ _ hq)).e.trans (Suf.tail (ne_of_psg (by simpa using hw))).e
    ·cases h
theorem suf_atom {f : Nat} {l l' : List Tok} {t : Nd} (h : pAtom f l = .ok t l') : Suf l' l := by
 obtain ⟨i1, i2, i3, i4, i5, i6⟩ := suf_terms f
 unfold pAtom at h
 split at h
 ·rename_i hk
  rw [Bool.and_eq_true] at hk
  have hn := Suf.tail (ne_of_kind hk.1 (by decide))
  have hn2 := Suf.tail (ne_of_wrd hk.2)
  split at h
  ·rename_i hq; cases h; exact (i2 _ _ _ _ hq).trans (hn2.trans hn.e).e
  ·cases h
 ·split at h
  ·rename_i hq
   split at h
   ·split at h
    ·cases h; exact i5 _ _ _ hq
    ·cases h
   ·rename_i hw
    split at h
    ·rename_i hq2
     cases h
     exact ((i5 _ _ _ hq2).trans (Suf.tail (ne_of_psg (by simpa using hw))).e).trans (i5 _ _ _ hq).e
    ·cases h
  ·cases h
theorem suf_forms : ∀ f : Nat, (∀ d l t l', pUn f d l = .ok t l' → Suf l' l) ∧ (∀ op d l t l', pQuant f op d l = .ok t l' → Suf l' l) ∧ (∀ d l t l', pAnd f d l = .ok t l' → Suf l' l) ∧ (∀ d n l t l', pAndL f d n l = .ok t l' → SufE l' l) ∧
    (∀ d l t l', pOr f d l = .ok t l' → Suf l' l) ∧ (∀ d n l t l', pOrL f d n l = .ok t l' → SufE l' l) ∧ (∀ d l t l', pForm f d l = .ok t l' → Suf l' l) ∧ (∀ d n l t l', pFormL f d n l = .ok t l' → SufE l' l) ∧ (∀ d l t l', pImp f d l = .ok t l' → Suf l' l) := by
  intro f
  induction f with
  | zero =>
    refine ⟨?_, ?_, ?_, ?_, ?_, ?_, ?_, ?_, ?_⟩
    · intro d l t l' h; unfold pUn at h; cases h
    · intro op d l t l' h; unfold pQuant at h; cases h
    · intro d l t l' h; unfold pAnd at h; cases h
    · intro d n l t l' h; unfold pAndL at h; cases h
    · intro d l t l' h; unfold pOr at h; cases h
    · intro d n l t l' h; unfold pOrL at h; cases h
    · intro d l t l' h; unfold pForm at h; cases h
    · intro d n l t l' h; unfold pFormL at h; cases h
    · intro d l t l' h; unfold pImp at h; cases h
  | succ f ih =>
    obtain ⟨iU, iQ, iA, iAL, iO, iOL, iF, iFL, iI⟩ := ih
    refine ⟨?_, ?_, ?_, ?_, ?_, ?_, ?_, ?_, ?_⟩
    · intro d l t l' h
      unfold pUn at h
      split at h
      · cases h
      split at h
      · rename_i hw
        have hn := Suf.tail (ne_of_wrd hw)
        split at h
        · rename_i hq; cases h; exact (iU _ _ _ _ hq).trans hn.e
        · cases h
      split at h
      · exact iQ _ _ _ _ _ h
      split at h
      · exact iQ _ _ _ _ _ h
      split at h
      · rename_i hw
        cases h
        refine Suf.tail ?_
        rw [Bool.or_eq_true] at hw
        rcases hw with hw | hw
        · exact ne_of_wrd hw
        · exact ne_of_wrd hw
      split at h
      · rename_i hw
        have hn := Suf.tail (ne_of_wrd hw)
        split at h
        · rename_i hq
          split at h
          · rename_i hw2
            cases h
            exact ((Suf.tail (ne_of_wrd hw2)).trans (iF _ _ _ _ hq).e).trans hn.e
          · cases h
        · cases h
      · exact suf_atom h
    · intro op d l t l' h
      unfold pQuant at h
      split at h
      · rename_i hk
        have hn := Suf.tail (ne_of_kind hk (by decide))
        have hl : SufE l.tail l := by cases l with | nil => exact SufE.refl _ | cons a r => exact (Suf.tail (by simp)).e
        split at h
        · rename_i hw
          have hn2 := Suf.tail (ne_of_wrd hw)
          split at h
          · rename_i hq
            cases h
            exact ((iF _ _ _ _ hq).trans (hn2.trans hn.e).e).trans hl
          · cases h
        · cases h
      · cases h
    all_goals first
      | (intro d l t l' h
         first | unfold pAnd at h | unfold pOr at h | unfold pForm at h
         split at h
         · rename_i hq
           first | exact (iAL _ _ _ _ _ h).transS (iU _ _ _ _ hq) | exact (iOL _ _ _ _ _ h).transS (iA _ _ _ _ hq) | exact (iFL _ _ _ _ _ h).transS (iI _ _ _ _ hq)
         · cases h)
      | (intro d n l t l' h
         first | unfold pAndL at h | unfold pOrL at h | unfold pFormL at h
         split at h
         · cases h; exact SufE.refl _
         · rename_i hw
           have hn := Suf.tail (ne_of_psg (by simpa using hw))
           split at h
           · rename_i hq
             first | exact ((iAL _ _ _ _ _ h).transS (iU _ _ _ _ hq)).e.trans hn.e | exact ((iOL _ _ _ _ _ h).transS (iA _ _ _ _ hq)).e.trans hn.e | exact ((iFL _ _ _ _ _ h).transS (iI _ _ _ _ hq)).e.trans hn.e
           · cases h)
      | (intro d l t l' h
         unfold pImp at h
         split at h
         · rename_i hq
           split at h
           · cases h; exact iO _ _ _ _ hq
           · rename_i hw
             have hn := Suf.tail (ne_of_psg (by simpa using hw))
             split at h
             · rename_i hq2; cases h; exact ((iI _ _ _ _ hq2).trans hn.e).trans (iO _ _ _ _ hq).e
             · cases h
         · cases h)
end Go.Proofs.YtmpcmpeloebnhaaGreatDoor
namespace Go.Proofs.YtmpcmpeloebnhaaGreatDoor
open Go.RowKit
theorem bool_two (b : Bool) : b = true ∨ b = false := by cases b <;> simp
abbrev prC (a : Option Addr) (len cap : Nat) (i e p : Int) : Array Value := #[.slice a len cap, .int .i64 i, .int .i64 e, .int .i64 p]
def PrAt (w : World) (B : Nat) (a : Option Addr) (len cap : Nat) (i e p : Int) : Prop := w.heap[B]? = some (.cells (prC a len cap i e p) 61)
def EndsQ (l : List Tok) : Prop := EndsOk l ∧ NQ l
theorem EndsQ.tail {l : List Tok} (h : EndsQ l) : EndsQ l.tail := ⟨h.1.tail, h.2.tail⟩
def PrS (w : World) (B : Nat) : St → Prop
 | .good l => ∃ (a : Option Addr) (L : List Tok) (cap i : Nat), PrAt w B a L.length cap i 0 0 ∧ L.drop i = l ∧ l ≠ [] ∧ EndsQ l ∧ L.length ≤ 1000000 ∧ ToksIn w B a L
 | .bad p e => ∃ (a : Option Addr) (len cap i : Nat), PrAt w B a len cap i e p ∧ (e == 0) = false
theorem PrAt.lt {w : World} {B : Nat} {a : Option Addr} {len cap : Nat} {i e p : Int} (h : PrAt w B a len cap i e p) : B < w.heap.size := lt_heap h
theorem prs_nq {w : World} {B : Nat} {l : List Tok} (h : PrS w B (.good l)) : NQ l := by
 obtain ⟨a, L, cap, i, h1, h2, h3, h4, h5, h6⟩ := h
 exact h4.2
theorem PrS.lt {w : World} {B : Nat} {s : St} (h : PrS w B s) : B < w.heap.size := by
 cases s with
 | good l => obtain ⟨a, L, cap, i, h, _⟩ := h; exact h.lt
 | bad p e => obtain ⟨a, len, cap, i, h, _⟩ := h; exact h.lt
theorem PrAt.cells {w : World} {B : Nat} {a : Option Addr} {len cap : Nat} {i e p : Int} (h : PrAt w B a len cap i e p) : (w.cell? ⟨B, 0, none⟩ = some (.slice a len cap) ∧ w.cell? ⟨B, 1, none⟩ = some (.int .i64 i) ∧ w.cell? ⟨B, 2, none⟩ = some (.int .i64 e) ∧ w.cell? ⟨B, 3, none⟩ = some (.int .i64 p)) ∧ (w.frozen? ⟨B, 0, none⟩ = false ∧ w.frozen? ⟨B, 1, none⟩ = false ∧ w.frozen? ⟨B, 2, none⟩ = false ∧ w.frozen? ⟨B, 3, none⟩ = false) := by
 unfold PrAt at h
 refine ⟨⟨?_, ?_, ?_, ?_⟩, ⟨?_, ?_, ?_, ?_⟩⟩
 all_goals first | (rw [cell_of_row w B _ _ _ _ h]; rfl) | simp [World.frozen?, h]
theorem PrS.same {w w' : World} {B : Nat} {s : St} (h : ∀ g, g ≤ B → w'.heap[g]? = w.heap[g]?) (hr : PrS w B s) : PrS w' B s := by
 cases s with
 | good l =>
  obtain ⟨a, L, cap, i, h1, h2, h3, h4, h5, h6⟩ := hr
  refine ⟨a, L, cap, i, ?_, h2, h3, h4, h5, h6.same fun g hg => h g (by omega)⟩
  unfold PrAt at *
  rw [h B (Nat.le_refl _)]; exact h1
 | bad p e =>
  obtain ⟨a, len, cap, i, h1, h2⟩ := hr
  refine ⟨a, len, cap, i, ?_, h2⟩
  unfold PrAt at *
  rw [h B (Nat.le_refl _)]; exact h1
theorem PrS.below {w w' : World} {B : Nat} {s : St} (hr : PrS w B s) (hb : Below w.heap.size w w') : PrS w' B s := hr.same fun g hg => hb.block g (Nat.lt_of_le_of_lt hg hr.lt)
theorem PrS.alloc {w : World} {B : Nat} {s : St} (hr : PrS w B s) (o : Obj) : PrS (w.alloc o) B s := hr.below (below_box w o)
theorem PrS.set {w : World} {B : Nat} {s : St} (hr : PrS w B s) {p : Addr} (hp : B < p.block) (v : Value) : PrS (w.setCell p v) B s := hr.same fun g hg => Below.heap_setCell _ _ _ _ (by omega)
theorem PrS.drew {w : World} {B : Nat} {s : St} (h : PrS w B s) : PrS w.drew B s := h.same fun _ _ => rfl
theorem rhd_some {l : List Tok} (h : l ≠ []) : l[0]? = some (hd l) := by
 cases l with
 | nil => exact (h rfl).elim
 | cons a r => rfl
theorem PrS.tok {w : World} {B : Nat} {l : List Tok} (h : PrS w B (.good l)) : ∃ (g o L cap i : Nat), PrAt w B (some ⟨g, o, none⟩) L cap i 0 0 ∧ i < L ∧ L ≤ 1000000 ∧ g < B ∧ TokAt w g (o + i * 4) (hd l) ∧ (∀ t, l[1]? = some t → i + 1 < L ∧ TokAt w g (o + (i + 1) * 4) t) := by
 obtain ⟨a, L, cap, i, h1, h2, h3, h4, h5, h6⟩ := h
 have hi : i < L.length := by
  rcases Nat.lt_or_ge i L.length with h | h
  ·exact h
  ·exfalso; rw [List.drop_eq_nil_of_le h] at h2; exact h3 h2.symm
 rcases h6 with h6 | ⟨g, o, rfl, hg, ht⟩
 ·rw [h6] at hi; exact absurd hi (Nat.not_lt_zero _)
 refine ⟨g, o, L.length, cap, i, h1, hi, h5, hg, ht i _ ?_, fun t h0 => ?_⟩
 ·have := rhd_some h3
  rw [← h2, List.getElem?_drop] at this
  rw [← h2]
  simpa using this
 ·rw [← h2, List.getElem?_drop] at h0
  exact ⟨(List.getElem?_eq_some_iff.1 h0).1, ht (i + 1) t h0⟩
abbrev tokVal (t : Tok) : Value := .agg #[.int .i64 t.kind, .string t.text, .int .i64 t.n, .int .i64 t.pos]
abbrev endTok : Tok := ⟨4, ⟨#[]⟩, 0, 0⟩
set_option maxRecDepth 100000 in
set_option maxHeartbeats 4000000 in
theorem rnow_g (l : List Tok) (w : World) (B : Nat) (h : PrS w B (.good l)) : Calls Tryz.prog 32 #[.pointer (some ⟨B, 0, none⟩)] w fun e w' => e = .returned (tokVal (hd l)) ∧ Below w.heap.size w w' := by
 have hc4 := cellsTok
 have hB := h.lt
 obtain ⟨g, o, L, cap, i, h1, hi, hL, hg, ⟨t0, t1, t2, t3⟩, _⟩ := h.tok
 obtain ⟨⟨k0, k1, k2, k3⟩, _⟩ := h1.cells
 have hi2 : (i : Int) < L := by omega
 clear h h1
 go_enter Tryz.func32, Tryz.ntmps32
 have hgs : g < w.heap.size := by omega
 go_wp2_with fail
 go_region_held3 (fun wz => wz.cell? ⟨B, 0, none⟩ = some (.slice (some ⟨g, o, none⟩) L cap) ∧ wz.cell? ⟨B, 1, none⟩ = some (.int .i64 i) ∧ wz.cell? ⟨g, o + i * 4, none⟩ = some (.int .i64 (hd l).kind) ∧ wz.cell? ⟨g, o + i * 4 + 1, none⟩ = some (.string (hd l).text) ∧ wz.cell? ⟨g, o + i * 4 + 2, none⟩ = some (.int .i64 (hd l).n) ∧ wz.cell? ⟨g, o + i * 4 + 3, none⟩ = some (.int .i64 (hd l).pos)) (go_keep) (fail)
 all_goals (go_wp2_with fail)
 exact ret_tok Tryz.results32 rfl rfl (new_at _ _) ⟨rfl, (below_box _ _).drew⟩
set_option maxRecDepth 100000 in
set_option maxHeartbeats 4000000 in
theorem rnow_b (w : World) (B : Nat) (p e : Int) (h : PrS w B (.bad p e)) : Calls Tryz.prog 32 #[.pointer (some ⟨B, 0, none⟩)] w fun x w' => x = .returned (tokVal endTok) ∧ Below w.heap.size w w' := by
 have hc4 := cellsTok
 have hB := h.lt
 obtain ⟨a, len, cap, i, h1, he⟩ := h
 obtain ⟨⟨k0, k1, k2, k3⟩, _⟩ := h1.cells
 clear h1
 go_enter Tryz.func32, Tryz.ntmps32
 go_wp2_with fail
 exact ret_tok Tryz.results32 rfl rfl (new_at _ _) ⟨rfl, below_box _ _⟩
set_option maxRecDepth 100000 in
set_option maxHeartbeats 4000000 in
theorem rfail_g (l : List Tok) (p q : Int) (w : World) (B : Nat) (hq : (q == 0) = false) (h : PrS w B (.good l)) : Calls Tryz.prog 33 #[.pointer (some ⟨B, 0, none⟩), .int .i64 p, .int .i64 q] w fun x w' => x = .returned (.tuple #[]) ∧ Kp B w w' ∧ PrS w' B (.bad p q) := by
 have hB := h.lt
 obtain ⟨a, L, cap, i, h1, _⟩ := h
 obtain ⟨⟨k0, k1, k2, k3⟩, f0, f1, f2, f3⟩ := h1.cells
 have HZ : Hid (PrS ((w.setCell ⟨B, 2, none⟩ (.int .i64 q)).setCell ⟨B, 3, none⟩ (.int .i64 p)) B (.bad p q)) := Lib.hid (by
  unfold PrAt at h1
  exact ⟨a, _, cap, i, heap_setCell_same _ B 3 _ _ _ (heap_setCell_same w B 2 _ _ _ h1), hq⟩)
 have HK := Lib.hid (((Kp.refl B w).setB 2 (.int .i64 q)).setB 3 (.int .i64 p))
 clear h1 hq
 go_enter Tryz.func33, Tryz.ntmps33
 go_wp2_with fail
 go_end0
 exact ⟨rfl, HK.out, HZ.out⟩
set_option maxRecDepth 100000 in
set_option maxHeartbeats 4000000 in
theorem rfail_b (p q p' e' : Int) (w : World) (B : Nat) (h : PrS w B (.bad p' e')) : Calls Tryz.prog 33 #[.pointer (some ⟨B, 0, none⟩), .int .i64 p, .int .i64 q] w fun x w' => x = .returned (.tuple #[]) ∧ Kp B w w' ∧ PrS w' B (.bad p' e') := by
 have hB := h.lt
 have HS := Lib.hid h
 obtain ⟨a, len, cap, i, h1, he⟩ := h
 obtain ⟨⟨k0, k1, k2, k3⟩, _⟩ := h1.cells
 clear h1
 go_enter Tryz.func33, Tryz.ntmps33
 go_wp2_with fail
 go_end0
 exact ⟨rfl, Kp.refl _ _, HS.out⟩
theorem wrd_yes {l : List Tok} {x : ByteArray} (h : ((wrd l).toList == x.toList) = true) (hx : (x.toList == []) = false) : ((hd l).kind == 3) = true ∧ ((hd l).text.toList == x.toList) = true := by
 unfold wrd at h
 by_cases hk : ((hd l).kind == 3) = true
 ·rw [if_pos hk] at h; exact ⟨hk, h⟩
 ·rw [if_neg hk] at h
  rw [show ((⟨#[]⟩ : ByteArray).toList) = [] by rw [Lib.toList_data]] at h
  rw [show (([] : List UInt8) == x.toList) = (x.toList == []) from BEq.comm, hx] at h
  cases h
theorem wrd_no {l : List Tok} {x : ByteArray} (h : ((wrd l).toList == x.toList) = false) (hk : ((hd l).kind == 3) = true) : ((hd l).text.toList == x.toList) = false := by
 unfold wrd at h
 rw [if_pos hk] at h; exact h
set_option maxRecDepth 100000 in
set_option maxHeartbeats 4000000 in
theorem ris_yes (l : List Tok) (x : ByteArray) (w : World) (B : Nat) (hx : (x.toList == []) = false) (hw : ((wrd l).toList == x.toList) = true) (h : PrS w B (.good l)) : Calls Tryz.prog 26 #[.pointer (some ⟨B, 0, none⟩), .string x] w fun e w' => e = .returned (.bool true) ∧ Below w.heap.size w w' := by
 obtain ⟨g1, g2⟩ := wrd_yes hw hx
 have HC := Lib.hid (rnow_g l w B h)
 have hc4 := cellsTok
 clear h hw hx
 go_enter Tryz.func26, Tryz.ntmps26
 go_wp2_with fail
 refine HC.out.mono ?_
 rintro e w2 ⟨rfl, hb2⟩
 have hbb := hb2.alloc hb2.size (tokBox (hd l).kind (hd l).text (hd l).n (hd l).pos)
 clear hb2 HC
 go_wp2_with fail
 go_ret
 exact ⟨rfl, hbb⟩
set_option maxRecDepth 100000 in
set_option maxHeartbeats 4000000 in
theorem ris_no (l : List Tok) (x : ByteArray) (w : World) (B : Nat) (hw : ((wrd l).toList == x.toList) = false) (h : PrS w B (.good l)) : Calls Tryz.prog 26 #[.pointer (some ⟨B, 0, none⟩), .string x] w fun e w' => e = .returned (.bool false) ∧ Below w.heap.size w w' := by
 have HC := Lib.hid (rnow_g l w B h)
 have hc4 := cellsTok
 rcases bool_two ((hd l).kind == 3) with g1 | g1
 ·have g2 := wrd_no hw g1
  clear h hw
  go_enter Tryz.func26, Tryz.ntmps26
  go_wp2_with fail
  refine HC.out.mono ?_
  rintro e w2 ⟨rfl, hb2⟩
  have hbb := hb2.alloc hb2.size (tokBox (hd l).kind (hd l).text (hd l).n (hd l).pos)
  clear hb2 HC
  go_wp2_with fail
  go_ret
  exact ⟨rfl, hbb⟩
 ·clear h hw
  go_enter Tryz.func26, Tryz.ntmps26
  go_wp2_with fail
  refine HC.out.mono ?_
  rintro e w2 ⟨rfl, hb2⟩
  have hbb := hb2.alloc hb2.size (tokBox (hd l).kind (hd l).text (hd l).n (hd l).pos)
  clear hb2 HC
  go_wp2_with fail
  go_ret
  exact ⟨rfl, hbb⟩
set_option maxRecDepth 100000 in
set_option maxHeartbeats 4000000 in
theorem ris_b (x : ByteArray) (w : World) (B : Nat) (p e : Int) (h : PrS w B (.bad p e)) : Calls Tryz.prog 26 #[.pointer (some ⟨B, 0, none⟩), .string x] w fun y w' => y = .returned (.bool false) ∧ Below w.heap.size w w' := by
 have HC := Lib.hid (rnow_b w B p e h)
 have hc4 := cellsTok
 clear h
 go_enter Tryz.func26, Tryz.ntmps26
 go_wp2_with fail
 refine HC.out.mono ?_
 rintro e w2 ⟨rfl, hb2⟩
 have hbb := hb2.alloc hb2.size (tokBox 4 ⟨#[]⟩ 0 0)
 clear hb2 HC
 go_wp2_with fail
 go_ret
 exact ⟨rfl, hbb⟩
theorem PrS.step {w : World} {B : Nat} {l : List Tok} (h : PrS w B (.good l)) (hk : ((hd l).kind == 4) = false) : ∃ (a : Option Addr) (L cap i : Nat), PrAt w B a L cap i 0 0 ∧ i < L ∧ L ≤ 1000000 ∧ (∀ W : World, PrAt W B a L cap ((i : Int) + 1) 0 0 → (∀ g, g < B → W.heap[g]? = w.heap[g]?) → PrS W B (.good l.tail)) := by
 obtain ⟨a, L, cap, i, h1, h2, h3, h4, h5, h6⟩ := h
 have hi : i < L.length := by
  rcases Nat.lt_or_ge i L.length with h | h
  ·exact h
  ·exfalso; rw [List.drop_eq_nil_of_le h] at h2; exact h3 h2.symm
 refine ⟨a, L.length, cap, i, h1, hi, h5, fun W hW hs => ⟨a, L, cap, i + 1, by rw [show (((i + 1 : Nat)) : Int) = (i : Int) + 1 by omega]; exact hW, ?_, ?_, h4.tail, h5, h6.same hs⟩⟩
 ·rw [← h2, List.tail_drop]
 ·intro ht
  cases l with
  | nil => exact h3 rfl
  | cons t r =>
   have hr : r = [] := ht
   subst hr
   have := h4.1 t rfl
   have hk2 : (t.kind == 4) = false := hk
   rw [this] at hk2
   exact absurd hk2 (by decide)
theorem set4_other {w : World} {g B : Nat} (hne : g ≠ B) (a b c d : Value) : ((((w.setCell ⟨B, 0, none⟩ a).setCell ⟨B, 1, none⟩ b).setCell ⟨B, 2, none⟩ c).setCell ⟨B, 3, none⟩ d).heap[g]? = w.heap[g]? := by
 rw [Below.heap_setCell _ _ _ _ (by simpa using hne), Below.heap_setCell _ _ _ _ (by simpa using hne), Below.heap_setCell _ _ _ _ (by simpa using hne), Below.heap_setCell _ _ _ _ (by simpa using hne)]
theorem set4_size (w : World) (B : Nat) (a b c d : Value) : ((((w.setCell ⟨B, 0, none⟩ a).setCell ⟨B, 1, none⟩ b).setCell ⟨B, 2, none⟩ c).setCell ⟨B, 3, none⟩ d).heap.size = w.heap.size := by simp
set_option maxRecDepth 100000 in
set_option maxHeartbeats 4000000 in
theorem rnext_g (l : List Tok) (w : World) (B : Nat) (hk : ((hd l).kind == 4) = false) (h : PrS w B (.good l)) : Calls Tryz.prog 69 #[.pointer (some ⟨B, 0, none⟩)] w fun e w' => e = .returned (tokVal (hd l)) ∧ Kp B w w' ∧ PrS w' B (.good l.tail) := by
 have hc4 := cellsTok
 have hB := h.lt
 have hne : ¬ w.heap.size = B := by omega
 have HC := Lib.hid (rnow_g l (w.alloc (tokBox 0 ⟨#[]⟩ 0 0)) B (h.alloc _))
 obtain ⟨a, L, cap, i, h1, hi, hL, hst⟩ := h.step hk
 have H1 := Lib.hid h1
 have HST := Lib.hid hst
 have HN := Lib.hid (new_at w (tokBox 0 ⟨#[]⟩ 0 0))
 have hi2 : (i : Int) < L := by omega
 clear h h1 hst
 go_enter Tryz.func69, Tryz.ntmps69
 go_wp2_with fail
 refine HC.out.mono ?_
 rintro e w2 ⟨rfl, hb2⟩
 have hbb := box_then hb2
 have hsz := hb2.size
 have hblk : ∀ g, g ≤ B → w2.heap[g]? = w.heap[g]? := fun g hg => hbb.block g (by omega)
 have HBK := Lib.hid hblk
 have hat : PrAt w2 B a L cap i 0 0 := by unfold PrAt; rw [hblk B (Nat.le_refl _)]; exact H1.out
 have HN2 : Hid (w2.heap[w.heap.size]? = some (tokBox 0 ⟨#[]⟩ 0 0)) := Lib.hid ((hb2.block _ (by simp)).trans HN.out)
 have HAT := Lib.hid hat
 obtain ⟨⟨k0, k1, k2, k3⟩, f0, f1, f2, f3⟩ := hat.cells
 obtain ⟨⟨r0, r1, r2, r3⟩, s0, s1, s2, s3⟩ := tok_cells HN2.out
 have hsz2 : w.heap.size < w2.heap.size := lt_heap HN2.out
 have hB2 : B < w2.heap.size := by omega
 have HK2 := Lib.hid (Kp.of_below (B := B) hbb)
 clear hb2 hbb HC hblk hat
 go_wp2_with fail
 have hN1 : (w2.setCell ⟨B, 1, none⟩ (.int .i64 ((i : Int) + 1))).heap[w.heap.size]? = some (tokBox 0 ⟨#[]⟩ 0 0) := by
  rw [Below.heap_setCell _ _ _ _ (by simpa using hne)]; exact HN2.out
 have hT := tok_set hN1 (hd l).kind (hd l).n (hd l).pos (hd l).text
 have hA1 : PrAt (w2.setCell ⟨B, 1, none⟩ (.int .i64 ((i : Int) + 1))) B a L cap ((i : Int) + 1) 0 0 := heap_setCell_same w2 B 1 _ _ _ HAT.out
 refine ret_tok Tryz.results69 rfl rfl ((Below.heap_alloc _ _ _ (lt_heap hT)).trans hT) ⟨rfl, ((((((HK2.out.setB 1 _).set (Nat.le_refl _) _).set (Nat.le_refl _) _).set (Nat.le_refl _) _).set (Nat.le_refl _) _).alloc _), (HST.out _ ?_ ?_)⟩
 ·unfold PrAt at hA1 ⊢
  rw [Below.heap_alloc _ _ _ (by rw [set4_size]; exact lt_heap hA1), set4_other (by omega)]
  exact hA1
 ·intro g hg
  have hgl : g < w2.heap.size := by omega
  rw [Below.heap_alloc _ _ _ (by rw [set4_size]; simpa using hgl), set4_other (by omega), Below.heap_setCell _ _ _ _ (by simp; omega)]
  exact HBK.out g (by omega)
set_option maxRecDepth 100000 in
set_option maxHeartbeats 4000000 in
theorem rnext_b (w : World) (B : Nat) (p e : Int) (h : PrS w B (.bad p e)) : Calls Tryz.prog 69 #[.pointer (some ⟨B, 0, none⟩)] w fun x w' => x = .returned (tokVal endTok) ∧ Kp B w w' ∧ PrS w' B (.bad p e) := by
 have hc4 := cellsTok
 have hB := h.lt
 have hne : ¬ w.heap.size = B := by omega
 have HC := Lib.hid (rnow_b (w.alloc (tokBox 0 ⟨#[]⟩ 0 0)) B p e (h.alloc _))
 have HS := Lib.hid h
 have HN := Lib.hid (new_at w (tokBox 0 ⟨#[]⟩ 0 0))
 clear h
 go_enter Tryz.func69, Tryz.ntmps69
 go_wp2_with fail
 refine HC.out.mono ?_
 rintro e1 w2 ⟨rfl, hb2⟩
 have hbb := box_then hb2
 have HS2 := Lib.hid (HS.out.below hbb)
 have HN2 : Hid (w2.heap[w.heap.size]? = some (tokBox 0 ⟨#[]⟩ 0 0)) := Lib.hid ((hb2.block _ (by simp)).trans HN.out)
 obtain ⟨a, len, cap, i, h1, he⟩ := HS2.out
 obtain ⟨⟨k0, k1, k2, k3⟩, _⟩ := h1.cells
 obtain ⟨⟨r0, r1, r2, r3⟩, s0, s1, s2, s3⟩ := tok_cells HN2.out
 have hsz2 : w.heap.size < w2.heap.size := lt_heap HN2.out
 have hB2 : B < w2.heap.size := by omega
 have HK2 := Lib.hid (Kp.of_below (B := B) hbb)
 clear hb2 hbb HC h1
 go_wp2_with fail
 have hT := tok_set HN2.out 4 0 0 ⟨#[]⟩
 refine ret_tok Tryz.results69 rfl rfl ((Below.heap_alloc _ _ _ (lt_heap hT)).trans hT) ⟨rfl, (((((HK2.out.set (Nat.le_refl _) _).set (Nat.le_refl _) _).set (Nat.le_refl _) _).set (Nat.le_refl _) _).alloc _), ?_⟩
 refine HS2.out.same fun g hg => ?_
 have hgl : g < w2.heap.size := by omega
 rw [Below.heap_alloc _ _ _ (by rw [set4_size]; exact hgl), set4_other (by omega)]
end Go.Proofs.YtmpcmpeloebnhaaGreatDoor
namespace Go.Proofs.YtmpcmpeloebnhaaGreatDoor
open Go.RowKit
open Go.Maps
set_option maxRecDepth 100000 in
set_option maxHeartbeats 16000000 in
theorem kd_plus (op name : ByteArray) (n pos : Int) (kb ko len : Nat) (cap : Nat) (op1 name1 : ByteArray) (n1 pos1 : Int) (a1 : Option Addr) (k1' cap1 : Nat) (w : World) (M m : Nat) (pv : Value) (O : ByteArray → Int) (ho : OrdIs w M m O) (h0 : (op.toList == [118, 97, 114]) = false) (h1 : (op.toList == [110, 117, 109]) = false) (h2 : (op.toList == [112, 108, 117, 115]) = true) (hl : 0 < len) (hn : NodeAt w kb ko op1 name1 n1 pos1 a1 k1' cap1) (q1 q2 : Int)
  (hc : ∀ W, OrdIs W M m O → Below w.heap.size w W → Calls Tryz.prog 94 #[scV M pv, .int .i64 1, .agg #[.string op1, .string name1, .int .i64 n1, .int .i64 pos1, .slice a1 k1' cap1], .int .i64 pos] W fun e w' => e = .returned (.tuple #[.int .i64 q1, .int .i64 q2]) ∧ Below W.heap.size W w') :
  Calls Tryz.prog 55 #[scV M pv, .agg #[.string op, .string name, .int .i64 n, .int .i64 pos, .slice (some ⟨kb, ko, none⟩) len cap]] w fun e w' => e = .returned (if q2 = 0 then .tuple #[.int .i64 1, .int .i64 0, .int .i64 0] else .tuple #[.int .i64 0, .int .i64 q1, .int .i64 q2]) ∧ Below w.heap.size w w' := by
 have hc2 := cellsScope
 have hc5 := cellsNode
 have hl2 : (0 : Int) < len := by omega
 obtain ⟨rv, hrv⟩ : ∃ rv, rv = (if q2 = 0 then Value.tuple #[.int .i64 1, .int .i64 0, .int .i64 0] else .tuple #[.int .i64 0, .int .i64 q1, .int .i64 q2]) := ⟨_, rfl⟩
 rw [← hrv]
 have HRV := Lib.hid hrv
 clear hrv
 have HW := Lib.hid (two_boxes w (scBox M pv) (boxOf op name n pos (some ⟨kb, ko, none⟩) len cap))
 have hx : w.heap.size < (w.alloc (scBox M pv)).heap.size := by simp
 have HS := Lib.hid ((Below.heap_alloc (w.alloc (scBox M pv)) (boxOf op name n pos (some ⟨kb, ko, none⟩) len cap) _ hx).trans (new_at w (scBox M pv)))
 have HB := Lib.hid (show ((w.alloc (scBox M pv)).alloc (boxOf op name n pos (some ⟨kb, ko, none⟩) len cap)).heap[w.heap.size + 1]? = some (boxOf op name n pos (some ⟨kb, ko, none⟩) len cap) from by have h := new_at (w.alloc (scBox M pv)) (boxOf op name n pos (some ⟨kb, ko, none⟩) len cap); rw [alloc_size] at h; exact h)
 obtain ⟨k0, k1⟩ := sc_cells HS.out
 obtain ⟨b0, b1, b2, b3, b4⟩ := box_cells HB.out
 have HN := Lib.hid (hn.below HW.out)
 obtain ⟨c0, c1, c2, c3, c4⟩ := HN.out
 have HC := Lib.hid (hc ((w.alloc (scBox M pv)).alloc (boxOf op name n pos (some ⟨kb, ko, none⟩) len cap)).drew ((ho.below HW.out).drew) HW.out.drew)
 clear ho hc hn
 go_enter Tryz.func55, Tryz.ntmps55
 have HBD : RowKit.Hid (Below ((w.alloc (scBox M pv)).alloc (boxOf op name n pos (some ⟨kb, ko, none⟩) len cap)).heap.size ((w.alloc (scBox M pv)).alloc (boxOf op name n pos (some ⟨kb, ko, none⟩) len cap)) ((w.alloc (scBox M pv)).alloc (boxOf op name n pos (some ⟨kb, ko, none⟩) len cap)).drew) := Lib.hid (Below.refl _ _).drew
 clear HS HB HN b0 b1 b2
 go_wp2_with fail
 go_region_held3 (fun wz => wz.cell? ⟨w.heap.size, 0, none⟩ = some (.map (some M)) ∧ wz.cell? ⟨w.heap.size, 1, none⟩ = some (pv) ∧ wz.cell? ⟨w.heap.size + 1, 3, none⟩ = some (.int .i64 pos) ∧ wz.cell? ⟨w.heap.size + 1, 4, none⟩ = some (.slice (some ⟨kb, ko, none⟩) len cap) ∧ wz.cell? ⟨kb, ko, none⟩ = some (.string op1) ∧ wz.cell? ⟨kb, ko + 1, none⟩ = some (.string name1) ∧ wz.cell? ⟨kb, ko + 2, none⟩ = some (.int .i64 n1) ∧ wz.cell? ⟨kb, ko + 3, none⟩ = some (.int .i64 pos1) ∧ wz.cell? ⟨kb, ko + 4, none⟩ = some ((.slice a1 k1' cap1))) (go_keep) (first | (go_at_call 94; refine HC.out.mono ?_; rintro e w2 ⟨rfl, hb2⟩; replace k0 := cell_below (HBD.out.trans (hb2.mono HBD.out.size)) k0; replace k1 := cell_below (HBD.out.trans (hb2.mono HBD.out.size)) k1; replace b3 := cell_below (HBD.out.trans (hb2.mono HBD.out.size)) b3; replace b4 := cell_below (HBD.out.trans (hb2.mono HBD.out.size)) b4; replace c0 := cell_below (HBD.out.trans (hb2.mono HBD.out.size)) c0; replace c1 := cell_below (HBD.out.trans (hb2.mono HBD.out.size)) c1; replace c2 := cell_below (HBD.out.trans (hb2.mono HBD.out.size)) c2; replace c3 := cell_below (HBD.out.trans (hb2.mono HBD.out.size)) c3; replace c4 := cell_below (HBD.out.trans (hb2.mono HBD.out.size)) c4; have HB2 := Lib.hid (HBD.out.trans (hb2.mono HBD.out.size)); clear hb2))
 have hbb := HW.out.trans (HB2.out.mono HW.out.size)
 clear HB2 HBD HC k0 k1 b3 b4 c0 c1 c2 c3 c4
 by_cases hq : q2 = 0
 ·subst hq
  have HR2 := Lib.hid (show rv = .tuple #[.int .i64 1, .int .i64 0, .int .i64 0] from by rw [HRV.out, if_pos rfl])
  clear HRV
  go_wp2_with fail
  go_ret3
  rw [HR2.out]
  exact ⟨rfl, hbb⟩
 ·have HR2 := Lib.hid (show rv = .tuple #[.int .i64 0, .int .i64 q1, .int .i64 q2] from by rw [HRV.out, if_neg hq])
  clear HRV
  have hqb : (q2 != 0) = true := by simp [hq]
  clear hq
  go_wp2_with fail
  go_ret3
  rw [HR2.out]
  exact ⟨rfl, hbb⟩
theorem kkind_of (T : Nd) (hk : Fo.All SayKd T.kids) : SayKd T := by
 intro w M m pv O ho hin hsz hok
 obtain ⟨hko, hkp⟩ := kids_okT hok
 obtain ⟨op, name, n, pos, a, cap, kids⟩ := T
 have hs1 : name.size ≤ 140737488351232 := hsz.1
 have hs2 : kids.sized := hsz.2
 simp only [] at hko hkp hk
 show Calls _ _ _ w fun e w' => e = .returned (.tuple #[.int .i64 (stepK O op name pos (kids.ks O)).k, .int .i64 (stepK O op name pos (kids.ks O)).pos, .int .i64 (stepK O op name pos (kids.ks O)).e]) ∧ _
 rw [Nd.val_def]
 have hall : ∀ (want : Int) (q : Int × Int), kids.al O want = q → ∀ W, OrdIs W M m O → Below w.heap.size w W → Calls Tryz.prog 95 #[scV M pv, .int .i64 want, .slice a kids.len cap] W fun e w' => e = .returned (.tuple #[.int .i64 q.1, .int .i64 q.2]) ∧ Below W.heap.size W w' := by
  intro want q hq W h1 h2
  have h3 : KidsIn W a kids := (hin.below h2 : Nd.In W ⟨op, name, n, pos, a, cap, kids⟩)
  have h := kall_of kids a cap W M m pv O want h1 h3 hs2 hko hk
  rw [hq] at h
  exact h
 rcases bool_two (op.toList == [118, 97, 114]) with h0 | h0
 ·unfold stepK
  simp only [h0, if_true]
  by_cases hn : O name < 0
  ·rw [if_pos hn]
   exact kd_var_no op name n pos a cap kids w M m pv O ho h0 hs1 hn
  ·rw [if_neg hn]
   exact kd_var_yes op name n pos a cap kids w M m pv O ho h0 hs1 hn
 ·rcases bool_two (op.toList == [110, 117, 109]) with h1 | h1
  ·unfold stepK
   simp only [h0, h1, if_true]
   exact kd_num op name n pos a cap kids w M m pv O ho h0 h1
  ·rcases bool_two (op.toList == [112, 108, 117, 115]) with h2 | h2
   ·have hl := hkp h2
    cases kids with
    | nil => cases hl
    | cons op1 name1 n1 pos1 a1 cap1 kids1 rest =>
     have hin2 : KidsIn w a (.cons op1 name1 n1 pos1 a1 cap1 kids1 rest) := hin
     rcases hin2 with h | ⟨kb, ko, rfl, hlim, hpos, hkin⟩
     ·cases h
     ·have hkk : (Nd.okT ⟨op1, name1, n1, pos1, a1, cap1, kids1⟩ && rest.allB Nd.okT) = true := hko
      rw [Bool.and_eq_true] at hkk
      have hP : SayKd ⟨op1, name1, n1, pos1, a1, cap1, kids1⟩ := hk.1
      obtain ⟨hnode, hin1, hrest⟩ := hkin
      have hin3 : Nd.In w ⟨op1, name1, n1, pos1, a1, cap1, kids1⟩ := hin1
      have h := kd_plus op name n pos kb ko (Fo.len (.cons op1 name1 n1 pos1 a1 cap1 kids1 rest)) cap op1 name1 n1 pos1 a1 kids1.len cap1 w M m pv O ho h0 h1 h2 (by rw [hl]; omega) hnode (mustK 1 (Nd.kd O ⟨op1, name1, n1, pos1, a1, cap1, kids1⟩) pos (0, 0)).1 (mustK 1 (Nd.kd O ⟨op1, name1, n1, pos1, a1, cap1, kids1⟩) pos (0, 0)).2
       (fun W g1 g2 => kmust_of ⟨op1, name1, n1, pos1, a1, cap1, kids1⟩ hP W M m pv O 1 pos g1 (hin3.below g2) ⟨hs2.1, hs2.2.1⟩ hkk.1)
      refine h.mono ?_
      rintro e w' ⟨rfl, hb⟩
      refine ⟨?_, hb⟩
      unfold stepK
      simp only [h0, h1, h2, if_true]
      show Ending.returned (if (mustK 1 (Nd.kd O ⟨op1, name1, n1, pos1, a1, cap1, kids1⟩) pos (0, 0)).2 = 0 then _ else _) = _
      show _ = Ending.returned (.tuple #[.int .i64 (if (Nd.kd O ⟨op1, name1, n1, pos1, a1, cap1, kids1⟩).e = 0 then (if (Nd.kd O ⟨op1, name1, n1, pos1, a1, cap1, kids1⟩).k = 1 then (⟨1, 0, 0⟩ : KR) else ⟨0, pos, 7⟩) else ⟨0, (Nd.kd O ⟨op1, name1, n1, pos1, a1, cap1, kids1⟩).pos, (Nd.kd O ⟨op1, name1, n1, pos1, a1, cap1, kids1⟩).e⟩).k, .int .i64 (if (Nd.kd O ⟨op1, name1, n1, pos1, a1, cap1, kids1⟩).e = 0 then (if (Nd.kd O ⟨op1, name1, n1, pos1, a1, cap1, kids1⟩).k = 1 then (⟨1, 0, 0⟩ : KR) else ⟨0, pos, 7⟩) else ⟨0, (Nd.kd O ⟨op1, name1, n1, pos1, a1, cap1, kids1⟩).pos, (Nd.kd O ⟨op1, name1, n1, pos1, a1, cap1, kids1⟩).e⟩).pos, .int .i64 (if (Nd.kd O ⟨op1, name1, n1, pos1, a1, cap1, kids1⟩).e = 0 then (if (Nd.kd O ⟨op1, name1, n1, pos1, a1, cap1, kids1⟩).k = 1 then (⟨1, 0, 0⟩ : KR) else ⟨0, pos, 7⟩) else ⟨0, (Nd.kd O ⟨op1, name1, n1, pos1, a1, cap1, kids1⟩).pos, (Nd.kd O ⟨op1, name1, n1, pos1, a1, cap1, kids1⟩).e⟩).e])
      generalize Nd.kd O ⟨op1, name1, n1, pos1, a1, cap1, kids1⟩ = r
      obtain ⟨rk, rp, re⟩ := r
      unfold mustK
      simp only []
      by_cases he : re = 0
      ·by_cases hk1 : rk = 1
       ·simp [he, hk1]
       ·simp [he, hk1]
      ·simp [he]
   ·rcases bool_two (op.toList == [115, 101, 116]) with h3 | h3
    ·obtain ⟨q, hq⟩ : ∃ q, kids.al O 1 = q := ⟨_, rfl⟩
     unfold stepK
     simp only [h0, h1, h2, h3, if_true]
     rw [al_1, hq]
     by_cases hz : q.2 = 0
     ·simp only [hz, if_true]
      exact kd_set_ok op name n pos a cap kids w M m pv O ho h0 h1 h2 h3 q.1 q.2 hz (hall 1 q hq)
     ·simp only [hz, if_false]
      exact kd_set_bad op name n pos a cap kids w M m pv O ho h0 h1 h2 h3 q.1 q.2 hz (hall 1 q hq)
    ·obtain ⟨q, hq⟩ : ∃ q, kids.al O 2 = q := ⟨_, rfl⟩
     unfold stepK
     simp only [h0, h1, h2, h3]
     rw [al_2, hq]
     by_cases hz : q.2 = 0
     ·simp only [hz, if_true]
      exact kd_join_ok op name n pos a cap kids w M m pv O ho h0 h1 h2 h3 q.1 q.2 hz (hall 2 q hq)
     ·simp only [hz, if_false]
      exact kd_join_bad op name n pos a cap kids w M m pv O ho h0 h1 h2 h3 q.1 q.2 hz (hall 2 q hq)
theorem kkind_all (T : Nd) : SayKd T := Nd.all_of (P := SayKd) (fun T hk => kkind_of T hk) T
end Go.Proofs.YtmpcmpeloebnhaaGreatDoor
namespace Go.Proofs.YtmpcmpeloebnhaaGreatDoor
open Go.RowKit
open Go.Maps
set_option maxRecDepth 100000 in
set_option maxHeartbeats 8000000 in
theorem relates_eq (op : ByteArray) (x y : Int) (w : World) (h0 : (op.toList == [101, 113]) = true) : Calls Tryz.prog 123 #[.string op, .int .i64 x, .int .i64 y] w fun e w' => e = .returned (.bool (relOk op x y)) ∧ Below w.heap.size w w' := by
 have hr : relOk op x y = (decide (x = y) && !decide (x = 0)) := by unfold relOk; simp [h0]
 rw [hr]
 clear hr
 rcases bool_two (x == y) with ha | ha
 ·rcases bool_two (x != 0) with hb | hb
  ·have hv : (decide (x = y) && !decide (x = 0)) = true := by simp at ha hb; subst ha; simp [hb]
   rw [hv]
   clear hv
   go_enter Tryz.func123, Tryz.ntmps123
   go_wp2_with fail
   go_ret
   exact ⟨rfl, Below.refl _ _⟩
  ·have hv : (decide (x = y) && !decide (x = 0)) = false := by simp at ha hb; subst ha; simp [hb]
   rw [hv]
   clear hv
   go_enter Tryz.func123, Tryz.ntmps123
   go_wp2_with fail
   go_ret
   exact ⟨rfl, Below.refl _ _⟩
 ·skip
  have hv : (decide (x = y) && !decide (x = 0)) = false := by simp at ha; simp [ha]
  rw [hv]
  clear hv
  go_enter Tryz.func123, Tryz.ntmps123
  go_wp2_with fail
  go_ret
  exact ⟨rfl, Below.refl _ _⟩
set_option maxRecDepth 100000 in
set_option maxHeartbeats 8000000 in
theorem relates_ne (op : ByteArray) (x y : Int) (w : World) (h0 : (op.toList == [101, 113]) = false) (h1 : (op.toList == [110, 101]) = true) : Calls Tryz.prog 123 #[.string op, .int .i64 x, .int .i64 y] w fun e w' => e = .returned (.bool (relOk op x y)) ∧ Below w.heap.size w w' := by
 have hr : relOk op x y = (decide (x = y) && !decide (x = 0)) := by unfold relOk; simp [h0, h1]
 rw [hr]
 clear hr
 rcases bool_two (x == y) with ha | ha
 ·rcases bool_two (x != 0) with hb | hb
  ·have hv : (decide (x = y) && !decide (x = 0)) = true := by simp at ha hb; subst ha; simp [hb]
   rw [hv]
   clear hv
   go_enter Tryz.func123, Tryz.ntmps123
   go_wp2_with fail
   go_ret
   exact ⟨rfl, Below.refl _ _⟩
  ·have hv : (decide (x = y) && !decide (x = 0)) = false := by simp at ha hb; subst ha; simp [hb]
   rw [hv]
   clear hv
   go_enter Tryz.func123, Tryz.ntmps123
   go_wp2_with fail
   go_ret
   exact ⟨rfl, Below.refl _ _⟩
 ·skip
  have hv : (decide (x = y) && !decide (x = 0)) = false := by simp at ha; simp [ha]
  rw [hv]
  clear hv
  go_enter Tryz.func123, Tryz.ntmps123
  go_wp2_with fail
  go_ret
  exact ⟨rfl, Below.refl _ _⟩
set_option maxRecDepth 100000 in
set_option maxHeartbeats 8000000 in
theorem relates_lt (op : ByteArray) (x y : Int) (w : World) (h0 : (op.toList == [101, 113]) = false) (h1 : (op.toList == [110, 101]) = false) (h2 : (op.toList == [108, 116]) = true) : Calls Tryz.prog 123 #[.string op, .int .i64 x, .int .i64 y] w fun e w' => e = .returned (.bool (relOk op x y)) ∧ Below w.heap.size w w' := by
 have hr : relOk op x y = (decide (x = 1) && decide (y = 1)) := by unfold relOk; simp [h0, h1, h2]
 rw [hr]
 clear hr
 rcases bool_two (x == 1) with ha | ha
 ·rcases bool_two (y == 1) with hb | hb
  ·have hv : (decide (x = 1) && decide (y = 1)) = true := by simp at ha hb; simp [ha, hb]
   rw [hv]
   clear hv
   go_enter Tryz.func123, Tryz.ntmps123
   go_wp2_with fail
   go_ret
   exact ⟨rfl, Below.refl _ _⟩
  ·have hv : (decide (x = 1) && decide (y = 1)) = false := by simp at ha hb; simp [ha, hb]
   rw [hv]
   clear hv
   go_enter Tryz.func123, Tryz.ntmps123
   go_wp2_with fail
   go_ret
   exact ⟨rfl, Below.refl _ _⟩
 ·skip
  have hv : (decide (x = 1) && decide (y = 1)) = false := by simp at ha; simp [ha]
  rw [hv]
  clear hv
  go_enter Tryz.func123, Tryz.ntmps123
  go_wp2_with fail
  go_ret
  exact ⟨rfl, Below.refl _ _⟩
set_option maxRecDepth 100000 in
set_option maxHeartbeats 8000000 in
theorem relates_le (op : ByteArray) (x y : Int) (w : World) (h0 : (op.toList == [101, 113]) = false) (h1 : (op.toList == [110, 101]) = false) (h2 : (op.toList == [108, 116]) = false) (h3 : (op.toList == [108, 101]) = true) : Calls Tryz.prog 123 #[.string op, .int .i64 x, .int .i64 y] w fun e w' => e = .returned (.bool (relOk op x y)) ∧ Below w.heap.size w w' := by
 have hr : relOk op x y = (decide (x = 1) && decide (y = 1)) := by unfold relOk; simp [h0, h1, h2, h3]
 rw [hr]
 clear hr
 rcases bool_two (x == 1) with ha | ha
 ·rcases bool_two (y == 1) with hb | hb
  ·have hv : (decide (x = 1) && decide (y = 1)) = true := by simp at ha hb; simp [ha, hb]
   rw [hv]
   clear hv
   go_enter Tryz.func123, Tryz.ntmps123
   go_wp2_with fail
   go_ret
   exact ⟨rfl, Below.refl _ _⟩
  ·have hv : (decide (x = 1) && decide (y = 1)) = false := by simp at ha hb; simp [ha, hb]
   rw [hv]
   clear hv
   go_enter Tryz.func123, Tryz.ntmps123
   go_wp2_with fail
   go_ret
   exact ⟨rfl, Below.refl _ _⟩
 ·skip
  have hv : (decide (x = 1) && decide (y = 1)) = false := by simp at ha; simp [ha]
  rw [hv]
  clear hv
  go_enter Tryz.func123, Tryz.ntmps123
  go_wp2_with fail
  go_ret
  exact ⟨rfl, Below.refl _ _⟩
set_option maxRecDepth 100000 in
set_option maxHeartbeats 8000000 in
theorem relates_in (op : ByteArray) (x y : Int) (w : World) (h0 : (op.toList == [101, 113]) = false) (h1 : (op.toList == [110, 101]) = false) (h2 : (op.toList == [108, 116]) = false) (h3 : (op.toList == [108, 101]) = false) (h4 : (op.toList == [105, 110]) = true) : Calls Tryz.prog 123 #[.string op, .int .i64 x, .int .i64 y] w fun e w' => e = .returned (.bool (relOk op x y)) ∧ Below w.heap.size w w' := by
 have hr : relOk op x y = (decide (x = 1) && decide (y = 2)) := by unfold relOk; simp [h0, h1, h2, h3, h4]
 rw [hr]
 clear hr
 rcases bool_two (x == 1) with ha | ha
 ·rcases bool_two (y == 2) with hb | hb
  ·have hv : (decide (x = 1) && decide (y = 2)) = true := by simp at ha hb; simp [ha, hb]
   rw [hv]
   clear hv
   go_enter Tryz.func123, Tryz.ntmps123
   go_wp2_with fail
   go_ret
   exact ⟨rfl, Below.refl _ _⟩
  ·have hv : (decide (x = 1) && decide (y = 2)) = false := by simp at ha hb; simp [ha, hb]
   rw [hv]
   clear hv
   go_enter Tryz.func123, Tryz.ntmps123
   go_wp2_with fail
   go_ret
   exact ⟨rfl, Below.refl _ _⟩
 ·skip
  have hv : (decide (x = 1) && decide (y = 2)) = false := by simp at ha; simp [ha]
  rw [hv]
  clear hv
  go_enter Tryz.func123, Tryz.ntmps123
  go_wp2_with fail
  go_ret
  exact ⟨rfl, Below.refl _ _⟩
set_option maxRecDepth 100000 in
set_option maxHeartbeats 8000000 in
theorem relates_notin (op : ByteArray) (x y : Int) (w : World) (h0 : (op.toList == [101, 113]) = false) (h1 : (op.toList == [110, 101]) = false) (h2 : (op.toList == [108, 116]) = false) (h3 : (op.toList == [108, 101]) = false) (h4 : (op.toList == [105, 110]) = false) (h5 : (op.toList == [110, 111, 116, 105, 110]) = true) : Calls Tryz.prog 123 #[.string op, .int .i64 x, .int .i64 y] w fun e w' => e = .returned (.bool (relOk op x y)) ∧ Below w.heap.size w w' := by
 have hr : relOk op x y = (decide (x = 1) && decide (y = 2)) := by unfold relOk; simp [h0, h1, h2, h3, h4, h5]
 rw [hr]
 clear hr
 rcases bool_two (x == 1) with ha | ha
 ·rcases bool_two (y == 2) with hb | hb
  ·have hv : (decide (x = 1) && decide (y = 2)) = true := by simp at ha hb; simp [ha, hb]
   rw [hv]
   clear hv
   go_enter Tryz.func123, Tryz.ntmps123
   go_wp2_with fail
   go_ret
   exact ⟨rfl, Below.refl _ _⟩
  ·have hv : (decide (x = 1) && decide (y = 2)) = false := by simp at ha hb; simp [ha, hb]
   rw [hv]
   clear hv
   go_enter Tryz.func123, Tryz.ntmps123
   go_wp2_with fail
   go_ret
   exact ⟨rfl, Below.refl _ _⟩
 ·skip
  have hv : (decide (x = 1) && decide (y = 2)) = false := by simp at ha; simp [ha]
  rw [hv]
  clear hv
  go_enter Tryz.func123, Tryz.ntmps123
  go_wp2_with fail
  go_ret
  exact ⟨rfl, Below.refl _ _⟩
set_option maxRecDepth 100000 in
set_option maxHeartbeats 8000000 in
theorem relates_sub (op : ByteArray) (x y : Int) (w : World) (h0 : (op.toList == [101, 113]) = false) (h1 : (op.toList == [110, 101]) = false) (h2 : (op.toList == [108, 116]) = false) (h3 : (op.toList == [108, 101]) = false) (h4 : (op.toList == [105, 110]) = false) (h5 : (op.toList == [110, 111, 116, 105, 110]) = false) : Calls Tryz.prog 123 #[.string op, .int .i64 x, .int .i64 y] w fun e w' => e = .returned (.bool (relOk op x y)) ∧ Below w.heap.size w w' := by
 have hr : relOk op x y = (decide (x = 2) && decide (y = 2)) := by unfold relOk; simp [h0, h1, h2, h3, h4, h5]
 rw [hr]
 clear hr
 rcases bool_two (x == 2) with ha | ha
 ·rcases bool_two (y == 2) with hb | hb
  ·have hv : (decide (x = 2) && decide (y = 2)) = true := by simp at ha hb; simp [ha, hb]
   rw [hv]
   clear hv
   go_enter Tryz.func123, Tryz.ntmps123
   go_wp2_with fail
   go_ret
   exact ⟨rfl, Below.refl _ _⟩
  ·have hv : (decide (x = 2) && decide (y = 2)) = false := by simp at ha hb; simp [ha, hb]
   rw [hv]
   clear hv
   go_enter Tryz.func123, Tryz.ntmps123
   go_wp2_with fail
   go_ret
   exact ⟨rfl, Below.refl _ _⟩
 ·skip
  have hv : (decide (x = 2) && decide (y = 2)) = false := by simp at ha; simp [ha]
  rw [hv]
  clear hv
  go_enter Tryz.func123, Tryz.ntmps123
  go_wp2_with fail
  go_ret
  exact ⟨rfl, Below.refl _ _⟩
theorem relates_any (op : ByteArray) (x y : Int) (w : World) : Calls Tryz.prog 123 #[.string op, .int .i64 x, .int .i64 y] w fun e w' => e = .returned (.bool (relOk op x y)) ∧ Below w.heap.size w w' := by
 rcases bool_two (op.toList == [101, 113]) with h0 | h0
 ·exact relates_eq op x y w h0
 rcases bool_two (op.toList == [110, 101]) with h1 | h1
 ·exact relates_ne op x y w h0 h1
 rcases bool_two (op.toList == [108, 116]) with h2 | h2
 ·exact relates_lt op x y w h0 h1 h2
 rcases bool_two (op.toList == [108, 101]) with h3 | h3
 ·exact relates_le op x y w h0 h1 h2 h3
 rcases bool_two (op.toList == [105, 110]) with h4 | h4
 ·exact relates_in op x y w h0 h1 h2 h3 h4
 rcases bool_two (op.toList == [110, 111, 116, 105, 110]) with h5 | h5
 ·exact relates_notin op x y w h0 h1 h2 h3 h4 h5
 exact relates_sub op x y w h0 h1 h2 h3 h4 h5
set_option maxRecDepth 100000 in
set_option maxHeartbeats 16000000 in
theorem kflag_any (op name : ByteArray) (n pos : Int) (a : Option Addr) (cap : Nat) (kids : Fo) (w : World) (M m : Nat) (pv : Value) (O : ByteArray → Int) (ho : OrdIs w M m O) (hs : name.size ≤ 140737488351232) :
  Calls Tryz.prog 83 #[scV M pv, .agg #[.string op, .string name, .int .i64 n, .int .i64 pos, .slice a kids.len cap]] w fun e w' => e = .returned (.tuple #[.int .i64 (if O name < 0 then (pos, (5 : Int)) else if O name = 0 then (0, 0) else (pos, 7)).1, .int .i64 (if O name < 0 then (pos, (5 : Int)) else if O name = 0 then (0, 0) else (pos, 7)).2]) ∧ Below w.heap.size w w' := by
 have hc2 := cellsScope
 have hc5 := cellsNode
 have HW := Lib.hid (two_boxes w (scBox M pv) (boxOf op name n pos a kids.len cap))
 have hx : w.heap.size < (w.alloc (scBox M pv)).heap.size := by simp
 have HS := Lib.hid ((Below.heap_alloc (w.alloc (scBox M pv)) (boxOf op name n pos a kids.len cap) _ hx).trans (new_at w (scBox M pv)))
 have HB := Lib.hid (show ((w.alloc (scBox M pv)).alloc (boxOf op name n pos a kids.len cap)).heap[w.heap.size + 1]? = some (boxOf op name n pos a kids.len cap) from by have h := new_at (w.alloc (scBox M pv)) (boxOf op name n pos a kids.len cap); rw [alloc_size] at h; exact h)
 obtain ⟨k0, k1⟩ := sc_cells HS.out
 obtain ⟨b0, b1, b2, b3, b4⟩ := box_cells HB.out
 have HC := Lib.hid (korder_any M m pv O name _ (ho.below HW.out) hs)
 generalize O name = k at HC ⊢
 clear ho hs
 by_cases hn : k < 0
 ·simp only [hn, if_true]
  go_enter Tryz.func83, Tryz.ntmps83
  go_wp2_with fail
  refine HC.out.mono ?_
  rintro e w2 ⟨rfl, hb2⟩
  have hbb := HW.out.trans (hb2.mono HW.out.size)
  obtain ⟨b0, b1, b2, b3, b4⟩ := box_cells ((hb2.block _ (lt_heap HB.out)).trans HB.out)
  clear hb2 HC
  go_wp2_with fail
  go_ret2
  exact ⟨rfl, hbb⟩
 ·by_cases hz : k = 0
  ·subst hz
   simp only [if_true]
   rw [if_neg (by decide)]
   clear hn
   go_enter Tryz.func83, Tryz.ntmps83
   go_wp2_with fail
   refine HC.out.mono ?_
   rintro e w2 ⟨rfl, hb2⟩
   have hbb := HW.out.trans (hb2.mono HW.out.size)
   obtain ⟨b0, b1, b2, b3, b4⟩ := box_cells ((hb2.block _ (lt_heap HB.out)).trans HB.out)
   clear hb2 HC
   go_wp2_with fail
   go_ret2
   exact ⟨rfl, hbb⟩
  ·simp only [hn, hz, if_false]
   have hzb : (k != 0) = true := by simp [hz]
   go_enter Tryz.func83, Tryz.ntmps83
   go_wp2_with fail
   refine HC.out.mono ?_
   rintro e w2 ⟨rfl, hb2⟩
   have hbb := HW.out.trans (hb2.mono HW.out.size)
   obtain ⟨b0, b1, b2, b3, b4⟩ := box_cells ((hb2.block _ (lt_heap HB.out)).trans HB.out)
   clear hb2 HC
   go_wp2_with fail
   go_ret2
   exact ⟨rfl, hbb⟩
set_option maxRecDepth 100000 in
set_option maxHeartbeats 16000000 in
theorem krel_any (op name : ByteArray) (n pos : Int) (kb ko len cap : Nat) (w : World) (M m : Nat) (pv : Value) (O : ByteArray → Int) (ho : OrdIs w M m O) (hl : len = 2) (op1 name1 : ByteArray) (n1 pos1 : Int) (a1 : Option Addr) (l1 cap1 : Nat) (op2 name2 : ByteArray) (n2 pos2 : Int) (a2 : Option Addr) (l2 cap2 : Nat) (hn1 : NodeAt w kb ko op1 name1 n1 pos1 a1 l1 cap1) (hn2 : NodeAt w kb (ko + 5) op2 name2 n2 pos2 a2 l2 cap2) (x y : KR) (hc1' : ∀ W, OrdIs W M m O → Below w.heap.size w W → Calls Tryz.prog 55 #[scV M pv, .agg #[.string op1, .string name1, .int .i64 n1, .int .i64 pos1, .slice a1 l1 cap1]] W fun e w' => e = .returned (.tuple #[.int .i64 x.k, .int .i64 x.pos, .int .i64 x.e]) ∧ Below W.heap.size W w') (hc2' : ∀ W, OrdIs W M m O → Below w.heap.size w W → Calls Tryz.prog 55 #[scV M pv, .agg #[.string op2, .string name2, .int .i64 n2, .int .i64 pos2, .slice a2 l2 cap2]] W fun e w' => e = .returned (.tuple #[.int .i64 y.k, .int .i64 y.pos, .int .i64 y.e]) ∧ Below W.heap.size W w') :
  Calls Tryz.prog 84 #[scV M pv, .agg #[.string op, .string name, .int .i64 n, .int .i64 pos, .slice (some ⟨kb, ko, none⟩) len cap]] w fun e w' => e = .returned (.tuple #[.int .i64 (relK op pos x y).1, .int .i64 (relK op pos x y).2]) ∧ Below w.heap.size w w' := by
 have hc2 := cellsScope
 have hc5 := cellsNode
 have HW := Lib.hid (two_boxes w (scBox M pv) (boxOf op name n pos (some ⟨kb, ko, none⟩) len cap))
 have hx : w.heap.size < (w.alloc (scBox M pv)).heap.size := by simp
 have HS := Lib.hid ((Below.heap_alloc (w.alloc (scBox M pv)) (boxOf op name n pos (some ⟨kb, ko, none⟩) len cap) _ hx).trans (new_at w (scBox M pv)))
 have HB := Lib.hid (show ((w.alloc (scBox M pv)).alloc (boxOf op name n pos (some ⟨kb, ko, none⟩) len cap)).heap[w.heap.size + 1]? = some (boxOf op name n pos (some ⟨kb, ko, none⟩) len cap) from by have h := new_at (w.alloc (scBox M pv)) (boxOf op name n pos (some ⟨kb, ko, none⟩) len cap); rw [alloc_size] at h; exact h)
 obtain ⟨k0, k1⟩ := sc_cells HS.out
 obtain ⟨b0, b1, b2, b3, b4⟩ := box_cells HB.out
 obtain ⟨c10, c11, c12, c13, c14⟩ := hn1.below HW.out
 obtain ⟨c20, c21, c22, c23, c24⟩ := hn2.below HW.out
 simp only [Nat.add_assoc, Nat.reduceAdd] at c21 c22 c23 c24
 have hl2a : (0 : Int) < len := by omega
 have hl2b : (1 : Int) < len := by omega
 have hl0 : 0 < len := by omega
 have hl1 : 1 < len := by omega
 clear hl
 have HC1 := Lib.hid (hc1' ((w.alloc (scBox M pv)).alloc (boxOf op name n pos (some ⟨kb, ko, none⟩) len cap)).drew ((ho.below HW.out).drew) HW.out.drew)
 have HC2 := Lib.hid (fun W (h : Below ((w.alloc (scBox M pv)).alloc (boxOf op name n pos (some ⟨kb, ko, none⟩) len cap)).heap.size ((w.alloc (scBox M pv)).alloc (boxOf op name n pos (some ⟨kb, ko, none⟩) len cap)) W) => hc2' W.drew ((ho.below (HW.out.trans (h.mono HW.out.size))).drew) (HW.out.trans (h.mono HW.out.size)).drew)
 clear ho hc1' hc2' hn1 hn2 HS HB b1 b2
 obtain ⟨rv, hrv⟩ : ∃ rv, rv = relK op pos x y := ⟨_, rfl⟩
 rw [← hrv]
 have HRV := Lib.hid hrv
 clear hrv
 obtain ⟨xk, xp, xe⟩ := x
 obtain ⟨yk, yp, ye⟩ := y
 simp only [] at HC1 HC2
 go_enter Tryz.func84, Tryz.ntmps84
 go_wp2_with fail
 have HBD2 : RowKit.Hid (Below ((w.alloc (scBox M pv)).alloc (boxOf op name n pos (some ⟨kb, ko, none⟩) len cap)).heap.size ((w.alloc (scBox M pv)).alloc (boxOf op name n pos (some ⟨kb, ko, none⟩) len cap)) ((w.alloc (scBox M pv)).alloc (boxOf op name n pos (some ⟨kb, ko, none⟩) len cap)).drew) := Lib.hid (Below.refl _ _).drew
 go_region_held3 (fun wz => wz.cell? ⟨w.heap.size, 0, none⟩ = some (.map (some M)) ∧ wz.cell? ⟨w.heap.size, 1, none⟩ = some (pv) ∧ wz.cell? ⟨w.heap.size + 1, 0, none⟩ = some (.string op) ∧ wz.cell? ⟨w.heap.size + 1, 3, none⟩ = some (.int .i64 pos) ∧ wz.cell? ⟨w.heap.size + 1, 4, none⟩ = some (.slice (some ⟨kb, ko, none⟩) len cap) ∧ wz.cell? ⟨kb, ko, none⟩ = some (.string op1) ∧ wz.cell? ⟨kb, ko + 1, none⟩ = some (.string name1) ∧ wz.cell? ⟨kb, ko + 2, none⟩ = some (.int .i64 n1) ∧ wz.cell? ⟨kb, ko + 3, none⟩ = some (.int .i64 pos1) ∧ wz.cell? ⟨kb, ko + 4, none⟩ = some (.slice a1 l1 cap1) ∧ wz.cell? ⟨kb, ko + 5, none⟩ = some (.string op2) ∧ wz.cell? ⟨kb, ko + 6, none⟩ = some (.string name2) ∧ wz.cell? ⟨kb, ko + 7, none⟩ = some (.int .i64 n2) ∧ wz.cell? ⟨kb, ko + 8, none⟩ = some (.int .i64 pos2) ∧ wz.cell? ⟨kb, ko + 9, none⟩ = some (.slice a2 l2 cap2)) (go_keep) (first | (go_at_call 55; refine HC1.out.mono ?_; rintro e w2 ⟨rfl, hb2⟩; replace k0 := cell_below (HBD2.out.trans (hb2.mono HBD2.out.size)) k0; replace k1 := cell_below (HBD2.out.trans (hb2.mono HBD2.out.size)) k1; replace b0 := cell_below (HBD2.out.trans (hb2.mono HBD2.out.size)) b0; replace b3 := cell_below (HBD2.out.trans (hb2.mono HBD2.out.size)) b3; replace b4 := cell_below (HBD2.out.trans (hb2.mono HBD2.out.size)) b4; replace c10 := cell_below (HBD2.out.trans (hb2.mono HBD2.out.size)) c10; replace c11 := cell_below (HBD2.out.trans (hb2.mono HBD2.out.size)) c11; replace c12 := cell_below (HBD2.out.trans (hb2.mono HBD2.out.size)) c12; replace c13 := cell_below (HBD2.out.trans (hb2.mono HBD2.out.size)) c13; replace c14 := cell_below (HBD2.out.trans (hb2.mono HBD2.out.size)) c14; replace c20 := cell_below (HBD2.out.trans (hb2.mono HBD2.out.size)) c20; replace c21 := cell_below (HBD2.out.trans (hb2.mono HBD2.out.size)) c21; replace c22 := cell_below (HBD2.out.trans (hb2.mono HBD2.out.size)) c22; replace c23 := cell_below (HBD2.out.trans (hb2.mono HBD2.out.size)) c23; replace c24 := cell_below (HBD2.out.trans (hb2.mono HBD2.out.size)) c24; have HB2 := Lib.hid (HBD2.out.trans (hb2.mono HBD2.out.size)); clear hb2))
 have HCB := Lib.hid (HC2.out w2 HB2.out)
 have HBB := Lib.hid (HW.out.trans (HB2.out.mono HW.out.size))
 clear HBD2 HC1 HC2 HB2
 by_cases hxe : xe = 0
 ·subst hxe
  go_wp2_with fail
  have HBD3 : RowKit.Hid (Below w2.heap.size w2 w2.drew) := Lib.hid (Below.refl _ _).drew
  go_region_held3 (fun wz => wz.cell? ⟨w.heap.size, 0, none⟩ = some (.map (some M)) ∧ wz.cell? ⟨w.heap.size, 1, none⟩ = some (pv) ∧ wz.cell? ⟨w.heap.size + 1, 0, none⟩ = some (.string op) ∧ wz.cell? ⟨w.heap.size + 1, 3, none⟩ = some (.int .i64 pos) ∧ wz.cell? ⟨w.heap.size + 1, 4, none⟩ = some (.slice (some ⟨kb, ko, none⟩) len cap) ∧ wz.cell? ⟨kb, ko, none⟩ = some (.string op1) ∧ wz.cell? ⟨kb, ko + 1, none⟩ = some (.string name1) ∧ wz.cell? ⟨kb, ko + 2, none⟩ = some (.int .i64 n1) ∧ wz.cell? ⟨kb, ko + 3, none⟩ = some (.int .i64 pos1) ∧ wz.cell? ⟨kb, ko + 4, none⟩ = some (.slice a1 l1 cap1) ∧ wz.cell? ⟨kb, ko + 5, none⟩ = some (.string op2) ∧ wz.cell? ⟨kb, ko + 6, none⟩ = some (.string name2) ∧ wz.cell? ⟨kb, ko + 7, none⟩ = some (.int .i64 n2) ∧ wz.cell? ⟨kb, ko + 8, none⟩ = some (.int .i64 pos2) ∧ wz.cell? ⟨kb, ko + 9, none⟩ = some (.slice a2 l2 cap2)) (go_keep) (first | (go_at_call 55; refine HCB.out.mono ?_; rintro e w3 ⟨rfl, hb3⟩; replace k0 := cell_below (HBD3.out.trans (hb3.mono HBD3.out.size)) k0; replace k1 := cell_below (HBD3.out.trans (hb3.mono HBD3.out.size)) k1; replace b0 := cell_below (HBD3.out.trans (hb3.mono HBD3.out.size)) b0; replace b3 := cell_below (HBD3.out.trans (hb3.mono HBD3.out.size)) b3; replace b4 := cell_below (HBD3.out.trans (hb3.mono HBD3.out.size)) b4; replace c10 := cell_below (HBD3.out.trans (hb3.mono HBD3.out.size)) c10; replace c11 := cell_below (HBD3.out.trans (hb3.mono HBD3.out.size)) c11; replace c12 := cell_below (HBD3.out.trans (hb3.mono HBD3.out.size)) c12; replace c13 := cell_below (HBD3.out.trans (hb3.mono HBD3.out.size)) c13; replace c14 := cell_below (HBD3.out.trans (hb3.mono HBD3.out.size)) c14; replace c20 := cell_below (HBD3.out.trans (hb3.mono HBD3.out.size)) c20; replace c21 := cell_below (HBD3.out.trans (hb3.mono HBD3.out.size)) c21; replace c22 := cell_below (HBD3.out.trans (hb3.mono HBD3.out.size)) c22; replace c23 := cell_below (HBD3.out.trans (hb3.mono HBD3.out.size)) c23; replace c24 := cell_below (HBD3.out.trans (hb3.mono HBD3.out.size)) c24; have HB3 := Lib.hid (HBD3.out.trans (hb3.mono HBD3.out.size)); clear hb3))
  have HBC := Lib.hid (HBB.out.trans (HB3.out.mono HBB.out.size))
  clear HBD3 HCB HB3 HBB
  by_cases hye : ye = 0
  ·subst hye
   have HCR := Lib.hid (relates_any op xk yk w3)
   rcases bool_two (relOk op xk yk) with hrb | hrb
   ·rw [hrb] at HCR
    have hrv2 : rv = (0, 0) := by rw [HRV.out]; unfold relK; simp [hrb]
    clear HRV
    subst hrv2
    clear hrb
    go_wp2_with fail
    refine HCR.out.mono ?_
    rintro e w4 ⟨rfl, hb4⟩
    have hbb := HBC.out.trans (hb4.mono HBC.out.size)
    replace b3 := cell_below hb4 b3
    clear hb4 HCR
    go_wp2_with fail
    go_ret2
    exact ⟨rfl, hbb⟩
   ·rw [hrb] at HCR
    have hrv2 : rv = (pos, 7) := by rw [HRV.out]; unfold relK; simp [hrb]
    clear HRV
    subst hrv2
    clear hrb
    go_wp2_with fail
    refine HCR.out.mono ?_
    rintro e w4 ⟨rfl, hb4⟩
    have hbb := HBC.out.trans (hb4.mono HBC.out.size)
    replace b3 := cell_below hb4 b3
    clear hb4 HCR
    go_wp2_with fail
    go_ret2
    exact ⟨rfl, hbb⟩
  ·have hrv2 : rv = (yp, ye) := by rw [HRV.out]; unfold relK; simp [hye]
   have hyb : (ye != 0) = true := by simp [hye]
   clear HRV hye
   subst hrv2
   go_wp2_with fail
   go_ret2
   exact ⟨rfl, HBC.out⟩
 ·have hrv2 : rv = (xp, xe) := by rw [HRV.out]; unfold relK; simp [hxe]
  have hxb : (xe != 0) = true := by simp [hxe]
  clear HRV hxe HCB
  subst hrv2
  go_wp2_with fail
  go_ret2
  exact ⟨rfl, HBB.out⟩
end Go.Proofs.YtmpcmpeloebnhaaGreatDoor
