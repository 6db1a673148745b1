/- The reader of parse in memory. -/
import Derived.Test.YtmmicnjiikiklaaDoorPPure
import Derived.Test.YtmmicnjiikiklaaDoorNode
import Derived.Test.YtmmicnjiikiklaaDoorLexA
import Derived.Test.YtmmicnjiikiklaaDoorRows
import Derived.WalkKit
import Derived.WalkLawsBesides
import Derived.WalkSpells
import Derived.ProofKit
import Derived.Outline
import Derived.Deep.QuietTactic
import Derived.BigQuiet
import Derived.Deep.Light
import Derived.Deep.CutBlock
import Derived.Deep.DeepCutAuto
import Derived.Deep.DeepFit
import Derived.Deep.LoopGhost
import Derived.Lib.Hide
import Derived.Lib.OthersKept
import Derived.IntWalk
import Derived.StillTailTactics
namespace Go.Proofs.YtmmicnjiikiklaaDoor
open Go.RowKit
/-! The reader of parse in memory. -/
/-- How it stands: so many tokens left, or a fault. -/
inductive St where
  | good (l : List Tok)
  | bad (at' err : Int)
def St.l : St → List Tok
  | .good l => l
  | .bad _ _ => []
def St.take : St → St
  | .good l => .good l.tail
  | .bad a e => .bad a e
def St.fail (s : St) (a e : Int) : St := match s with
  | .good _ => .bad a e
  | .bad a e => .bad a e

def TokAt (w : World) (b o : Nat) (t : Tok) : Prop := w.cell? ⟨b, o, none⟩ = some (.int .i64 t.kind) ∧ w.cell? ⟨b, o + 1, none⟩ = some (.string t.text) ∧ w.cell? ⟨b, o + 2, none⟩ = some (.int .i64 t.n) ∧ w.cell? ⟨b, o + 3, none⟩ = some (.int .i64 t.pos)
def ToksIn (w : World) (B : Nat) (a : Option Addr) (l : List Tok) : Prop := l = [] ∨ ∃ g o, a = some ⟨g, o, none⟩ ∧ g < B ∧ ∀ i t, l[i]? = some t → TokAt w g (o + i * 4) t
abbrev rdCells (a : Option Addr) (len cap : Nat) (d p e : Int) : Array Value := #[.slice a len cap, .int .i64 d, .int .i64 p, .int .i64 e]
def RdAt (w : World) (B : Nat) (a : Option Addr) (len cap : Nat) (d p e : Int) : Prop := w.heap[B]? = some (.cells (rdCells a len cap d p e) 49)
/-- The reader stands so, in block B; the tokens lie in an older block. -/
def RdS (w : World) (B : Nat) (d : Int) : St → Prop
  | .good l => ∃ a cap, RdAt w B a l.length cap d 0 0 ∧ l.length ≤ cap ∧ cap ≤ 9223372036854775807 ∧ ToksIn w B a l
  | .bad p e => RdAt w B none 0 0 d p e ∧ (e == 0) = false
theorem RdAt.lt {w : World} {B : Nat} {a : Option Addr} {len cap : Nat} {d p e : Int} (h : RdAt w B a len cap d p e) : B < w.heap.size := (Array.getElem?_eq_some_iff.1 h).1
theorem RdS.lt {w : World} {B : Nat} {d : Int} {s : St} (h : RdS w B d s) : B < w.heap.size := by
  cases s with
  | good l => obtain ⟨a, cap, h, _⟩ := h; exact h.lt
  | bad p e => exact h.1.lt
theorem RdAt.cells {w : World} {B : Nat} {a : Option Addr} {len cap : Nat} {d p e : Int} (h : RdAt w B a len cap d p e) : (w.cell? ⟨B, 0, none⟩ = some (.slice a len cap) ∧ w.cell? ⟨B, 1, none⟩ = some (.int .i64 d) ∧ w.cell? ⟨B, 2, none⟩ = some (.int .i64 p) ∧ w.cell? ⟨B, 3, none⟩ = some (.int .i64 e)) ∧ (w.frozen? ⟨B, 0, none⟩ = false ∧ w.frozen? ⟨B, 1, none⟩ = false ∧ w.frozen? ⟨B, 2, none⟩ = false ∧ w.frozen? ⟨B, 3, none⟩ = false) := by
  unfold RdAt at h
  refine ⟨⟨?_, ?_, ?_, ?_⟩, ⟨?_, ?_, ?_, ?_⟩⟩
  all_goals first | (rw [cell_of_row w B _ _ _ _ h]; rfl) | simp [World.frozen?, h]
theorem cell_same {w w' : World} {g : Nat} (h : w'.heap[g]? = w.heap[g]?) {o : Nat} {v : Value} (hc : w.cell? ⟨g, o, none⟩ = some v) : w'.cell? ⟨g, o, none⟩ = some v := by
  rw [World.cell?_of_block (a := ⟨g, o, none⟩) h]; exact hc
theorem TokAt.same {w w' : World} {g o : Nat} {t : Tok} (h : w'.heap[g]? = w.heap[g]?) (ht : TokAt w g o t) : TokAt w' g o t := ⟨cell_same h ht.1, cell_same h ht.2.1, cell_same h ht.2.2.1, cell_same h ht.2.2.2⟩
theorem ToksIn.same {w w' : World} {B : Nat} (h : ∀ g, g < B → w'.heap[g]? = w.heap[g]?) {a : Option Addr} {l : List Tok} (ht : ToksIn w B a l) : ToksIn w' B a l := by
  rcases ht with ht | ⟨g, o, h1, h2, h3⟩
  · exact .inl ht
  · exact .inr ⟨g, o, h1, h2, fun i t hi => (h3 i t hi).same (h g h2)⟩
theorem RdS.same {w w' : World} {B : Nat} {d : Int} {s : St} (h : ∀ g, g ≤ B → w'.heap[g]? = w.heap[g]?) (hr : RdS w B d s) : RdS w' B d s := by
  cases s with
  | good l =>
    obtain ⟨a, cap, h1, h2, h3, h4⟩ := hr
    refine ⟨a, cap, ?_, h2, h3, h4.same fun g hg => h g (by omega)⟩
    unfold RdAt at *
    rw [h B (Nat.le_refl _)]; exact h1
  | bad p e =>
    refine ⟨?_, hr.2⟩
    have := hr.1
    unfold RdAt at *
    rw [h B (Nat.le_refl _)]; exact this
theorem RdS.below {w w' : World} {B : Nat} {d : Int} {s : St} (hr : RdS w B d s) (hb : Below w.heap.size w w') : RdS w' B d s :=
  hr.same fun g hg => hb.block g (Nat.lt_of_le_of_lt hg hr.lt)
theorem RdS.alloc {w : World} {B : Nat} {d : Int} {s : St} (hr : RdS w B d s) (o : Obj) : RdS (w.alloc o) B d s := hr.below (below_box w o)
theorem RdS.set {w : World} {B : Nat} {d : Int} {s : St} (hr : RdS w B d s) {p : Addr} (hp : B < p.block) (v : Value) : RdS (w.setCell p v) B d s :=
  hr.same fun g hg => Below.heap_setCell _ _ _ _ (by omega)
/-- Block B may have been written; all other blocks are as they were. -/
def Kp (B : Nat) (w w' : World) : Prop := w.grownBy w' (some B)
theorem Kp.refl (B : Nat) (w : World) : Kp B w w := ⟨rfl, rfl, rfl, Nat.le_refl _, fun _ _ _ => rfl⟩
theorem Kp.trans {B : Nat} {a b c : World} (h : Kp B a b) (k : Kp B b c) : Kp B a c := World.grownBy.trans h k
theorem Kp.below {B : Nat} {a b c : World} (h : Kp B a b) (k : Below b.heap.size b c) : Kp B a c :=
  World.grownBy.trans h ⟨k.os, k.tape, k.output, k.size, fun i hi _ => k.block i hi⟩
theorem Kp.alloc {B : Nat} {a b : World} (h : Kp B a b) (o : Obj) : Kp B a (b.alloc o) := h.below (below_box b o)
theorem Kp.set {B : Nat} {a b : World} (h : Kp B a b) {p : Addr} (hp : a.heap.size ≤ p.block) (v : Value) : Kp B a (b.setCell p v) :=
  ⟨h.os, h.tape, h.output, by simp [World.setCell]; exact h.size, fun i hi hne => (Below.heap_setCell _ _ _ _ (by omega)).trans (h.block i hi hne)⟩
theorem Kp.setB {B : Nat} {a b : World} (h : Kp B a b) (i : Nat) (v : Value) : Kp B a (b.setCell ⟨B, i, none⟩ v) :=
  ⟨h.os, h.tape, h.output, by simp [World.setCell]; exact h.size, fun i hi hne => (Below.heap_setCell _ _ _ _ (fun e => hne (by rw [e]))).trans (h.block i hi hne)⟩
theorem Kp.of_below {B : Nat} {a b : World} (k : Below a.heap.size a b) : Kp B a b := (Kp.refl B a).below k
theorem Kp.size {B : Nat} {a b : World} (h : Kp B a b) : a.heap.size ≤ b.heap.size := World.grownBy.size h
/-- The blocks of a set that were there are as they were. -/
structure From (S : Nat → Prop) (w w' : World) : Prop where
  size : w.heap.size ≤ w'.heap.size
  block : ∀ b, S b → b < w.heap.size → w'.heap[b]? = w.heap[b]?
theorem From.refl (S : Nat → Prop) (w : World) : From S w w := ⟨Nat.le_refl _, fun _ _ _ => rfl⟩
theorem From.trans {S : Nat → Prop} {a b c : World} (h : From S a b) (k : From S b c) : From S a c :=
  ⟨Nat.le_trans h.size k.size, fun i hl hi => (k.block i hl (Nat.lt_of_lt_of_le hi h.size)).trans (h.block i hl hi)⟩
theorem From.below {S : Nat → Prop} {a b : World} (k : Below a.heap.size a b) : From S a b := ⟨k.size, fun i _ hi => k.block i hi⟩
theorem From.alloc (S : Nat → Prop) (w : World) (o : Obj) : From S w (w.alloc o) := From.below (below_box w o)
theorem From.set {S : Nat → Prop} (w : World) {p : Addr} (hp : ¬ S p.block) (v : Value) : From S w (w.setCell p v) :=
  ⟨by simp [World.setCell], fun i hl _ => Below.heap_setCell _ _ _ _ (fun e => hp (e ▸ hl))⟩
theorem Kp.from {S : Nat → Prop} {B : Nat} {a b : World} (h : Kp B a b) (hB : ¬ S B) : From S a b := ⟨h.size, fun i hl hi => h.block i hi (fun e => hB (Option.some.inj e ▸ hl))⟩
/-- All blocks of a row's kids are of a set. -/
def Fo.above (S : Nat → Prop) : Fo → Prop
  | .nil => True
  | .cons _ _ _ _ a _ kids rest => (kids = .nil ∨ ∃ b o, a = some ⟨b, o, none⟩ ∧ S b) ∧ Fo.above S kids ∧ Fo.above S rest
def Nd.above (S : Nat → Prop) (T : Nd) : Prop := (T.kids = .nil ∨ ∃ b o, T.a = some ⟨b, o, none⟩ ∧ S b) ∧ T.kids.above S
theorem Fo.above.mono {S S' : Nat → Prop} (hl : ∀ b, S b → S' b) : ∀ {F : Fo}, F.above S → F.above S' := by
  intro F
  induction F with
  | nil => intro _; trivial
  | cons op name n pos a cap kids rest ihk ihr =>
    rintro ⟨h1, h2, h3⟩
    refine ⟨?_, ihk h2, ihr h3⟩
    rcases h1 with h1 | ⟨b, o, h1, h4⟩
    · exact .inl h1
    · exact .inr ⟨b, o, h1, hl b h4⟩
theorem Nd.above.mono {S S' : Nat → Prop} (hl : ∀ b, S b → S' b) {T : Nd} (h : T.above S) : T.above S' := by
  refine ⟨?_, h.2.mono hl⟩
  rcases h.1 with h1 | ⟨b, o, h1, h4⟩
  · exact .inl h1
  · exact .inr ⟨b, o, h1, hl b h4⟩
theorem NodeAt.same {w w' : World} {b o : Nat} {op name : ByteArray} {n pos : Int} {a : Option Addr} {k cap : Nat} (hs : w'.heap[b]? = w.heap[b]?) (h : NodeAt w b o op name n pos a k cap) : NodeAt w' b o op name n pos a k cap :=
  ⟨cell_same hs h.1, cell_same hs h.2.1, cell_same hs h.2.2.1, cell_same hs h.2.2.2.1, cell_same hs h.2.2.2.2⟩
theorem Fo.In.from {S : Nat → Prop} {w w' : World} (hg : From S w w') : ∀ {F : Fo} {b o : Nat}, F.In w b o → S b → F.above S → F.In w' b o := by
  intro F
  induction F with
  | nil => intro b o _ _ _; trivial
  | cons op name n pos a cap kids rest ihk ihr =>
    rintro b o ⟨h0, hk, hr⟩ hb ⟨ho, hok, hor⟩
    have hsame := hg.block b hb (lt_of_cell h0.1)
    refine ⟨h0.same hsame, ?_, ihr hr hb hor⟩
    rcases hk with hk | ⟨b', o', ha, hl, ⟨h5, hf⟩, hin⟩
    · exact .inl hk
    · rcases ho with ho | ⟨b2, o2, ha2, hb2⟩
      · exact .inl ho
      · rw [ha] at ha2
        have e1 : b' = b2 := congrArg Addr.block (Option.some.inj ha2)
        have hb' : S b' := e1 ▸ hb2
        refine .inr ⟨b', o', ha, hl, ⟨h5, ?_⟩, ihk hin hb' hok⟩
        rw [World.frozen?_of_block (a := ⟨b', o', none⟩) (hg.block b' hb' (hin.lt h5))]
        exact hf
/-- What lies in a world lies in blocks that it has. -/
theorem Fo.above.lt {S : Nat → Prop} {w : World} : ∀ {F : Fo} {b o : Nat}, F.In w b o → F.above S → F.above (fun i => S i ∧ i < w.heap.size) := by
  intro F
  induction F with
  | nil => intro b o _ _; trivial
  | cons op name n pos a cap kids rest ihk ihr =>
    rintro b o ⟨_, hk, hr⟩ ⟨ho, hok, hor⟩
    rcases hk with hk | ⟨b', o', ha, hl, ⟨h5, hf⟩, hin⟩
    · subst hk
      exact ⟨.inl rfl, trivial, ihr hr hor⟩
    · refine ⟨?_, ihk hin hok, ihr hr hor⟩
      rcases ho with ho | ⟨b2, o2, ha2, hb2⟩
      · exact .inl ho
      · rw [ha] at ha2
        have e1 : b' = b2 := congrArg Addr.block (Option.some.inj ha2)
        exact .inr ⟨b', o', ha, e1 ▸ hb2, hin.lt h5⟩
/-- A node that lies in memory, in blocks of a set. -/
structure Nd.Good (S : Nat → Prop) (w : World) (T : Nd) : Prop where
  lies : T.In w
  above : T.above S
theorem Nd.Good.from {S : Nat → Prop} {w w' : World} {T : Nd} (h : T.Good S w) (hg : From S w w') : T.Good S w' := by
  refine ⟨?_, h.above⟩
  rcases h.lies with h1 | ⟨b', o', ha, hl, ⟨h5, hf⟩, hin⟩
  · exact .inl h1
  · rcases h.above.1 with ho | ⟨b2, o2, ha2, hb2⟩
    · exact .inl ho
    · rw [ha] at ha2
      have e1 : b' = b2 := congrArg Addr.block (Option.some.inj ha2)
      have hb' : S b' := e1 ▸ hb2
      refine .inr ⟨b', o', ha, hl, ⟨h5, ?_⟩, hin.from hg hb' h.above.2⟩
      rw [World.frozen?_of_block (a := ⟨b', o', none⟩) (hg.block b' hb' (hin.lt h5))]
      exact hf
theorem Nd.Good.mono {S S' : Nat → Prop} {w : World} {T : Nd} (h : T.Good S w) (hl : ∀ b, S b → S' b) : T.Good S' w := ⟨h.lies, h.above.mono hl⟩
theorem Nd.Good.lt {S : Nat → Prop} {w : World} {T : Nd} (h : T.Good S w) : T.Good (fun i => S i ∧ i < w.heap.size) w := by
  refine ⟨h.lies, ?_⟩
  rcases h.lies with h1 | ⟨b', o', ha, hl, ⟨h5, hf⟩, hin⟩
  · have h2 := h.above.2
    rw [h1] at h2
    exact ⟨.inl h1, by rw [h1]; trivial⟩
  · refine ⟨?_, h.above.2.lt hin⟩
    rcases h.above.1 with ho | ⟨b2, o2, ha2, hb2⟩
    · exact .inl ho
    · rw [ha] at ha2
      have e1 : b' = b2 := congrArg Addr.block (Option.some.inj ha2)
      exact .inr ⟨b', o', ha, e1 ▸ hb2, hin.lt h5⟩
theorem Nd.Good.leaf (S : Nat → Prop) (w : World) (op name : ByteArray) (n pos : Int) (a : Option Addr) (cap : Nat) : Nd.Good S w ⟨op, name, n, pos, a, cap, .nil⟩ := ⟨.inl rfl, .inl rfl, trivial⟩
/-- A row of one node, of two, in a block of its own. -/
theorem good1 {S : Nat → Prop} {w : World} {G cap : Nat} {op name : ByteArray} {n pos : Int} {T : Nd} (hG : S G) (h : w.heap[G]? = some (.cells #[.string T.op, .string T.name, .int .i64 T.n, .int .i64 T.pos, .slice T.a T.kids.len T.cap] 26)) (hT : T.Good S w) :
    Nd.Good S w ⟨op, name, n, pos, some ⟨G, 0, none⟩, cap, .cons T.op T.name T.n T.pos T.a T.cap T.kids .nil⟩ := by
  obtain ⟨c0, c1, c2, c3, c4⟩ := box_cells h
  refine ⟨.inr ⟨G, 0, rfl, ?_, ⟨Nat.succ_pos _, ?_⟩, ⟨⟨c0, c1, c2, c3, c4⟩, hT.lies, trivial⟩⟩, .inr ⟨G, 0, rfl, hG⟩, hT.above.1, hT.above.2, trivial⟩
  · show 0 + 1 ≤ _; omega
  · unfold World.frozen?
    simp only [h]
    rfl
theorem good2 {S : Nat → Prop} {w : World} {G cap : Nat} {op name : ByteArray} {n pos : Int} {T U : Nd} (hG : S G) (h : w.heap[G]? = some (.cells #[.string T.op, .string T.name, .int .i64 T.n, .int .i64 T.pos, .slice T.a T.kids.len T.cap, .string U.op, .string U.name, .int .i64 U.n, .int .i64 U.pos, .slice U.a U.kids.len U.cap] 26)) (hT : T.Good S w) (hU : U.Good S w) :
    Nd.Good S w ⟨op, name, n, pos, some ⟨G, 0, none⟩, cap, .cons T.op T.name T.n T.pos T.a T.cap T.kids (.cons U.op U.name U.n U.pos U.a U.cap U.kids .nil)⟩ := by
  have hc : ∀ i v, (#[.string T.op, .string T.name, .int .i64 T.n, .int .i64 T.pos, .slice T.a T.kids.len T.cap, .string U.op, .string U.name, .int .i64 U.n, .int .i64 U.pos, .slice U.a U.kids.len U.cap] : Array Value)[i]? = some v → w.cell? ⟨G, i, none⟩ = some v := by
    intro i v hv
    rw [cell_of_row _ _ _ _ _ _ h]
    exact hv
  refine ⟨.inr ⟨G, 0, rfl, ?_, ⟨Nat.succ_pos _, ?_⟩, ⟨⟨hc 0 _ rfl, hc 1 _ rfl, hc 2 _ rfl, hc 3 _ rfl, hc 4 _ rfl⟩, hT.lies, ⟨hc 5 _ rfl, hc 6 _ rfl, hc 7 _ rfl, hc 8 _ rfl, hc 9 _ rfl⟩, hU.lies, trivial⟩⟩, .inr ⟨G, 0, rfl, hG⟩, hT.above.1, hT.above.2, hU.above.1, hU.above.2, trivial⟩
  · show 0 + 1 + 1 ≤ _; omega
  · unfold World.frozen?
    simp only [h]
    rfl
/-- The last token is the end. -/
def EndsOk (l : List Tok) : Prop := ∀ t, l.getLast? = some t → t.kind = 4
theorem EndsOk.tail {l : List Tok} (h : EndsOk l) : EndsOk l.tail := by
  cases l with
  | nil => exact h
  | cons a r =>
    cases r with
    | nil => intro t ht; simp at ht
    | cons b r => intro t ht; exact h t (by simpa [List.getLast?_cons_cons] using ht)
end Go.Proofs.YtmmicnjiikiklaaDoor
