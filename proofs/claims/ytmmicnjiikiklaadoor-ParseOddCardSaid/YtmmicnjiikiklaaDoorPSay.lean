/- What the parts of parse say. -/
import Derived.Test.YtmmicnjiikiklaaDoorPGb
import Derived.Test.YtmmicnjiikiklaaDoorRLast
import Derived.Test.YtmmicnjiikiklaaDoorLexA
import Derived.Test.YtmmicnjiikiklaaDoorRows
import Derived.WalkKit
import Derived.WalkLawsBesides
import Derived.WalkSpells
import Derived.ProofKit
import Derived.Outline
import Derived.Deep.QuietTactic
import Derived.BigQuiet
import Derived.Deep.Light
import Derived.Deep.CutBlock
import Derived.Deep.DeepCutAuto
import Derived.Deep.DeepFit
import Derived.Deep.LoopGhost
import Derived.Lib.Hide
import Derived.Lib.OthersKept
import Derived.IntWalk
import Derived.StillTailTactics
namespace Go.Proofs.YtmmicnjiikiklaaDoor
open Go.RowKit
/-! What the parts of parse say; leftFirst. -/
/-- What becomes of a call that reads a node. -/
def OutN (B : Nat) (d : Int) (S : Nat → Prop) (w' : World) (T : Nd) : Res Nd → Prop
  | .ok t l => RdS w' B d (.good l) ∧ T.Good S w' ∧ T.strip = t
  | .bad a e => RdS w' B d (.bad a e)
def PostN (B : Nat) (d : Int) (w : World) (r : Res Nd) (e : Ending) (w' : World) : Prop := ∃ T : Nd, e = .returned (.agg #[.string T.op, .string T.name, .int .i64 T.n, .int .i64 T.pos, .slice T.a T.kids.len T.cap]) ∧ Kp B w w' ∧ OutN B d (fun b => w.heap.size ≤ b) w' T r
def SayN (F need : Nat) (p : Nat → Nat → List Tok → Res Nd) (f : Nat) : Prop :=
  ∀ (l : List Tok) (w : World) (B d : Nat), d ≤ 30 → PTB B w → EndsOk l → need + 20 * l.length ≤ f → RdS w B (d : Int) (.good l) → Calls Tryd.prog F #[.pointer (some ⟨B, 0, none⟩)] w (PostN B d w (p f d l))
def BadN (F : Nat) : Prop := ∀ (w : World) (B d : Nat) (a e : Int), d ≤ 30 → PTB B w → RdS w B (d : Int) (.bad a e) → Calls Tryd.prog F #[.pointer (some ⟨B, 0, none⟩)] w (PostN B d w (.bad a e))
theorem RdS.drew {w : World} {B : Nat} {d : Int} {s : St} (h : RdS w B d s) : RdS w.drew B d s := h.same fun _ _ => rfl
theorem PTB.drew {w : World} {B : Nat} (h : PTB B w) : PTB B w.drew := h
theorem Kp.drew {B : Nat} {a b : World} (h : Kp B a b) : Kp B a b.drew := ⟨h.os, h.tape, h.output, h.size, h.block⟩
theorem kp_drew {B : Nat} {a b : World} (h : Kp B a.drew b) : Kp B a b := ⟨h.os, h.tape, h.output, h.size, h.block⟩
theorem set5_size (w : World) (B : Nat) (a b c d e : Value) : (((((w.setCell ⟨B, 0, none⟩ a).setCell ⟨B, 1, none⟩ b).setCell ⟨B, 2, none⟩ c).setCell ⟨B, 3, none⟩ d).setCell ⟨B, 4, none⟩ e).heap.size = w.heap.size := by simp
theorem node_set_other {w : World} {i B : Nat} {ob : Obj} (h : w.heap[i]? = some ob) (hne : i ≠ B) (a b c d e : Value) : (((((w.setCell ⟨B, 0, none⟩ a).setCell ⟨B, 1, none⟩ b).setCell ⟨B, 2, none⟩ c).setCell ⟨B, 3, none⟩ d).setCell ⟨B, 4, none⟩ e).heap[i]? = some ob := by
  rw [Below.heap_setCell _ _ _ _ (by simpa using hne), Below.heap_setCell _ _ _ _ (by simpa using hne), Below.heap_setCell _ _ _ _ (by simpa using hne), Below.heap_setCell _ _ _ _ (by simpa using hne), Below.heap_setCell _ _ _ _ (by simpa using hne)]
  exact h
theorem box_frozen {w : World} {B : Nat} {op name : ByteArray} {n pos : Int} {a : Option Addr} {k cap : Nat} (h : w.heap[B]? = some (boxOf op name n pos a k cap)) :
    w.frozen? ⟨B, 0, none⟩ = false ∧ w.frozen? ⟨B, 1, none⟩ = false ∧ w.frozen? ⟨B, 2, none⟩ = false ∧ w.frozen? ⟨B, 3, none⟩ = false ∧ w.frozen? ⟨B, 4, none⟩ = false := by
  refine ⟨?_, ?_, ?_, ?_, ?_⟩ <;> simp [World.frozen?, h]
theorem psg_word_nil (lv : Int) (a e : Int) : psg lv (wrd (St.bad a e).l) = ⟨#[]⟩ := psg_nil lv
end Go.Proofs.YtmmicnjiikiklaaDoor
