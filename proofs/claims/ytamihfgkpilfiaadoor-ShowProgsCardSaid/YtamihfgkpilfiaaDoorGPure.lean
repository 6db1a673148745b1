/- Which names may be; what formulas and terms are, plainly. -/
import Derived.Test.YtamihfgkpilfiaaDoorNodeR
import Derived.Test.YtamihfgkpilfiaaDoorLexCR
import Derived.Test.YtamihfgkpilfiaaDoorLexA
import Derived.Test.YtamihfgkpilfiaaDoorRows
import Derived.WalkKit
import Derived.WalkLawsBesides
import Derived.WalkSpells
import Derived.ProofKit
import Derived.Outline
import Derived.Deep.QuietTactic
import Derived.BigQuiet
import Derived.Deep.Light
import Derived.Deep.CutBlock
import Derived.Deep.DeepCutAuto
import Derived.Deep.DeepFit
import Derived.Deep.LoopGhost
import Derived.Lib.Hide
import Derived.Lib.OthersKept
import Derived.IntWalk
import Derived.StillTailTactics
namespace Go.Proofs.YtamihfgkpilfiaaDoor
open Go.RowKit
/-! Which names may be: mayBeName and IsName. -/
def oneName (s : ByteArray) : List Tok → Bool
  | [t, _] => decide (t.kind = 1) && (t.text.toList == s.toList)
  | _ => false
def nameB (s : ByteArray) : Bool := decide ((toks s).2.2 = 0) && oneName s (toks s).1
theorem toks_big (s : ByteArray) (h : ¬ s.size ≤ 2000) : toks s = ([], 0, 3) := by unfold toks; rw [if_neg h]
theorem nameB_big (s : ByteArray) (h : ¬ s.size ≤ 2000) : nameB s = false := by unfold nameB; rw [toks_big s h]; rfl
/-! What formulas and terms are, plainly. -/
def isJoin (op : ByteArray) : Bool := op.toList == [117, 110, 105, 111, 110] || op.toList == [105, 110, 116, 101, 114] || op.toList == [109, 105, 110, 117, 115]
/-- Has a node just what a shape has? -/
def fitB (named : Bool) (name : ByteArray) (ln mn n lk mk : Int) (len : Nat) (all : Bool) : Bool :=
  (if named then nameB name else name.toList == []) && (decide (ln ≤ n) && decide (n ≤ mn) && decide (lk ≤ (len : Int)) && decide ((len : Int) ≤ mk)) && all
def opF0 (op : ByteArray) : Bool := op.toList == [116, 114, 117, 101] || op.toList == [102, 97, 108, 115, 101]
def opF2 (op : ByteArray) : Bool := op.toList == [97, 110, 100] || op.toList == [111, 114] || op.toList == [105, 109, 112] || op.toList == [105, 102, 102]
def opFq (op : ByteArray) : Bool := op.toList == [101, 120] || op.toList == [97, 108, 108]
def opFr (op : ByteArray) : Bool := op.toList == [101, 113] || op.toList == [110, 101] || op.toList == [108, 116] || op.toList == [108, 101] || op.toList == [105, 110] || op.toList == [110, 111, 116, 105, 110] || op.toList == [115, 117, 98]
def stepF (op name : ByteArray) (n : Int) (len : Nat) (kf kt : Bool) : Bool :=
  if opF0 op then fitB false name 0 0 n 0 0 len true
  else if op.toList == [110, 111, 116] then fitB false name 0 0 n 1 1 len kf
  else if opF2 op then fitB false name 0 0 n 2 2 len kf
  else if opFq op then fitB true name 0 2 n 1 1 len kf
  else if op.toList == [105, 115] then fitB true name 0 0 n 0 0 len true
  else if opFr op then fitB false name 0 0 n 2 2 len kt
  else if op.toList == [99, 97, 108, 108] then fitB true name 0 0 n 0 6 len kt
  else false
def stepT (op name : ByteArray) (n : Int) (len : Nat) (kt kv kn second : Bool) : Bool :=
  if op.toList == [118, 97, 114] then fitB true name 0 0 n 0 0 len true
  else if op.toList == [110, 117, 109] then fitB false name 0 99 n 0 0 len true
  else if op.toList == [112, 108, 117, 115] then fitB false name 1 99 n 1 1 len kv
  else if op.toList == [115, 101, 116] then fitB false name 0 0 n 0 6 len kn
  else isJoin op && fitB false name 0 0 n 2 2 len kt && !second
/-- Is the second one of a row a union, inter, minus? -/
def Fo.second : Fo → Bool
  | .cons _ _ _ _ _ _ _ (.cons op _ _ _ _ _ _ _) => isJoin op
  | _ => false
/-- Are all of a row formulas, terms, variables, numbers? -/
structure Sorts where
  f : Bool
  t : Bool
  v : Bool
  n : Bool
def Fo.sorts : Fo → Sorts
  | .nil => ⟨true, true, true, true⟩
  | .cons op name n _ _ _ kids rest =>
    let T := stepT op name n kids.len kids.sorts.t kids.sorts.v kids.sorts.n kids.second
    ⟨stepF op name n kids.len kids.sorts.f kids.sorts.t && rest.sorts.f, T && rest.sorts.t, (op.toList == [118, 97, 114] && T) && rest.sorts.v, (!(op.toList == [115, 101, 116]) && !isJoin op && T) && rest.sorts.n⟩
def Nd.okF (T : Nd) : Bool := stepF T.op T.name T.n T.kids.len T.kids.sorts.f T.kids.sorts.t
def Nd.okT (T : Nd) : Bool := stepT T.op T.name T.n T.kids.len T.kids.sorts.t T.kids.sorts.v T.kids.sorts.n T.kids.second
def Nd.okV (T : Nd) : Bool := T.op.toList == [118, 97, 114] && T.okT
def Nd.okN (T : Nd) : Bool := !(T.op.toList == [115, 101, 116]) && !isJoin T.op && T.okT
/-- A test of each of a row. -/
def Fo.allB (p : Nd → Bool) : Fo → Bool
  | .nil => true
  | .cons op name n pos a cap kids rest => p ⟨op, name, n, pos, a, cap, kids⟩ && rest.allB p
theorem sorts_f (F : Fo) : F.sorts.f = F.allB Nd.okF := by
  induction F with
  | nil => rfl
  | cons op name n pos a cap kids rest ihk ihr => show (_ && rest.sorts.f) = (_ && rest.allB Nd.okF); rw [ihr]; rfl
theorem sorts_t (F : Fo) : F.sorts.t = F.allB Nd.okT := by
  induction F with
  | nil => rfl
  | cons op name n pos a cap kids rest ihk ihr => show (_ && rest.sorts.t) = (_ && rest.allB Nd.okT); rw [ihr]; rfl
theorem sorts_v (F : Fo) : F.sorts.v = F.allB Nd.okV := by
  induction F with
  | nil => rfl
  | cons op name n pos a cap kids rest ihk ihr => show (_ && rest.sorts.v) = (_ && rest.allB Nd.okV); rw [ihr]; rfl
theorem sorts_n (F : Fo) : F.sorts.n = F.allB Nd.okN := by
  induction F with
  | nil => rfl
  | cons op name n pos a cap kids rest ihk ihr => show (_ && rest.sorts.n) = (_ && rest.allB Nd.okN); rw [ihr]; rfl
end Go.Proofs.YtamihfgkpilfiaaDoor
