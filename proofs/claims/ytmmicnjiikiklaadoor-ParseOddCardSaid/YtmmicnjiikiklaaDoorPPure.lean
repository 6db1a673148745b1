/- A text as a program, plainly. -/
import Derived.Test.YtmmicnjiikiklaaDoorNode
import Derived.Test.YtmmicnjiikiklaaDoorLexA
import Derived.Test.YtmmicnjiikiklaaDoorRows
import Derived.WalkKit
import Derived.WalkLawsBesides
import Derived.WalkSpells
import Derived.ProofKit
import Derived.Outline
import Derived.Deep.QuietTactic
import Derived.BigQuiet
import Derived.Deep.Light
import Derived.Deep.CutBlock
import Derived.Deep.DeepCutAuto
import Derived.Deep.DeepFit
import Derived.Deep.LoopGhost
import Derived.Lib.Hide
import Derived.Lib.OthersKept
import Derived.IntWalk
import Derived.StillTailTactics
namespace Go.Proofs.YtmmicnjiikiklaaDoor
open Go.RowKit
/-! A text as a program, plainly: by tokens, with fuel. -/
abbrev emp0 : ByteArray := ⟨#[]⟩
/-- How a parse ends: with what was read and the tokens behind it, or with the first fault. -/
inductive Res (α : Type) where
  | ok (x : α) (l : List Tok)
  | bad (at' err : Int)
/-- A row of nodes without addresses. -/
def Fo.ofL : List Nd → Fo
  | [] => .nil
  | T :: r => .cons T.op T.name T.n T.pos none 0 T.kids (Fo.ofL r)
def mkN (op name : ByteArray) (n pos : Int) (kids : List Nd) : Nd := ⟨op, name, n, pos, none, 0, Fo.ofL kids⟩
def Fo.strip : Fo → Fo
  | .nil => .nil
  | .cons op name n pos _ _ kids rest => .cons op name n pos none 0 kids.strip rest.strip
def Nd.strip (T : Nd) : Nd := ⟨T.op, T.name, T.n, T.pos, none, 0, T.kids.strip⟩
/-- The next token; its text, if it is a word. -/
def hd (l : List Tok) : Tok := l.headD ⟨0, ⟨#[]⟩, 0, 0⟩
def wrd (l : List Tok) : ByteArray := if (hd l).kind == 3 then (hd l).text else ⟨#[]⟩
/-- The signs between formulas or terms: how they bind, the text, the Op. -/
def psigs : List (Int × ByteArray × ByteArray) := [(0, ⟨#[60, 61, 62]⟩, ⟨#[105, 102, 102]⟩), (1, ⟨#[61, 62]⟩, ⟨#[105, 109, 112]⟩), (2, ⟨#[124]⟩, ⟨#[111, 114]⟩), (3, ⟨#[38]⟩, ⟨#[97, 110, 100]⟩), (4, ⟨#[61]⟩, ⟨#[101, 113]⟩), (4, ⟨#[126, 61]⟩, ⟨#[110, 101]⟩), (4, ⟨#[60]⟩, ⟨#[108, 116]⟩), (4, ⟨#[60, 61]⟩, ⟨#[108, 101]⟩), (4, ⟨#[105, 110]⟩, ⟨#[105, 110]⟩), (4, ⟨#[110, 111, 116, 105, 110]⟩, ⟨#[110, 111, 116, 105, 110]⟩), (4, ⟨#[115, 117, 98]⟩, ⟨#[115, 117, 98]⟩), (5, ⟨#[117, 110, 105, 111, 110]⟩, ⟨#[117, 110, 105, 111, 110]⟩), (5, ⟨#[105, 110, 116, 101, 114]⟩, ⟨#[105, 110, 116, 101, 114]⟩), (5, ⟨#[92]⟩, ⟨#[109, 105, 110, 117, 115]⟩)]
def psgF (lv : Int) (x : ByteArray) : List (Int × ByteArray × ByteArray) → ByteArray
  | [] => ⟨#[]⟩
  | s :: r => if s.1 == lv && s.2.1.toList == x.toList then s.2.2 else psgF lv x r
def psg (lv : Int) (x : ByteArray) : ByteArray := psgF lv x psigs
/-- What closes a row: of terms, of parts of a set. -/
def clo (br : Bool) : List UInt8 := if br then [125] else [41]
abbrev tSetB : ByteArray := ⟨#[115, 101, 116]⟩
abbrev tPlusB : ByteArray := ⟨#[112, 108, 117, 115]⟩
abbrev tVarB : ByteArray := ⟨#[118, 97, 114]⟩
abbrev tNumB : ByteArray := ⟨#[110, 117, 109]⟩
abbrev tCallB : ByteArray := ⟨#[99, 97, 108, 108]⟩
abbrev tIsB : ByteArray := ⟨#[105, 115]⟩
abbrev tNotB : ByteArray := ⟨#[110, 111, 116]⟩
abbrev tExB : ByteArray := ⟨#[101, 120]⟩
abbrev tAllB : ByteArray := ⟨#[97, 108, 108]⟩
/-- The order that a word ends with. -/
def ordW (w : List UInt8) : Int := (w.getLastD 48).toNat - 48
def isExW (w : List UInt8) : Bool := w == [101, 120, 48] || w == [101, 120, 49] || w == [101, 120, 50]
def isAllW (w : List UInt8) : Bool := w == [97, 108, 108, 48] || w == [97, 108, 108, 49] || w == [97, 108, 108, 50]
def isVarW (w : List UInt8) : Bool := w == [118, 97, 114, 48] || w == [118, 97, 114, 49] || w == [118, 97, 114, 50]
mutual
def pPart : Nat → Bool → List Tok → Res Nd
  | 0, _, _ => .bad 0 0
  | f + 1, br, l =>
    if (wrd l).toList == [123] then
      (if br then .bad (hd l).pos 2 else match pList f true l.tail with
        | .ok ks l' => .ok (mkN tSetB emp0 0 (hd l).pos ks) l'
        | .bad a e => .bad a e)
    else if (hd l).kind == 1 then
      (if (wrd l.tail).toList == [43] then
        (if (hd l.tail.tail).kind == 2 && !((hd l.tail.tail).n == 0) then .ok (mkN tPlusB emp0 (hd l.tail.tail).n (hd l).pos [mkN tVarB (hd l).text 0 (hd l).pos []]) l.tail.tail.tail else .bad (hd l.tail.tail).pos 2)
      else .ok (mkN tVarB (hd l).text 0 (hd l).pos []) l.tail)
    else if (hd l).kind == 2 then .ok (mkN tNumB emp0 (hd l).n (hd l).pos []) l.tail
    else .bad (hd l).pos 2
def pList : Nat → Bool → List Tok → Res (List Nd)
  | 0, _, _ => .bad 0 0
  | f + 1, br, l =>
    if (wrd l).toList == clo br then .ok [] l.tail
    else match pKid f br l with
      | .ok n l' => pListL f br [n] l'
      | .bad a e => .bad a e
def pKid : Nat → Bool → List Tok → Res Nd
  | 0, _, _ => .bad 0 0
  | f + 1, true, l => pPart f true l
  | f + 1, false, l => pTerm f l
def pListL : Nat → Bool → List Nd → List Tok → Res (List Nd)
  | 0, _, _, _ => .bad 0 0
  | f + 1, br, acc, l =>
    if (wrd l).toList == [44] then
      (if acc.length == 6 then .bad (hd l.tail).pos 2
      else match pKid f br l.tail with
        | .ok n l' => pListL f br (acc ++ [n]) l'
        | .bad a e => .bad a e)
    else if (wrd l).toList == clo br then .ok acc l.tail else .bad (hd l).pos 2
def pTerm : Nat → List Tok → Res Nd
  | 0, _ => .bad 0 0
  | f + 1, l => match pPart f false l with
    | .ok n l' => pTermL f n l'
    | .bad a e => .bad a e
def pTermL : Nat → Nd → List Tok → Res Nd
  | 0, _, _ => .bad 0 0
  | f + 1, n, l =>
    if (psg 5 (wrd l)).toList == [] then .ok n l
    else match pPart f false l.tail with
      | .ok k l' => pTermL f (mkN (psg 5 (wrd l)) emp0 0 (hd l).pos [n, k]) l'
      | .bad a e => .bad a e
end
def pAtom (f : Nat) (l : List Tok) : Res Nd :=
  if (hd l).kind == 1 && (wrd l.tail).toList == [40] then
    (match pList f false l.tail.tail with
      | .ok ks l' => .ok (mkN tCallB (hd l).text 0 (hd l).pos ks) l'
      | .bad a e => .bad a e)
  else match pTerm f l with
    | .ok n l' =>
      if (psg 4 (wrd l')).toList == [] then (if n.op.toList == [118, 97, 114] then .ok (mkN tIsB n.name 0 n.pos []) l' else .bad (hd l).pos 2)
      else (match pTerm f l'.tail with
        | .ok m l2 => .ok (mkN (psg 4 (wrd l')) emp0 0 (hd l').pos [n, m]) l2
        | .bad a e => .bad a e)
    | .bad a e => .bad a e
mutual
def pUn : Nat → Nat → List Tok → Res Nd
  | 0, _, _ => .bad 0 0
  | f + 1, d, l =>
    if 29 < d then .bad (hd l).pos 4
    else if (wrd l).toList == [126] then
      (match pUn f (d + 1) l.tail with
        | .ok n l' => .ok (mkN tNotB emp0 0 (hd l).pos [n]) l'
        | .bad a e => .bad a e)
    else if isExW (wrd l).toList then pQuant f tExB d l
    else if isAllW (wrd l).toList then pQuant f tAllB d l
    else if (wrd l).toList == [116, 114, 117, 101] || (wrd l).toList == [102, 97, 108, 115, 101] then .ok (mkN (hd l).text emp0 0 (hd l).pos []) l.tail
    else if (wrd l).toList == [40] then
      (match pForm f (d + 1) l.tail with
        | .ok n l' => if (wrd l').toList == [41] then .ok n l'.tail else .bad (hd l').pos 2
        | .bad a e => .bad a e)
    else pAtom f l
def pQuant : Nat → ByteArray → Nat → List Tok → Res Nd
  | 0, _, _, _ => .bad 0 0
  | f + 1, op, d, l =>
    if (hd l.tail).kind == 1 then
      (if (wrd l.tail.tail).toList == [58] then
        (match pForm f (d + 1) l.tail.tail.tail with
          | .ok n l' => .ok (mkN op (hd l.tail).text (ordW (hd l).text.toList) (hd l).pos [n]) l'
          | .bad a e => .bad a e)
      else .bad (hd l.tail.tail).pos 2)
    else .bad (hd l.tail).pos 2
def pAnd : Nat → Nat → List Tok → Res Nd
  | 0, _, _ => .bad 0 0
  | f + 1, d, l => match pUn f d l with
    | .ok n l' => pAndL f d n l'
    | .bad a e => .bad a e
def pAndL : Nat → Nat → Nd → List Tok → Res Nd
  | 0, _, _, _ => .bad 0 0
  | f + 1, d, n, l =>
    if (psg 3 (wrd l)).toList == [] then .ok n l
    else match pUn f d l.tail with
      | .ok k l' => pAndL f d (mkN (psg 3 (wrd l)) emp0 0 (hd l).pos [n, k]) l'
      | .bad a e => .bad a e
def pOr : Nat → Nat → List Tok → Res Nd
  | 0, _, _ => .bad 0 0
  | f + 1, d, l => match pAnd f d l with
    | .ok n l' => pOrL f d n l'
    | .bad a e => .bad a e
def pOrL : Nat → Nat → Nd → List Tok → Res Nd
  | 0, _, _, _ => .bad 0 0
  | f + 1, d, n, l =>
    if (psg 2 (wrd l)).toList == [] then .ok n l
    else match pAnd f d l.tail with
      | .ok k l' => pOrL f d (mkN (psg 2 (wrd l)) emp0 0 (hd l).pos [n, k]) l'
      | .bad a e => .bad a e
def pForm : Nat → Nat → List Tok → Res Nd
  | 0, _, _ => .bad 0 0
  | f + 1, d, l => match pImp f d l with
    | .ok n l' => pFormL f d n l'
    | .bad a e => .bad a e
def pFormL : Nat → Nat → Nd → List Tok → Res Nd
  | 0, _, _, _ => .bad 0 0
  | f + 1, d, n, l =>
    if (psg 0 (wrd l)).toList == [] then .ok n l
    else match pImp f d l.tail with
      | .ok k l' => pFormL f d (mkN (psg 0 (wrd l)) emp0 0 (hd l).pos [n, k]) l'
      | .bad a e => .bad a e
def pImp : Nat → Nat → List Tok → Res Nd
  | 0, _, _ => .bad 0 0
  | f + 1, d, l => match pOr f d l with
    | .ok n l' =>
      if (psg 1 (wrd l')).toList == [] then .ok n l'
      else (match pImp f d l'.tail with
        | .ok k l2 => .ok (mkN (psg 1 (wrd l')) emp0 0 (hd l').pos [n, k]) l2
        | .bad a e => .bad a e)
    | .bad a e => .bad a e
end
end Go.Proofs.YtmmicnjiikiklaaDoor
