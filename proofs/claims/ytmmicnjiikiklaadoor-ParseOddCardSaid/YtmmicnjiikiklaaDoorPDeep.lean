/- Deep texts, plainly; known. -/
import Derived.Test.YtmmicnjiikiklaaDoorPParse
import Derived.Test.YtmmicnjiikiklaaDoorLexA
import Derived.Test.YtmmicnjiikiklaaDoorRows
import Derived.WalkKit
import Derived.WalkLawsBesides
import Derived.WalkSpells
import Derived.ProofKit
import Derived.Outline
import Derived.Deep.QuietTactic
import Derived.BigQuiet
import Derived.Deep.Light
import Derived.Deep.CutBlock
import Derived.Deep.DeepCutAuto
import Derived.Deep.DeepFit
import Derived.Deep.LoopGhost
import Derived.Lib.Hide
import Derived.Lib.OthersKept
import Derived.IntWalk
import Derived.StillTailTactics
namespace Go.Proofs.YtmmicnjiikiklaaDoor
open Go.RowKit
/-! Deep texts, plainly. -/
def pieceB (way : Nat) : ByteArray := if way == 0 then ⟨#[40]⟩ else if way == 1 then ⟨#[126]⟩ else ⟨#[101, 120, 48, 32, 120, 58]⟩
def repB (p : ByteArray) (t : ByteArray) : Nat → ByteArray
  | 0 => t
  | n + 1 => repB p t n ++ p
def deepT (n way : Nat) : ByteArray := repB (pieceB way) ⟨#[]⟩ n ++ (if way == 0 then repB ⟨#[41]⟩ ⟨#[116, 114, 117, 101]⟩ n else ⟨#[116, 114, 117, 101]⟩) ++ ⟨#[59]⟩
def headOk (l : List Tok) : Bool := !((wrd l).toList == [118, 97, 114, 48]) && !((wrd l).toList == [118, 97, 114, 49]) && !((wrd l).toList == [118, 97, 114, 50]) && !((wrd l).toList == [112, 114, 101, 100])
def outB (r : Res Nd) : Option (Int × Int) := match r with
  | .ok _ _ => none
  | .bad a e => some (a, e)
def chkR (x : List Tok × Int × Int) (o : Option (Int × Int)) : Bool := x.2.2 == 0 && headOk x.1 && decide (7 + 20 * x.1.length ≤ 4000) && (outB (pMain 4000 x.1) == o)
def chkD (n way : Nat) : Bool := match toks (deepT n way) with
  | (l, a, e) => chkR (l, a, e) (if n < 30 then none else some ((if way == 2 then 6 else 1) * 30, 4))
/-- A whole answer of Parse, checked. -/
theorem chk_of {x : List Tok × Int × Int} {o : Option (Int × Int)} (h : chkR x o = true) : ∃ l a, x = (l, a, 0) ∧ headOk l = true ∧ 7 + 20 * l.length ≤ 4000 ∧ outB (pMain 4000 l) = o := by
  obtain ⟨l, a, e⟩ := x
  unfold chkR at h
  simp only [Bool.and_eq_true, beq_iff_eq, decide_eq_true_eq] at h
  obtain ⟨⟨⟨h1, h2⟩, h3⟩, h4⟩ := h
  exact ⟨l, a, by rw [h1], h2, h3, h4⟩
theorem headOk_all {l : List Tok} (h : headOk l = true) : ((wrd l).toList == [118, 97, 114, 48]) = false ∧ ((wrd l).toList == [118, 97, 114, 49]) = false ∧ ((wrd l).toList == [118, 97, 114, 50]) = false ∧ ((wrd l).toList == [112, 114, 101, 100]) = false := by
  unfold headOk at h
  simp only [Bool.and_eq_true, Bool.not_eq_true'] at h
  exact ⟨h.1.1.1, h.1.1.2, h.1.2, h.2⟩
/-- Parse, of a text that was checked. -/
theorem parse_chk (s : ByteArray) (l : List Tok) (a : Int) (hto : toks s = (l, a, 0)) (hh : headOk l = true) (hn : 7 + 20 * l.length ≤ 4000) (hs : s.size ≤ 1000000) (w : World) (hT : LTabs w) (hPT : PTab w) : Calls Tryd.prog 11 #[.string s] w (ParseOut w a (pMain 4000 l)) := by
  obtain ⟨h0, h1, h2, h3⟩ := headOk_all hh
  exact parse_of s l a w hT hPT hs hto _ fun W B hp hr => prog_main 4000 l W B hp (toks_good hto).1 hn hr h0 h1 h2 h3
/-- Either way Parse ends so. -/
theorem parse_bad (s : ByteArray) (p q : Int) (hs : s.size ≤ 1000000) (h : ∃ l a, toks s = (l, a, 0) ∧ headOk l = true ∧ 7 + 20 * l.length ≤ 4000 ∧ outB (pMain 4000 l) = some (p, q)) (w : World) (hT : LTabs w) (hPT : PTab w) :
    Calls Tryd.prog 11 #[.string s] w fun e w' => e = .returned (.tuple #[.agg #[.slice none 0 0, .slice none 0 0, .string ⟨#[]⟩, .string ⟨#[]⟩, .int .i64 0, .int .i64 0, .slice none 0 0], .int .i64 p, .int .i64 q]) ∧ Below w.heap.size w w' := by
  obtain ⟨l, a, h1, h2, h3, h4⟩ := h
  refine (parse_chk s l a h1 h2 h3 hs w hT hPT).mono fun e w' hp => ?_
  obtain ⟨hb, hp⟩ := hp
  cases hr : pMain 4000 l with
  | ok n l2 => rw [hr] at h4; cases h4
  | bad a e =>
    rw [hr] at h4 hp
    cases h4
    exact ⟨hp, hb⟩
theorem parse_good (s : ByteArray) (hs : s.size ≤ 1000000) (h : ∃ l a, toks s = (l, a, 0) ∧ headOk l = true ∧ 7 + 20 * l.length ≤ 4000 ∧ outB (pMain 4000 l) = none) (w : World) (hT : LTabs w) (hPT : PTab w) :
    Calls Tryd.prog 11 #[.string s] w fun e w' => ∃ T : Nd, e = .returned (.tuple #[.agg #[.slice none 0 0, .slice none 0 0, .string T.op, .string T.name, .int .i64 T.n, .int .i64 T.pos, .slice T.a T.kids.len T.cap], .int .i64 s.size, .int .i64 0]) ∧ T.Good (fun b => w.heap.size ≤ b) w' ∧ Below w.heap.size w w' ∧ ∀ l, (toks s).1 = l → ∃ l2, pMain 4000 l = .ok T.strip l2 := by
  obtain ⟨l, a, h1, h2, h3, h4⟩ := h
  obtain rfl := (toks_good h1).2
  refine (parse_chk s l _ h1 h2 h3 hs w hT hPT).mono fun e w' hp => ?_
  obtain ⟨hb, hp⟩ := hp
  cases hr : pMain 4000 l with
  | bad a e => rw [hr] at h4; cases h4
  | ok n l2 =>
    rw [hr] at hp
    obtain ⟨T, h5, h6, h7⟩ := hp
    refine ⟨T, h5, h6, hb, fun l' hl => ?_⟩
    rw [h1] at hl
    obtain rfl : l = l' := hl
    exact ⟨l2, by rw [hr, h7]⟩
def knownT : ByteArray := ⟨#[101, 120, 49, 32, 120, 58, 32, 120, 32, 61, 32, 48, 59]⟩
theorem known_chk : chkR (toks knownT) none = true := by decide +kernel
def okB (r : Res Nd) : Option (List UInt8 × Int × List UInt8) := match r with
  | .ok n _ => some (n.op.toList, n.n, n.name.toList)
  | .bad _ _ => none
theorem known_node : okB (pMain 4000 (toks knownT).1) = some ([101, 120], 1, [120]) := by decide +kernel
set_option maxRecDepth 100000 in
set_option maxHeartbeats 4000000 in
theorem pknown_any (w : World) (hT : LTabs w) (hPT : PTab w) : Calls Tryd.prog 13 #[] w fun e w' => e = .returned (.bool true) ∧ Below w.heap.size w w' := by
  have HC := Lib.hid (parse_good knownT (by decide) (chk_of known_chk) w hT hPT)
  clear hT hPT
  go_enter Tryd.func13, Tryd.ntmps13
  go_wp2_with fail
  refine HC.out.mono ?_
  rintro e w1 ⟨T, rfl, hg, hb, hp⟩
  obtain ⟨l2, hl2⟩ := hp _ rfl
  have hk := known_node
  rw [hl2] at hk
  simp only [okB, Option.some.injEq, Prod.mk.injEq] at hk
  obtain ⟨k1, k2, k3⟩ := hk
  have e1 : (T.op.toList == [101, 120]) = true := by rw [beq_iff_eq]; exact k1
  have e2 : ((T.n : Int) == 1) = true := by rw [beq_iff_eq]; exact k2
  have e3 : (T.name.toList == [120]) = true := by rw [beq_iff_eq]; exact k3
  have HB := Lib.hid hb
  clear hg hb hp hl2 k1 k2 k3 HC
  have e4 : (((knownT.size : Nat) : Int) == 13) = true := by decide +kernel
  go_wp2_with fail
  go_ret
  exact ⟨rfl, HB.out.alloc HB.out.size _⟩
end Go.Proofs.YtmmicnjiikiklaaDoor
