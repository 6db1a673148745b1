/- The small steps, of a reader that stands well, and of one behind a fault. -/
import Derived.Test.YtmmicnjiikiklaaDoorPSign
import Derived.Test.YtmmicnjiikiklaaDoorPSuf
import Derived.Test.YtmmicnjiikiklaaDoorLexA
import Derived.Test.YtmmicnjiikiklaaDoorRows
import Derived.WalkKit
import Derived.WalkLawsBesides
import Derived.WalkSpells
import Derived.ProofKit
import Derived.Outline
import Derived.Deep.QuietTactic
import Derived.BigQuiet
import Derived.Deep.Light
import Derived.Deep.CutBlock
import Derived.Deep.DeepCutAuto
import Derived.Deep.DeepFit
import Derived.Deep.LoopGhost
import Derived.Lib.Hide
import Derived.Lib.OthersKept
import Derived.IntWalk
import Derived.StillTailTactics
namespace Go.Proofs.YtmmicnjiikiklaaDoor
open Go.RowKit
/-! The small steps, of a reader that stands well, and of one behind a fault. -/
theorem now_g (l : List Tok) (w : World) (B : Nat) (d : Int) (h : RdS w B d (.good l)) : Calls Tryd.prog 67 #[.pointer (some ⟨B, 0, none⟩)] w fun e w' => e = .returned (.agg #[.int .i64 (hd l).kind, .string (hd l).text, .int .i64 (hd l).n, .int .i64 (hd l).pos]) ∧ Below w.heap.size w w' := now_any (.good l) w B d h
theorem now_b (w : World) (B : Nat) (d a' e' : Int) (h : RdS w B d (.bad a' e')) : Calls Tryd.prog 67 #[.pointer (some ⟨B, 0, none⟩)] w fun e w' => e = .returned (.agg #[.int .i64 0, .string ⟨#[]⟩, .int .i64 0, .int .i64 0]) ∧ Below w.heap.size w w' := now_any (.bad a' e') w B d h
theorem take_g (l : List Tok) (w : World) (B : Nat) (d : Int) (h : RdS w B d (.good l)) : Calls Tryd.prog 75 #[.pointer (some ⟨B, 0, none⟩)] w fun e w' => e = .returned (.agg #[.int .i64 (hd l).kind, .string (hd l).text, .int .i64 (hd l).n, .int .i64 (hd l).pos]) ∧ Kp B w w' ∧ RdS w' B d (.good l.tail) := take_any (.good l) w B d h
theorem take_b (w : World) (B : Nat) (d a' e' : Int) (h : RdS w B d (.bad a' e')) : Calls Tryd.prog 75 #[.pointer (some ⟨B, 0, none⟩)] w fun e w' => e = .returned (.agg #[.int .i64 0, .string ⟨#[]⟩, .int .i64 0, .int .i64 0]) ∧ Kp B w w' ∧ RdS w' B d (.bad a' e') := take_any (.bad a' e') w B d h
theorem fail_g (l : List Tok) (p q : Int) (w : World) (B : Nat) (d : Int) (hq : (q == 0) = false) (h : RdS w B d (.good l)) : Calls Tryd.prog 92 #[.pointer (some ⟨B, 0, none⟩), .int .i64 p, .int .i64 q] w fun e w' => e = .returned (.tuple #[]) ∧ Kp B w w' ∧ RdS w' B d (.bad p q) := fail_any (.good l) p q w B d hq h
theorem fail_b (p q : Int) (w : World) (B : Nat) (d a' e' : Int) (hq : (q == 0) = false) (h : RdS w B d (.bad a' e')) : Calls Tryd.prog 92 #[.pointer (some ⟨B, 0, none⟩), .int .i64 p, .int .i64 q] w fun e w' => e = .returned (.tuple #[]) ∧ Kp B w w' ∧ RdS w' B d (.bad a' e') := fail_any (.bad a' e') p q w B d hq h
theorem unfit_g (l : List Tok) (w : World) (B : Nat) (d : Int) (h : RdS w B d (.good l)) : Calls Tryd.prog 74 #[.pointer (some ⟨B, 0, none⟩)] w fun e w' => e = .returned (.tuple #[]) ∧ Kp B w w' ∧ RdS w' B d (.bad (hd l).pos 2) := unfit_any (.good l) w B d h
theorem unfit_b (w : World) (B : Nat) (d a' e' : Int) (h : RdS w B d (.bad a' e')) : Calls Tryd.prog 74 #[.pointer (some ⟨B, 0, none⟩)] w fun e w' => e = .returned (.tuple #[]) ∧ Kp B w w' ∧ RdS w' B d (.bad a' e') := unfit_any (.bad a' e') w B d h
theorem word_g (l : List Tok) (w : World) (B : Nat) (d : Int) (h : RdS w B d (.good l)) : Calls Tryd.prog 39 #[.pointer (some ⟨B, 0, none⟩)] w fun e w' => e = .returned (.string (wrd l)) ∧ Below w.heap.size w w' := word_any (.good l) w B d h
theorem word_b (w : World) (B : Nat) (d a' e' : Int) (h : RdS w B d (.bad a' e')) : Calls Tryd.prog 39 #[.pointer (some ⟨B, 0, none⟩)] w fun e w' => e = .returned (.string ⟨#[]⟩) ∧ Below w.heap.size w w' := word_any (.bad a' e') w B d h
theorem may_yes (l : List Tok) (x : ByteArray) (w : World) (B : Nat) (d : Int) (hx : ((wrd l).toList == x.toList) = true) (h : RdS w B d (.good l)) : Calls Tryd.prog 70 #[.pointer (some ⟨B, 0, none⟩), .string x] w fun e w' => e = .returned (.bool true) ∧ Kp B w w' ∧ RdS w' B d (.good l.tail) := by
  have := may_any (.good l) x w B d h
  rw [St.may_yes hx] at this
  exact this.mono fun e w' hh => ⟨by rw [hh.1]; exact congrArg (fun q => Ending.returned (.bool q)) hx, hh.2⟩
theorem may_no (l : List Tok) (x : ByteArray) (w : World) (B : Nat) (d : Int) (hx : ((wrd l).toList == x.toList) = false) (h : RdS w B d (.good l)) : Calls Tryd.prog 70 #[.pointer (some ⟨B, 0, none⟩), .string x] w fun e w' => e = .returned (.bool false) ∧ Kp B w w' ∧ RdS w' B d (.good l) := by
  have := may_any (.good l) x w B d h
  rw [St.may_no hx] at this
  exact this.mono fun e w' hh => ⟨by rw [hh.1]; exact congrArg (fun q => Ending.returned (.bool q)) hx, hh.2⟩
theorem bad_word (a e : Int) {x : ByteArray} (hx : x.toList ≠ []) : ((wrd (St.bad a e).l).toList == x.toList) = false := by
  rw [beq_eq_false_iff_ne]
  intro h
  exact hx (h.symm.trans (show (wrd ([] : List Tok)).toList = [] from by decide +kernel))
theorem may_b (x : ByteArray) (w : World) (B : Nat) (d a' e' : Int) (hx : x.toList ≠ []) (h : RdS w B d (.bad a' e')) : Calls Tryd.prog 70 #[.pointer (some ⟨B, 0, none⟩), .string x] w fun e w' => e = .returned (.bool false) ∧ Kp B w w' ∧ RdS w' B d (.bad a' e') := by
  have := may_any (.bad a' e') x w B d h
  rw [St.may_no (bad_word _ _ hx)] at this
  exact this.mono fun e w' hh => ⟨by rw [hh.1]; exact congrArg (fun q => Ending.returned (.bool q)) (bad_word _ _ hx), hh.2⟩
theorem must_yes (l : List Tok) (x : ByteArray) (w : World) (B : Nat) (d : Int) (hx : ((wrd l).toList == x.toList) = true) (h : RdS w B d (.good l)) : Calls Tryd.prog 43 #[.pointer (some ⟨B, 0, none⟩), .string x] w fun e w' => e = .returned (.tuple #[]) ∧ Kp B w w' ∧ RdS w' B d (.good l.tail) := by
  have := must_any (.good l) x w B d h
  rw [St.must_yes hx] at this
  exact this
theorem must_no (l : List Tok) (x : ByteArray) (w : World) (B : Nat) (d : Int) (hx : ((wrd l).toList == x.toList) = false) (h : RdS w B d (.good l)) : Calls Tryd.prog 43 #[.pointer (some ⟨B, 0, none⟩), .string x] w fun e w' => e = .returned (.tuple #[]) ∧ Kp B w w' ∧ RdS w' B d (.bad (hd l).pos 2) := by
  have := must_any (.good l) x w B d h
  rw [St.must_no hx] at this
  exact this
theorem must_b (x : ByteArray) (w : World) (B : Nat) (d a' e' : Int) (hx : x.toList ≠ []) (h : RdS w B d (.bad a' e')) : Calls Tryd.prog 43 #[.pointer (some ⟨B, 0, none⟩), .string x] w fun e w' => e = .returned (.tuple #[]) ∧ Kp B w w' ∧ RdS w' B d (.bad a' e') := by
  have := must_any (.bad a' e') x w B d h
  rw [St.must_no (bad_word _ _ hx)] at this
  exact this
theorem kind_g (l : List Tok) (k : Int) (w : World) (B : Nat) (d : Int) (hk : ((hd l).kind == k) = true) (h : RdS w B d (.good l)) : Calls Tryd.prog 44 #[.pointer (some ⟨B, 0, none⟩), .int .i64 k] w fun e w' => e = .returned (.agg #[.int .i64 (hd l).kind, .string (hd l).text, .int .i64 (hd l).n, .int .i64 (hd l).pos]) ∧ Kp B w w' ∧ RdS w' B d (.good l.tail) := kind_yes (.good l) k w B d h hk
theorem kind_n (l : List Tok) (k : Int) (w : World) (B : Nat) (d : Int) (hk : ((hd l).kind == k) = false) (h : RdS w B d (.good l)) : Calls Tryd.prog 44 #[.pointer (some ⟨B, 0, none⟩), .int .i64 k] w fun e w' => e = .returned (.agg #[.int .i64 0, .string ⟨#[]⟩, .int .i64 0, .int .i64 0]) ∧ Kp B w w' ∧ RdS w' B d (.bad (hd l).pos 2) := kind_no (.good l) k w B d h hk
theorem kind_b (k : Int) (w : World) (B : Nat) (d a' e' : Int) (hk : ((0 : Int) == k) = false) (h : RdS w B d (.bad a' e')) : Calls Tryd.prog 44 #[.pointer (some ⟨B, 0, none⟩), .int .i64 k] w fun e w' => e = .returned (.agg #[.int .i64 0, .string ⟨#[]⟩, .int .i64 0, .int .i64 0]) ∧ Kp B w w' ∧ RdS w' B d (.bad a' e') := kind_no (.bad a' e') k w B d h hk
theorem sign_g (l : List Tok) (lv : Int) (w : World) (B : Nat) (d : Int) (hP : PTB B w) (h : RdS w B d (.good l)) : Calls Tryd.prog 90 #[.pointer (some ⟨B, 0, none⟩), .int .i64 lv] w fun e w' => e = .returned (.string (psg lv (wrd l))) ∧ Below w.heap.size w w' := psign_any (.good l) lv w B d hP h
theorem sign_b (lv : Int) (w : World) (B : Nat) (d a' e' : Int) (hP : PTB B w) (h : RdS w B d (.bad a' e')) : Calls Tryd.prog 90 #[.pointer (some ⟨B, 0, none⟩), .int .i64 lv] w fun e w' => e = .returned (.string ⟨#[]⟩) ∧ Below w.heap.size w w' := by
  have := psign_any (.bad a' e') lv w B d hP h
  rw [show psg lv (wrd (St.bad a' e').l) = ⟨#[]⟩ from psg_nil lv] at this
  exact this
end Go.Proofs.YtmmicnjiikiklaaDoor
