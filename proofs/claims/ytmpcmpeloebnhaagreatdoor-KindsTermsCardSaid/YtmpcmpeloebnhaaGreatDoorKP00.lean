/- Parts of the proof: LexA KMap NodeR Shelf LexBR. -/
import Derived.Test.YtmpcmpeloebnhaaGreatDoorRows
import Derived.Test.YtmpcmpeloebnhaaGreatDoorProg
import GoSem.Core.Utf8
import Derived.Laws.RangeAny
import Derived.Lib.RuneCountTail
import Derived.WalkKit
import Derived.Laws.Bits128
import Derived.Laws.Entries
import Derived.WalkLawsBesides
import Derived.WalkSpells
import Derived.ProofKit
import Derived.Outline
import Derived.Deep.QuietTactic
import Derived.BigQuiet
import Derived.Deep.Light
import Derived.Deep.CutBlock
import Derived.Deep.DeepCutAuto
import Derived.Deep.DeepFit
import Derived.Deep.LoopGhost
import Derived.Lib.Hide
import Derived.Lib.OthersKept
import Derived.IntWalk
import Derived.StillTailTactics
import Derived.Maps.OwnSet
import Derived.Maps.OwnOps
import Derived.Shelf.Utf8.RuneCount
import Derived.Shelf.LaysM
import Derived.Shelf.Strconv.Clone
import Derived.Shelf.Strings.Prefix
import Derived.Shelf.Strings.Fields
import Derived.Shelf.Strings.SplitShaped
import Derived.Shelf.Unicode.Latin
import Derived.Shelf.Unicode.Decode
import Derived.Shelf.Strings.RuneCount
import Derived.Shelf.Unicode.DecodeSlow
import Derived.Shelf.Unicode.DecodeAny
import Derived.Shelf.Unicode.Is16White
import Derived.Shelf.Unicode.IsSpaceAny
import Derived.Shelf.Unicode.Is16WhiteD
import Derived.Shelf.Unicode.IsSpaceAnyD
import Derived.Shelf.Strings.FieldsAny
import Derived.Shelf.Strings.FieldsFuncAny
import Derived.Shelf.Unicode.Is16Any
import Derived.Shelf.Unicode.Is32Any
import Derived.Shelf.Unicode.ExclAny
import Derived.Shelf.Slices.Turned
namespace Go.Proofs.YtmpcmpeloebnhaaGreatDoor
open Go.RowKit
theorem ret_int {k : IntKind} {a b : Int} (h : a = b) : Ending.returned (.int k a) = .returned (.int k b) := by rw [h]
theorem ret_v {v : Value} {a b : Int} (h : a = b) : Ending.returned (.tuple #[v, .int .i64 a]) = .returned (.tuple #[v, .int .i64 b]) := by rw [h]
def isLet (r : Int) : Prop := (97 ≤ r ∧ r ≤ 122) ∨ (65 ≤ r ∧ r ≤ 90) ∨ r = 95 ∨ (945 ≤ r ∧ r ≤ 969)
def isSig (r : Int) : Prop := r = 61 ∨ r = 126 ∨ r = 60 ∨ r = 62 ∨ r = 38 ∨ r = 124 ∨ r = 40 ∨ r = 41 ∨ r = 123 ∨ r = 125 ∨ r = 44 ∨ r = 59 ∨ r = 58 ∨ r = 43 ∨ r = 92 ∨ r = 35 ∨ r = 39
instance (r : Int) : Decidable (isLet r) := by unfold isLet; infer_instance
instance (r : Int) : Decidable (isSig r) := by unfold isSig; infer_instance
def cls (r : Int) : Int :=
 if isLet r then 1 else if 48 ≤ r ∧ r ≤ 57 then 2 else if r = 32 ∨ r = 9 ∨ r = 10 ∨ r = 13 then 3 else if isSig r then 4 else 0
theorem cls1 {r : Int} (h : isLet r) : 1 = cls r := by
 unfold cls; rw [if_pos h]
theorem cls2 {r : Int} (h : 48 ≤ r ∧ r ≤ 57) : 2 = cls r := by
 unfold cls; rw [if_neg (by unfold isLet; omega), if_pos h]
theorem cls3 {r : Int} (h : r = 32 ∨ r = 9 ∨ r = 10 ∨ r = 13) : 3 = cls r := by
 unfold cls; rw [if_neg (by unfold isLet; omega), if_neg (by omega), if_pos h]
theorem cls4 {r : Int} (h : isSig r) : 4 = cls r := by
 have h' := h
 unfold isSig at h'
 unfold cls; rw [if_neg (by unfold isLet; omega), if_neg (by omega), if_neg (by omega), if_pos h]
theorem cls0 {r : Int} (h1 : ¬ isLet r) (h2 : ¬ (48 ≤ r ∧ r ≤ 57)) (h3 : ¬ (r = 32 ∨ r = 9 ∨ r = 10 ∨ r = 13)) (h : ¬ isSig r) : 0 = cls r := by
 unfold cls; rw [if_neg h1, if_neg h2, if_neg h3, if_neg h]
def noOther (r : Int) : Prop := ¬ isLet r ∧ ¬ (48 ≤ r ∧ r ≤ 57) ∧ ¬ (r = 32 ∨ r = 9 ∨ r = 10 ∨ r = 13)
def sgn : List Int := [61, 126, 60, 62, 38, 124, 40, 41, 123, 125, 44, 59, 58, 43, 92, 35, 39]
def noSgn (r : Int) (k : Nat) : Prop := r ∉ sgn.take k
theorem all17 (k : Nat) (h : k < 17) : wrap32 ((({ data := #[61, 126, 60, 62, 38, 124, 40, 41, 123, 125, 44, 59, 58, 43, 92, 35, 39] } : ByteArray)[k]'h).toNat : Int) = sgn[k]'h := by
 have : ∀ k : Fin 17, wrap32 ((({ data := #[61, 126, 60, 62, 38, 124, 40, 41, 123, 125, 44, 59, 58, 43, 92, 35, 39] } : ByteArray)[k.1]'k.2).toNat : Int) = sgn[k.1]'k.2 := by decide +kernel
 exact this ⟨k, h⟩
theorem mem_sgn (r : Int) : r ∈ sgn ↔ isSig r := by
 simp [sgn, isSig]
theorem cls4k (r : Int) (k : Nat) (hk : k < 17) (he : r = sgn[k]'hk) : 4 = cls r :=
 cls4 ((mem_sgn r).1 (by rw [he]; exact List.getElem_mem _))
theorem cls0k (r : Int) (k : Nat) (hno : noOther r) (hk : 17 ≤ k) (hs : noSgn r k) : 0 = cls r := by
 refine cls0 hno.1 hno.2.1 hno.2.2 (fun h => hs ?_)
 rw [List.take_of_length_le (by simp [sgn]; omega)]
 exact (mem_sgn r).2 h
theorem noSgn_succ (r : Int) (k : Nat) (hk : k < 17) (hs : noSgn r k) (he : ¬ r = sgn[k]'hk) : noSgn r (k + 1) := by
 unfold noSgn at *
 rw [List.take_succ_eq_append_getElem (by simpa [sgn] using hk)]
 rw [List.mem_append]
 exact fun h => h.elim hs (fun h => he (List.mem_singleton.1 h))
theorem width_pos (s : ByteArray) (pos : Nat) (h : pos < s.size) : 1 ≤ (Utf8.decode s pos).2 := by
 by_cases ha : (s[pos]'h).toNat < 128
 ·rw [decode_ascii s pos h ha]
  exact Nat.le_refl _
 ·exact (decode_high s pos h (by omega)).2
theorem width_le (s : ByteArray) (pos : Nat) (h : pos < s.size) : pos + (Utf8.decode s pos).2 ≤ s.size := by
 simp only [Utf8.decode]
 repeat' split
 all_goals simp_all
 all_goals omega
def badAt (s : ByteArray) (pos : Nat) : Prop := (Utf8.decode s pos).1 = 65533 ∧ (Utf8.decode s pos).2 < 2
instance (s : ByteArray) (pos : Nat) : Decidable (badAt s pos) := by unfold badAt; infer_instance
def eachF (s : ByteArray) : Nat → Nat → List (Int × Int) × Int
 | 0, _ => ([], -1)
 | b + 1, pos =>
  if pos < s.size then
   (if badAt s pos then ([], pos) else
    ((((Utf8.decode s pos).1 : Int), (pos : Int)) :: (eachF s b (pos + (Utf8.decode s pos).2)).1, (eachF s b (pos + (Utf8.decode s pos).2)).2))
  else ([], -1)
def each (s : ByteArray) : List (Int × Int) × Int := eachF s s.size 0
def flat : List (Int × Int) → List Value
 | [] => []
 | p :: l => .int .i32 p.1 :: .int .i64 p.2 :: flat l
theorem flat_snoc (l : List (Int × Int)) (p : Int × Int) : flat (l ++ [p]) = flat l ++ [.int .i32 p.1, .int .i64 p.2] := by
 induction l with
 | nil => rfl
 | cons q l ih => simp [flat, ih]
theorem flat_get0 (l : List (Int × Int)) (i : Nat) (h : i < l.length) : (flat l)[i * 2]? = some (.int .i32 (l[i]'h).1) := by
 induction l generalizing i with
 | nil => simp at h
 | cons q l ih =>
  cases i with
  | zero => rfl
  | succ i => simp only [Nat.succ_mul]; simpa [flat] using ih i (by simpa using h)
theorem flat_get1 (l : List (Int × Int)) (i : Nat) (h : i < l.length) : (flat l)[i * 2 + 1]? = some (.int .i64 (l[i]'h).2) := by
 induction l generalizing i with
 | nil => simp at h
 | cons q l ih =>
  cases i with
  | zero => rfl
  | succ i => simp only [Nat.succ_mul]; simpa [flat] using ih i (by simpa using h)
theorem eachF_end (s : ByteArray) (b pos : Nat) (h : ¬ pos < s.size) : eachF s b pos = ([], -1) := by
 cases b with
 | zero => rfl
 | succ b => unfold eachF; rw [if_neg h]
theorem eachF_bad (s : ByteArray) (b pos : Nat) (h : pos < s.size) (hb : badAt s pos) : eachF s (b + 1) pos = ([], (pos : Int)) := by
 unfold eachF; rw [if_pos h, if_pos hb]
theorem eachF_one (s : ByteArray) (b pos : Nat) (h : pos < s.size) (hb : ¬ badAt s pos) : eachF s (b + 1) pos = ((((Utf8.decode s pos).1 : Int), (pos : Int)) :: (eachF s b (pos + (Utf8.decode s pos).2)).1, (eachF s b (pos + (Utf8.decode s pos).2)).2) := by
 conv => lhs; unfold eachF
 rw [if_pos h, if_neg hb]
theorem eachF_len (s : ByteArray) (b pos : Nat) : (eachF s b pos).1.length ≤ b := by
 induction b generalizing pos with
 | zero => simp [eachF]
 | succ b ih =>
  unfold eachF
  split
  ·split
   ·simp
   ·have := ih (pos + (Utf8.decode s pos).2); simp; omega
  ·simp
theorem each_len (s : ByteArray) : (each s).1.length ≤ s.size := eachF_len s _ _
def soFar (s : ByteArray) (acc : List (Int × Int)) (b pos : Nat) : Prop := acc ++ (eachF s b pos).1 = (each s).1 ∧ (eachF s b pos).2 = (each s).2
theorem soFar_start (s : ByteArray) : soFar s [] s.size 0 := ⟨rfl, rfl⟩
theorem soFar_one (s : ByteArray) (acc : List (Int × Int)) (b pos : Nat) (h : pos < s.size) (hb : ¬ badAt s pos) (hs : soFar s acc (b + 1) pos) :
  soFar s (acc ++ [(((Utf8.decode s pos).1 : Int), (pos : Int))]) b (pos + (Utf8.decode s pos).2) := by
 unfold soFar at *
 rw [eachF_one s b pos h hb] at hs
 rw [List.append_assoc]
 exact hs
theorem soFar_end (s : ByteArray) (acc : List (Int × Int)) (b pos : Nat) (h : ¬ pos < s.size) (hs : soFar s acc b pos) : acc = (each s).1 ∧ (-1 : Int) = (each s).2 := by
 unfold soFar at hs
 rw [eachF_end s b pos h] at hs
 exact ⟨by rw [← hs.1]; simp, hs.2⟩
theorem soFar_bad (s : ByteArray) (acc : List (Int × Int)) (b pos : Nat) (h : pos < s.size) (hb : badAt s pos) (hs : soFar s acc (b + 1) pos) : acc = (each s).1 ∧ (pos : Int) = (each s).2 := by
 unfold soFar at hs
 rw [eachF_bad s b pos h hb] at hs
 exact ⟨by rw [← hs.1]; simp, hs.2⟩
def fffd (t : ByteArray) : Bool := (t.extract 0 3).toList == [239, 191, 189]
theorem fffd_iff0 (t : ByteArray) : fffd t = true ↔ (2 < t.size ∧ t.get! 0 = 239 ∧ t.get! 1 = 191 ∧ t.get! 2 = 189) := by
 unfold fffd
 rw [Lib.extract_toList, beq_iff_eq, ← Lib.getD_get!', ← Lib.getD_get!', ← Lib.getD_get!', Lib.size_eq]
 generalize t.data.toList = l
 match l with
 | [] => simp
 | [a] => simp
 | [a, b] => simp
 | a :: b :: c :: r => simp
theorem fffd_short (t : ByteArray) (h : t.size < 3) : fffd t = false := by
 rw [Bool.eq_false_iff]
 intro hf
 have := ((fffd_iff0 t).1 hf).1
 omega
theorem fffd_iff (s : ByteArray) (pos : Nat) : fffd (s.extract pos s.size) = true ↔ (pos + 2 < s.size ∧ s.get! pos = 239 ∧ s.get! (pos + 1) = 191 ∧ s.get! (pos + 2) = 189) := by
 rw [fffd_iff0, Lib.tail_size, Lib.tail_get!, Lib.tail_get!, Lib.tail_get!, Nat.add_zero]
 exact ⟨fun h => ⟨by omega, h.2⟩, fun h => ⟨by omega, h.2⟩⟩
theorem fffd_bad (s : ByteArray) (pos : Nat) (hb : badAt s pos) : fffd (s.extract pos s.size) = false := by
 rw [Bool.eq_false_iff]
 intro hf
 obtain ⟨h0, h1, h2, h3⟩ := (fffd_iff s pos).1 hf
 have : Utf8.decode s pos = (65533, 3) := by
  rw [Lib.decode_at, h1, h2, h3]
  unfold Lib.decodeN
  rw [if_neg (by decide), if_neg (by simp), if_pos (by simp; omega), if_pos (by simp)]
  simp
 rw [badAt, this] at hb
 exact absurd hb.2 (by decide)
theorem fffd_good (s : ByteArray) (pos : Nat) (hr : (Utf8.decode s pos).1 = 65533) (hb : ¬ badAt s pos) : fffd (s.extract pos s.size) = true := by
 rw [fffd_iff]
 have hb2 : ¬ (Utf8.decode s pos).2 < 2 := fun h => hb ⟨hr, h⟩
 clear hb
 rw [Lib.decode_at] at hr hb2
 have b0 := (s.get! pos).toNat_lt
 have b1 := (s.get! (pos + 1)).toNat_lt
 have b2 := (s.get! (pos + 2)).toNat_lt
 have b3 := (s.get! (pos + 3)).toNat_lt
 have key : 2 < s.size - pos ∧ (s.get! pos).toNat = 239 ∧ (s.get! (pos + 1)).toNat = 191 ∧ (s.get! (pos + 2)).toNat = 189 := by
  revert hr hb2
  unfold Lib.decodeN
  repeat' split
  all_goals simp only []
  all_goals intro hr hb2
  all_goals first | (exfalso; omega) | omega
 exact ⟨by omega, UInt8.toNat_inj.1 key.2.1, UInt8.toNat_inj.1 key.2.2.1, UInt8.toNat_inj.1 key.2.2.2⟩
end Go.Proofs.YtmpcmpeloebnhaaGreatDoor
namespace Go.Proofs.YtmpcmpeloebnhaaGreatDoor
open Go.RowKit
theorem eachF_at (s : ByteArray) (b pos : Nat) : ∀ q ∈ (eachF s b pos).1, 0 ≤ q.2 := by
 induction b generalizing pos with
 | zero => simp [eachF]
 | succ b ih =>
  unfold eachF
  split
  ·split
   ·simp
   ·intro q hq
    rcases List.mem_cons.1 hq with rfl | hq
    ·simp
    ·exact ih _ q hq
  ·simp
theorem each_at (s : ByteArray) : ∀ q ∈ (each s).1, 0 ≤ q.2 := eachF_at s _ _
end Go.Proofs.YtmpcmpeloebnhaaGreatDoor
namespace Go.Proofs.YtmpcmpeloebnhaaGreatDoor
open Go.RowKit
theorem decN_irrel (n b0 b1 b2 b3 c1 c2 c3 : Nat) (h1 : 1 < n → b1 = c1) (h2 : 2 < n → b2 = c2) (h3 : 3 < n → b3 = c3) : Lib.decodeN n b0 b1 b2 b3 = Lib.decodeN n b0 c1 c2 c3 := by
 by_cases n1 : 1 < n
 ·rw [h1 n1]
  by_cases n2 : 2 < n
  ·rw [h2 n2]
   by_cases n3 : 3 < n
   ·rw [h3 n3]
   ·simp only [Lib.decodeN, n3, false_and, and_false, if_false]
  ·simp only [Lib.decodeN, n2, false_and, and_false, if_false]
 ·simp only [Lib.decodeN, n1, false_and, and_false, if_false]
set_option maxRecDepth 100000 in
theorem decN_less (n N b0 b1 b2 b3 : Nat) (hg : ¬ ((Lib.decodeN N b0 b1 b2 b3).1 = 65533 ∧ (Lib.decodeN N b0 b1 b2 b3).2 < 2)) (hw : (Lib.decodeN N b0 b1 b2 b3).2 ≤ n) : Lib.decodeN n b0 b1 b2 b3 = Lib.decodeN N b0 b1 b2 b3 := by
 revert hg hw
 unfold Lib.decodeN
 repeat' split
 all_goals simp only []
 all_goals intro hg hw
 all_goals first | rfl | trivial | (exfalso; exact hg ⟨by first | rfl | trivial, by decide⟩) | (exfalso; omega)
structure Pre (v u : ByteArray) : Prop where
 size : v.size ≤ u.size
 same : ∀ k, k < v.size → u.get! k = v.get! k
theorem pre_decN {v u : ByteArray} (h : Pre v u) (pos : Nat) (hp : pos < v.size) : Utf8.decode v pos = Lib.decodeN (v.size - pos) (u.get! pos).toNat (u.get! (pos + 1)).toNat (u.get! (pos + 2)).toNat (u.get! (pos + 3)).toNat := by
 rw [Lib.decode_at, h.same pos hp]
 refine decN_irrel _ _ _ _ _ _ _ _ ?_ ?_ ?_
 ·intro h1; rw [h.same (pos + 1) (by omega)]
 ·intro h1; rw [h.same (pos + 2) (by omega)]
 ·intro h1; rw [h.same (pos + 3) (by omega)]
theorem pre_down {v u : ByteArray} (h : Pre v u) (pos : Nat) (hp : pos < v.size) (hg : ¬ badAt u pos) (hw : pos + (Utf8.decode u pos).2 ≤ v.size) : Utf8.decode v pos = Utf8.decode u pos := by
 have hs := h.size
 unfold badAt at hg
 rw [pre_decN h pos hp]
 rw [Lib.decode_at] at hg hw ⊢
 exact decN_less _ _ _ _ _ _ hg (by omega)
theorem ext_size (u : ByteArray) (j : Nat) (h : j ≤ u.size) : (u.extract 0 j).size = j := by
 rw [Lib.size_eq] at h ⊢; rw [Lib.extract_data]; simp at h ⊢; omega
theorem ext_get! (u : ByteArray) (j k : Nat) (h : k < j) : (u.extract 0 j).get! k = u.get! k := by
 rw [← Lib.getD_get!', ← Lib.getD_get!', Lib.extract_data]
 simp [List.getD_eq_getElem?_getD, h]
theorem pre_ext (u : ByteArray) (j : Nat) (h : j ≤ u.size) : Pre (u.extract 0 j) u :=
 ⟨by rw [ext_size u j h]; exact h, fun k hk => by rw [ext_size u j h] at hk; rw [ext_get! u j k hk]⟩
abbrev RL := List (Int × Int)
def posOf (e : Int) : RL → Int
 | [] => e
 | q :: _ => q.2
def shf (d : Int) (L : RL) : RL := L.map fun q => (q.1, q.2 + d)
def srt (e : Int) : RL → Prop
 | [] => True
 | q :: L => q.2 < posOf e L ∧ srt e L
def endOf (s : ByteArray) (bad : Int) : Int := if bad = -1 then s.size else bad
theorem eachF_fuel (s : ByteArray) : ∀ (b c pos : Nat), s.size ≤ pos + b → s.size ≤ pos + c → eachF s b pos = eachF s c pos := by
 intro b
 induction b with
 | zero => intro c pos h1 h2; rw [eachF_end _ _ _ (by omega), eachF_end _ _ _ (by omega)]
 | succ b ih =>
  intro c pos h1 h2
  by_cases hp : pos < s.size
  ·obtain ⟨c, rfl⟩ : ∃ c', c = c' + 1 := ⟨c - 1, by omega⟩
   by_cases hb : badAt s pos
   ·rw [eachF_bad _ _ _ hp hb, eachF_bad _ _ _ hp hb]
   ·have hw := width_pos s pos hp
    rw [eachF_one _ _ _ hp hb, eachF_one _ _ _ hp hb, ih c _ (by omega) (by omega)]
  ·rw [eachF_end _ _ _ hp, eachF_end _ _ _ hp]
theorem eachF_bad_ge (s : ByteArray) : ∀ (b pos : Nat), (eachF s b pos).2 = -1 ∨ ((pos : Int) ≤ (eachF s b pos).2 ∧ (eachF s b pos).2 < s.size) := by
 intro b
 induction b with
 | zero => intro pos; left; rfl
 | succ b ih =>
  intro pos
  by_cases hp : pos < s.size
  ·by_cases hb : badAt s pos
   ·rw [eachF_bad _ _ _ hp hb]; right; exact ⟨by simp, by simp; omega⟩
   ·rw [eachF_one _ _ _ hp hb]
    rcases ih (pos + (Utf8.decode s pos).2) with h | h
    ·left; exact h
    ·right; exact ⟨by have := h.1; simp only []; omega, h.2⟩
  ·rw [eachF_end _ _ _ hp]; left; rfl
theorem endOf_ge (s : ByteArray) (b pos : Nat) (h : pos ≤ s.size) : (pos : Int) ≤ endOf s (eachF s b pos).2 ∧ endOf s (eachF s b pos).2 ≤ s.size := by
 unfold endOf
 rcases eachF_bad_ge s b pos with h1 | h1
 ·rw [if_pos h1]; omega
 ·rw [if_neg (by omega)]; omega
theorem eachF_ge (s : ByteArray) : ∀ (b pos : Nat), ∀ q ∈ (eachF s b pos).1, (pos : Int) ≤ q.2 ∧ q.2 < s.size := by
 intro b
 induction b with
 | zero => intro pos q hq; simp [eachF] at hq
 | succ b ih =>
  intro pos q hq
  by_cases hp : pos < s.size
  ·by_cases hb : badAt s pos
   ·rw [eachF_bad _ _ _ hp hb] at hq; simp at hq
   ·rw [eachF_one _ _ _ hp hb] at hq
    simp only [List.mem_cons] at hq
    rcases hq with rfl | hq
    ·exact ⟨by simp, by simp; omega⟩
    ·have := ih _ q hq; omega
  ·rw [eachF_end _ _ _ hp] at hq; simp at hq
theorem posOf_ge (s : ByteArray) (b pos : Nat) (h : pos ≤ s.size) (k : Nat) : (pos : Int) ≤ posOf (endOf s (eachF s b pos).2) ((eachF s b pos).1.drop k) ∧ posOf (endOf s (eachF s b pos).2) ((eachF s b pos).1.drop k) ≤ s.size := by
 rcases hd : (eachF s b pos).1.drop k with _ | ⟨q, M⟩
 ·exact endOf_ge s b pos h
 ·have hq : q ∈ (eachF s b pos).1 := List.mem_of_mem_drop (by rw [hd]; exact List.mem_cons_self ..)
  have := eachF_ge s b pos q hq
  exact ⟨this.1, by have := this.2; simp only [posOf]; omega⟩
theorem eachF_srt (s : ByteArray) : ∀ (b pos : Nat), pos ≤ s.size → srt (endOf s (eachF s b pos).2) (eachF s b pos).1 := by
 intro b
 induction b with
 | zero => intro pos _; trivial
 | succ b ih =>
  intro pos hs
  by_cases hp : pos < s.size
  ·by_cases hb : badAt s pos
   ·rw [eachF_bad _ _ _ hp hb]; trivial
   ·have hw := width_pos s pos hp
    have hl := width_le s pos hp
    rw [eachF_one _ _ _ hp hb]
    refine ⟨?_, ih _ hl⟩
    have := (posOf_ge s b (pos + (Utf8.decode s pos).2) hl 0).1
    simp only [List.drop_zero] at this
    simp only []
    omega
  ·rw [eachF_end _ _ _ hp]; trivial
theorem each_cut (u : ByteArray) : ∀ (b pos k : Nat), pos ≤ u.size → k ≤ (eachF u b pos).1.length → u.size ≤ pos + b → ∀ j : Nat, (j : Int) = posOf (endOf u (eachF u b pos).2) ((eachF u b pos).1.drop k) →
  eachF (u.extract 0 j) b pos = ((eachF u b pos).1.take k, -1) := by
 intro b
 induction b with
 | zero => intro pos k _ hk _ j _; simp [eachF]
 | succ b ih =>
  intro pos k hs hk hf j hj
  have hju : j ≤ u.size := by have := (posOf_ge u (b + 1) pos hs k).2; omega
  have hvs := ext_size u j hju
  by_cases hp : pos < u.size
  ·by_cases hb : badAt u pos
   ·rw [eachF_bad _ _ _ hp hb] at hj ⊢
    rw [eachF_end _ _ _ (by simp only [posOf, endOf, List.drop_nil] at hj; rw [if_neg (by omega)] at hj; omega)]
    simp
   ·have hw := width_pos u pos hp
    have hl := width_le u pos hp
    rw [eachF_one _ _ _ hp hb] at hk hj ⊢
    cases k with
    | zero =>
     simp only [List.drop_zero, posOf] at hj
     rw [eachF_end _ _ _ (by omega)]
     simp
    | succ k =>
     simp only [List.drop_succ_cons, List.length_cons] at hj hk
     have hge := (posOf_ge u b (pos + (Utf8.decode u pos).2) hl k).1
     have hlt : pos < (u.extract 0 j).size := by omega
     have hd : Utf8.decode (u.extract 0 j) pos = Utf8.decode u pos := pre_down (pre_ext u j hju) pos hlt hb (by omega)
     have hb' : ¬ badAt (u.extract 0 j) pos := by unfold badAt at hb ⊢; rw [hd]; exact hb
     rw [eachF_one _ _ _ hlt hb', hd, ih _ k hl (by omega) (by omega) j hj]
     simp
  ·rw [eachF_end _ _ _ hp] at hj ⊢
   rw [eachF_end _ _ _ (by omega)]
   simp
theorem each_enough (s : ByteArray) (b : Nat) (h : s.size ≤ b) : eachF s b 0 = each s := eachF_fuel s b s.size 0 (by omega) (by omega)
theorem each_sound (s : ByteArray) (j : Nat) (hj : (j : Int) = endOf s (each s).2) : each (s.extract 0 j) = ((each s).1, -1) := by
 have h2 := (endOf_ge s s.size 0 (by omega)).2
 have hju : j ≤ s.size := by have : (each s).2 = (eachF s s.size 0).2 := rfl; rw [← this] at h2; omega
 have := each_cut s s.size 0 (each s).1.length (by omega) (Nat.le_refl _) (by omega) j (by
  rw [List.drop_of_length_le (by exact Nat.le_refl _)]; exact hj)
 rw [each_enough _ _ (by rw [ext_size s j hju]; exact hju)] at this
 rw [this]
 show ((each s).1.take _, _) = _
 rw [List.take_length]
theorem each_rest (u : ByteArray) (p : Nat) : ∀ (b pos : Nat), shf p (eachF (u.extract p u.size) b pos).1 = (eachF u b (p + pos)).1 ∧ ((eachF (u.extract p u.size) b pos).2 = -1 ↔ (eachF u b (p + pos)).2 = -1) := by
 intro b
 induction b with
 | zero => intro pos; exact ⟨rfl, Iff.rfl⟩
 | succ b ih =>
  intro pos
  have hts := Lib.tail_size u p
  by_cases hp : pos < (u.extract p u.size).size
  ·have hp' : p + pos < u.size := by omega
   have hbb : badAt (u.extract p u.size) pos ↔ badAt u (p + pos) := by unfold badAt; rw [Lib.tail_decode]
   by_cases hb : badAt (u.extract p u.size) pos
   ·rw [eachF_bad _ _ _ hp hb, eachF_bad _ _ _ hp' (hbb.1 hb)]
    exact ⟨rfl, by simp only []; omega⟩
   ·rw [eachF_one _ _ _ hp hb, eachF_one _ _ _ hp' (fun h => hb (hbb.2 h)), Lib.tail_decode]
    have := ih (pos + (Utf8.decode u (p + pos)).2)
    rw [Nat.add_assoc]
    refine ⟨?_, this.2⟩
    simp only [shf, List.map_cons]
    rw [← this.1]
    simp only [shf, List.cons.injEq, Prod.mk.injEq, true_and]
    exact ⟨by omega, trivial⟩
  ·rw [eachF_end _ _ _ hp, eachF_end _ _ _ (by omega)]
   exact ⟨rfl, Iff.rfl⟩
theorem ascii_byte (s : ByteArray) (pos : Nat) (h : (s.get! pos).toNat < 128) : Utf8.decode s pos = ((s.get! pos).toNat, 1) := by
 rw [Lib.decode_at]; unfold Lib.decodeN; rw [if_pos h]
theorem ascii_one (s : ByteArray) (pos : Nat) (h : (Utf8.decode s pos).1 < 128) : (s.get! pos).toNat = (Utf8.decode s pos).1 ∧ (Utf8.decode s pos).2 = 1 := by
 by_cases ha : (s.get! pos).toNat < 128
 ·rw [ascii_byte s pos ha]; exact ⟨rfl, rfl⟩
 ·exfalso
  revert h
  rw [Lib.decode_at]
  unfold Lib.decodeN
  repeat' split
  all_goals simp only []
  all_goals omega
end Go.Proofs.YtmpcmpeloebnhaaGreatDoor
namespace Go.Proofs.YtmpcmpeloebnhaaGreatDoor
open Go.RowKit
structure Tok where
 kind : Int
 text : ByteArray
 n : Int
 pos : Int
deriving DecidableEq
def nmB (r : Int) : Bool := cls r == 1 || cls r == 2 || r == 39
def dgB (r : Int) : Bool := cls r == 2
def spB (r : Int) : Bool := cls r == 3
def lnB (r : Int) : Bool := r != 10
def cnt (p : Int → Bool) : RL → Nat
 | [] => 0
 | q :: L => if p q.1 then cnt p L + 1 else 0
def wrds : List ByteArray := [⟨#[116, 114, 117, 101]⟩, ⟨#[102, 97, 108, 115, 101]⟩, ⟨#[101, 120, 48]⟩, ⟨#[101, 120, 49]⟩, ⟨#[101, 120, 50]⟩, ⟨#[97, 108, 108, 48]⟩, ⟨#[97, 108, 108, 49]⟩, ⟨#[97, 108, 108, 50]⟩, ⟨#[118, 97, 114, 48]⟩, ⟨#[118, 97, 114, 49]⟩, ⟨#[118, 97, 114, 50]⟩, ⟨#[112, 114, 101, 100]⟩, ⟨#[105, 110]⟩, ⟨#[110, 111, 116, 105, 110]⟩, ⟨#[115, 117, 98]⟩, ⟨#[117, 110, 105, 111, 110]⟩, ⟨#[105, 110, 116, 101, 114]⟩]
def sigs : List ByteArray := [⟨#[60, 61, 62]⟩, ⟨#[61, 62]⟩, ⟨#[60, 61]⟩, ⟨#[126, 61]⟩, ⟨#[61]⟩, ⟨#[126]⟩, ⟨#[60]⟩, ⟨#[38]⟩, ⟨#[124]⟩, ⟨#[40]⟩, ⟨#[41]⟩, ⟨#[123]⟩, ⟨#[125]⟩, ⟨#[44]⟩, ⟨#[59]⟩, ⟨#[58]⟩, ⟨#[43]⟩, ⟨#[92]⟩]
def isWrd (t : ByteArray) : Bool := wrds.any fun x => x.data.toList == t.data.toList
def rpre : List UInt8 → RL → Bool
 | [], _ => true
 | _ :: _, [] => false
 | c :: x, q :: L => q.1 == (c.toNat : Int) && rpre x L
def sigF : List ByteArray → RL → Option ByteArray
 | [], _ => none
 | x :: X, L => if rpre x.data.toList L then some x else sigF X L
def sigL (L : RL) : Option ByteArray := sigF sigs L
def numV : Int → RL → Int
 | a, [] => a
 | a, q :: L => if dgB q.1 then numV (min (10 * a + (q.1 - 48)) 1000) L else a
def tokL (s : ByteArray) (e : Int) : RL → Option (Tok × Nat)
 | [] => none
 | q :: L =>
  if cls q.1 = 1 then
   (if cnt nmB (q :: L) ≤ 12 then
    some (⟨if isWrd (s.extract q.2.toNat (posOf e ((q :: L).drop (cnt nmB (q :: L)))).toNat) then 3 else 1, s.extract q.2.toNat (posOf e ((q :: L).drop (cnt nmB (q :: L)))).toNat, 0, q.2⟩, cnt nmB (q :: L))
   else none)
  else if cls q.1 = 2 then
   (if numV 0 (q :: L) ≤ 99 ∧ ¬ (q.1 = 48 ∧ 1 < cnt dgB (q :: L)) then some (⟨2, ⟨#[]⟩, numV 0 (q :: L), q.2⟩, cnt dgB (q :: L)) else none)
  else match sigL (q :: L) with
   | some x => some (⟨3, x, 0, q.2⟩, x.size)
   | none => none
def stepL (s : ByteArray) (e : Int) : RL → Option (Option Tok × Nat)
 | [] => none
 | q :: L =>
  if cls q.1 = 3 then some (none, cnt spB (q :: L))
  else if q.1 = 35 then some (none, cnt lnB (q :: L))
  else (tokL s e (q :: L)).map fun p => (some p.1, p.2)
def lexL (s : ByteArray) (e : Int) : RL → Int → List Tok × Option Int
 | [], _ => ([], none)
 | q :: L, b =>
  if q.2 < b then lexL s e L b
  else match stepL s e (q :: L) with
   | none => ([], some q.2)
   | some (t, k) => (t.toList ++ (lexL s e L (posOf e ((q :: L).drop k))).1, (lexL s e L (posOf e ((q :: L).drop k))).2)
def skp : Bool → RL → RL
 | _, [] => []
 | false, q :: L => if cls q.1 = 3 then skp false L else if q.1 = 35 then skp true L else q :: L
 | true, q :: L => if q.1 = 10 then skp false L else skp true L
def refL (s : ByteArray) (e : Int) : Nat → RL → List Tok × Option Int
 | 0, _ => ([], none)
 | f + 1, L =>
  match skp false L with
  | [] => ([], none)
  | q :: M => match tokL s e (q :: M) with
   | none => ([], some q.2)
   | some (t, k) => (t :: (refL s e f ((q :: M).drop k)).1, (refL s e f ((q :: M).drop k)).2)
theorem posOf_drop (e : Int) : ∀ (L : RL) (k : Nat), srt e L → posOf e L ≤ posOf e (L.drop k) := by
 intro L
 induction L with
 | nil => intro k _; simp
 | cons q L ih =>
  intro k h
  cases k with
  | zero => simp
  | succ k => have := ih k h.2; have := h.1; simp only [List.drop_succ_cons, posOf] at *; omega
theorem srt_drop (e : Int) : ∀ (L : RL) (k : Nat), srt e L → srt e (L.drop k) := by
 intro L
 induction L with
 | nil => intro k _; simp [srt]
 | cons q L ih =>
  intro k h
  cases k with
  | zero => exact h
  | succ k => exact ih k h.2
theorem lexL_drop (s : ByteArray) (e : Int) : ∀ (L : RL) (k : Nat), srt e L → lexL s e L (posOf e (L.drop k)) = lexL s e (L.drop k) (posOf e (L.drop k)) := by
 intro L
 induction L with
 | nil => intro k _; simp
 | cons q L ih =>
  intro k h
  cases k with
  | zero => rfl
  | succ k =>
   have h1 := posOf_drop e L k h.2
   have h2 := h.1
   rw [List.drop_succ_cons, ← ih k h.2]
   conv => lhs; unfold lexL
   rw [if_pos (by omega)]
theorem cnt_le (p : Int → Bool) (L : RL) : cnt p L ≤ L.length := by
 induction L with
 | nil => simp [cnt]
 | cons q L ih => unfold cnt; split <;> simp <;> omega
theorem cnt_pos {p : Int → Bool} {q : Int × Int} {L : RL} (h : p q.1 = true) : cnt p (q :: L) = cnt p L + 1 := by
 rw [cnt, if_pos h]
theorem cnt_zero {p : Int → Bool} {q : Int × Int} {L : RL} (h : p q.1 = false) : cnt p (q :: L) = 0 := by
 rw [cnt, if_neg (by simp [h])]
theorem rpre_len : ∀ (x : List UInt8) (L : RL), rpre x L = true → x.length ≤ L.length := by
 intro x
 induction x with
 | nil => intro L _; simp
 | cons c x ih =>
  intro L h
  cases L with
  | nil => simp [rpre] at h
  | cons q L => simp only [rpre, Bool.and_eq_true] at h; have := ih L h.2; simp; omega
theorem sigF_some : ∀ (X : List ByteArray) (L : RL) (x : ByteArray), sigF X L = some x → x ∈ X ∧ rpre x.data.toList L = true := by
 intro X
 induction X with
 | nil => intro L x h; simp [sigF] at h
 | cons y X ih =>
  intro L x h
  unfold sigF at h
  split at h
  ·obtain rfl := Option.some.inj h
   exact ⟨List.mem_cons_self .., by assumption⟩
  ·have := ih L x h; exact ⟨List.mem_cons_of_mem _ this.1, this.2⟩
theorem sigs_size : ∀ x ∈ sigs, 1 ≤ x.size ∧ x.size ≤ 3 := by decide +kernel
theorem tokL_len {s : ByteArray} {e : Int} {L : RL} {t : Tok} {k : Nat} (h : tokL s e L = some (t, k)) : 1 ≤ k ∧ k ≤ L.length := by
 cases L with
 | nil => simp [tokL] at h
 | cons q L =>
  rw [tokL] at h
  have c1 := cnt_le nmB (q :: L)
  have c2 := cnt_le dgB (q :: L)
  split at h
  ·rename_i hc
   have : nmB q.1 = true := by unfold nmB; rw [hc]; rfl
   have := cnt_pos (L := L) this
   split at h
   ·simp only [Option.some.injEq, Prod.mk.injEq] at h; omega
   ·cases h
  ·split at h
   ·rename_i hc
    have : dgB q.1 = true := by unfold dgB; rw [hc]; rfl
    have := cnt_pos (L := L) this
    split at h
    ·simp only [Option.some.injEq, Prod.mk.injEq] at h; omega
    ·cases h
   ·split at h
    ·rename_i x hx
     simp only [Option.some.injEq, Prod.mk.injEq] at h
     have h1 := sigF_some _ _ _ hx
     have h2 := sigs_size x h1.1
     have h3 := rpre_len _ _ h1.2
     rw [← Lib.size_eq] at h3
     omega
    ·cases h
theorem skp_sp : ∀ (L : RL), skp false L = skp false (L.drop (cnt spB L)) := by
 intro L
 induction L with
 | nil => rfl
 | cons q L ih =>
  by_cases hq : spB q.1 = true
  ·rw [cnt_pos hq, List.drop_succ_cons, ← ih]
   conv => lhs; unfold skp
   rw [if_pos (by simpa [spB] using hq)]
  ·rw [cnt_zero (by simpa using hq)]; rfl
theorem skp_ln : ∀ (L : RL), skp true L = skp false (L.drop (cnt lnB L)) := by
 intro L
 induction L with
 | nil => rfl
 | cons q L ih =>
  by_cases hq : lnB q.1 = true
  ·rw [cnt_pos hq, List.drop_succ_cons, ← ih]
   conv => lhs; unfold skp
   rw [if_neg (by simpa [lnB] using hq)]
  ·rw [cnt_zero (by simpa using hq)]
   have : q.1 = 10 := by simpa [lnB] using hq
   conv => lhs; unfold skp
   conv => rhs; unfold skp
   rw [if_pos this, List.drop_zero]
   simp only []
   rw [if_pos (by rw [this]; decide +kernel)]
theorem cls35 : cls 35 = 4 := by decide +kernel
theorem lex_ref (s : ByteArray) (e : Int) : ∀ (n : Nat) (L : RL), L.length ≤ n → ∀ (f : Nat), L.length ≤ f → ∀ b : Int, b ≤ posOf e L → srt e L → lexL s e L b = refL s e f L := by
 intro n
 induction n with
 | zero =>
  intro L h f hf b hb hs
  obtain rfl : L = [] := List.eq_nil_of_length_eq_zero (by omega)
  cases f <;> rfl
 | succ n ih =>
  intro L h f hf b hb hs
  cases L with
  | nil => cases f <;> rfl
  | cons q L =>
   simp only [List.length_cons] at h hf
   obtain ⟨f, rfl⟩ : ∃ g, f = g + 1 := ⟨f - 1, by omega⟩
   simp only [posOf] at hb
   conv => lhs; unfold lexL
   rw [if_neg (by omega)]
   -- what is left out
   have pass : ∀ k, 1 ≤ k → lexL s e L (posOf e ((q :: L).drop k)) = lexL s e ((q :: L).drop k) (posOf e ((q :: L).drop k)) := by
    intro k hk
    obtain ⟨k, rfl⟩ : ∃ g, k = g + 1 := ⟨k - 1, by omega⟩
    rw [List.drop_succ_cons]
    exact lexL_drop s e L k hs.2
   by_cases h3 : cls q.1 = 3
   ·have hsp : spB q.1 = true := by unfold spB; rw [h3]; rfl
    have hc := cnt_pos (L := L) hsp
    have hst : stepL s e (q :: L) = some (none, cnt spB (q :: L)) := by rw [stepL, if_pos h3]
    rw [hst]
    simp only [Option.toList, List.nil_append]
    rw [pass _ (by omega), ih _ (by simp; omega) (f + 1) (by simp; omega) _ (Int.le_refl _) (srt_drop e _ _ hs)]
    unfold refL
    rw [← skp_sp]
   ·by_cases h35 : q.1 = 35
    ·have hln : lnB q.1 = true := by unfold lnB; rw [h35]; rfl
     have hc := cnt_pos (L := L) hln
     have hst : stepL s e (q :: L) = some (none, cnt lnB (q :: L)) := by rw [stepL, if_neg h3, if_pos h35]
     rw [hst]
     simp only [Option.toList, List.nil_append]
     rw [pass _ (by omega), ih _ (by simp; omega) (f + 1) (by simp; omega) _ (Int.le_refl _) (srt_drop e _ _ hs)]
     unfold refL
     rw [hc, List.drop_succ_cons, ← skp_ln]
     have : skp false (q :: L) = skp true L := by
      conv => lhs; unfold skp
      rw [if_neg h3, if_pos h35]
     rw [this]
    ·have hsk : skp false (q :: L) = q :: L := by unfold skp; rw [if_neg h3, if_neg h35]
     have hst : stepL s e (q :: L) = (tokL s e (q :: L)).map fun p => (some p.1, p.2) := by
      rw [stepL, if_neg h3, if_neg h35]
     unfold refL
     rw [hsk, hst]
     simp only []
     rcases ht : tokL s e (q :: L) with _ | ⟨t, k⟩
     ·rfl
     ·have hk := tokL_len ht
      simp only [Option.map_some, Option.toList]
      rw [pass k hk.1, ih _ (by simp at *; omega) f (by simp at *; omega) _ (Int.le_refl _) (srt_drop e _ _ hs)]
      rfl
def lexT (s : ByteArray) : List Tok × Option Int := lexL s (endOf s (each s).2) (each s).1 0
def toks (s : ByteArray) : List Tok × Int × Int :=
 if s.size ≤ 2000 then
  match (lexT s).2 with
  | some i => ([], i, 2)
  | none => if (each s).2 = -1 then ((lexT s).1 ++ [⟨4, ⟨#[]⟩, 0, s.size⟩], s.size, 0) else ([], (each s).2, 2)
 else ([], 0, 3)
theorem toks_ref (s : ByteArray) (f : Nat) (h : (each s).1.length ≤ f) : lexT s = refL s (endOf s (each s).2) f (each s).1 :=
 lex_ref s _ _ _ (Nat.le_refl _) f h 0 (by
  have := (posOf_ge s s.size 0 (by omega) 0).1
  rw [List.drop_zero] at this
  exact this) (eachF_srt s s.size 0 (by omega))
end Go.Proofs.YtmpcmpeloebnhaaGreatDoor
namespace Go.Proofs.YtmpcmpeloebnhaaGreatDoor
open Go.RowKit
theorem shf_drop (d : Int) (L : RL) (k : Nat) : (shf d L).drop k = shf d (L.drop k) := by simp [shf]
theorem shf_pos (d e : Int) (L : RL) : posOf (e + d) (shf d L) = posOf e L + d := by cases L <;> rfl
theorem shf_cnt (p : Int → Bool) (d : Int) (L : RL) : cnt p (shf d L) = cnt p L := by
 induction L with
 | nil => rfl
 | cons q L ih =>
  show (if p q.1 then cnt p (shf d L) + 1 else 0) = _
  rw [ih]; rfl
theorem shf_num (d : Int) (L : RL) : ∀ a, numV a (shf d L) = numV a L := by
 induction L with
 | nil => intro a; rfl
 | cons q L ih =>
  intro a
  show (if dgB q.1 then numV (min (10 * a + (q.1 - 48)) 1000) (shf d L) else a) = _
  rw [ih]; rfl
theorem shf_rpre (d : Int) : ∀ (x : List UInt8) (L : RL), rpre x (shf d L) = rpre x L := by
 intro x
 induction x with
 | nil => intro L; cases L <;> rfl
 | cons c x ih =>
  intro L
  cases L with
  | nil => rfl
  | cons q L =>
   show (q.1 == (c.toNat : Int) && rpre x (shf d L)) = _
   rw [ih]; rfl
theorem shf_sig (d : Int) (L : RL) : ∀ X, sigF X (shf d L) = sigF X L := by
 intro X
 induction X with
 | nil => rfl
 | cons x X ih => unfold sigF; rw [shf_rpre, ih]
def Tok.sh (d : Int) (t : Tok) : Tok := { t with pos := t.pos + d }
theorem ext_ext (t : ByteArray) (p a b : Nat) (hb : p + b ≤ t.size) : (t.extract p t.size).extract a b = t.extract (p + a) (p + b) := by
 apply ByteArray.ext
 apply Array.ext'
 rw [Lib.extract_data, Lib.extract_data, Lib.extract_data]
 rw [Lib.size_eq] at hb ⊢
 rw [List.drop_take, List.drop_drop, List.take_take]
 congr 1
 omega
theorem tokL_shf (t : ByteArray) (p : Nat) (L : RL) (hp : p ≤ t.size) (h0 : ∀ q ∈ L, 0 ≤ q.2) (hs : srt ((t.size : Int) - p) L) :
  tokL t t.size (shf p L) = (tokL (t.extract p t.size) ((t.size : Int) - p) L).map fun x => (x.1.sh p, x.2) := by
 cases L with
 | nil => rfl
 | cons q L =>
  have hq := h0 q (List.mem_cons_self ..)
  have hcons : shf p (q :: L) = (q.1, q.2 + p) :: shf p L := rfl
  have e0 : ((t.size : Int) - p) + p = t.size := by omega
  have epos : ∀ k, posOf (t.size : Int) (((q.1, q.2 + (p : Int)) :: shf p L).drop k) = posOf ((t.size : Int) - p) ((q :: L).drop k) + p := by
   intro k
   rw [← hcons, shf_drop]
   have := shf_pos p ((t.size : Int) - p) ((q :: L).drop k)
   rw [e0] at this
   exact this
  have ecnt : ∀ f, cnt f ((q.1, q.2 + (p : Int)) :: shf p L) = cnt f (q :: L) := by intro f; rw [← hcons, shf_cnt]
  have enum : numV 0 ((q.1, q.2 + (p : Int)) :: shf p L) = numV 0 (q :: L) := by rw [← hcons, shf_num]
  have esig : sigL ((q.1, q.2 + (p : Int)) :: shf p L) = sigL (q :: L) := by rw [← hcons]; exact shf_sig _ _ _
  rw [hcons]
  unfold tokL
  simp only [ecnt, epos, enum, esig]
  by_cases h1 : cls q.1 = 1
  ·rw [if_pos h1, if_pos h1]
   by_cases h2 : cnt nmB (q :: L) ≤ 12
   ·rw [if_pos h2, if_pos h2]
    have hge : q.2 ≤ posOf ((t.size : Int) - p) ((q :: L).drop (cnt nmB (q :: L))) := posOf_drop _ (q :: L) (cnt nmB (q :: L)) hs
    have hup : ∀ M : RL, srt ((t.size : Int) - p) M → posOf ((t.size : Int) - p) M ≤ (t.size : Int) - p := by
     intro M
     induction M with
     | nil => intro _; exact Int.le_refl _
     | cons a M ih => intro h; have := ih h.2; have := h.1; simp only [posOf] at *; omega
    have hle := hup _ (srt_drop _ (q :: L) (cnt nmB (q :: L)) hs)
    have ex : (t.extract p t.size).extract q.2.toNat (posOf ((t.size : Int) - p) ((q :: L).drop (cnt nmB (q :: L)))).toNat = t.extract (q.2 + p).toNat (posOf ((t.size : Int) - p) ((q :: L).drop (cnt nmB (q :: L))) + p).toNat := by
     rw [ext_ext t p _ _ (by omega)]
     congr 1 <;> omega
    simp only [Option.map_some, ex, Tok.sh]
   ·rw [if_neg h2, if_neg h2]; rfl
  ·rw [if_neg h1, if_neg h1]
   by_cases h2 : cls q.1 = 2
   ·rw [if_pos h2, if_pos h2]
    split <;> simp [Tok.sh]
   ·rw [if_neg h2, if_neg h2]
    rcases sigL (q :: L) with _ | x
    ·rfl
    ·simp [Tok.sh]
theorem stepL_shf (t : ByteArray) (p : Nat) (L : RL) (hp : p ≤ t.size) (h0 : ∀ q ∈ L, 0 ≤ q.2) (hs : srt ((t.size : Int) - p) L) :
  stepL t t.size (shf p L) = (stepL (t.extract p t.size) ((t.size : Int) - p) L).map fun x => (x.1.map (Tok.sh p), x.2) := by
 have ht := tokL_shf t p L hp h0 hs
 cases L with
 | nil => rfl
 | cons q L =>
  have hcons : shf p (q :: L) = (q.1, q.2 + p) :: shf p L := rfl
  have ecnt : ∀ f, cnt f ((q.1, q.2 + (p : Int)) :: shf p L) = cnt f (q :: L) := by intro f; rw [← hcons, shf_cnt]
  rw [hcons] at ht ⊢
  rw [stepL, stepL, ht, ecnt, ecnt]
  simp only []
  split
  ·rfl
  ·split
   ·rfl
   ·rcases tokL (t.extract p t.size) ((t.size : Int) - p) (q :: L) with _ | x <;> rfl
theorem step_rest (t : ByteArray) (b p : Nat) (hp : p < t.size) (hb : t.size ≤ p + b) (hs : (eachF t b p).2 = -1) :
  (each (t.extract p t.size)).2 = -1 ∧ shf p (each (t.extract p t.size)).1 = (eachF t b p).1 ∧
  stepL t t.size (eachF t b p).1 = (stepL (t.extract p t.size) (t.extract p t.size).size (each (t.extract p t.size)).1).map fun x => (x.1.map (Tok.sh p), x.2) := by
 have hts := Lib.tail_size t p
 have h := each_rest t p b 0
 rw [Nat.add_zero] at h
 have e1 : eachF (t.extract p t.size) b 0 = each (t.extract p t.size) := eachF_fuel _ _ _ _ (by omega) (by omega)
 rw [e1] at h
 have h2 := h.2.2 hs
 refine ⟨h2, h.1, ?_⟩
 have hsr := eachF_srt (t.extract p t.size) (t.extract p t.size).size 0 (by omega)
 have e3 : eachF (t.extract p t.size) (t.extract p t.size).size 0 = each (t.extract p t.size) := rfl
 rw [e3] at hsr
 have e2 : endOf (t.extract p t.size) (each (t.extract p t.size)).2 = (t.size : Int) - p := by unfold endOf; rw [if_pos h2, hts]; omega
 rw [e2] at hsr
 rw [← h.1, stepL_shf t p _ (by omega) (fun q hq => each_at _ q hq) hsr]
 rw [hts]
 have e4 : ((t.size - p : Nat) : Int) = (t.size : Int) - p := by omega
 rw [e4]
theorem runeCount_each (s : ByteArray) : ∀ (b pos : Nat), s.size ≤ pos + b → (eachF s b pos).2 = -1 → Lib.runeCountFrom s b pos = (eachF s b pos).1.length := by
 intro b
 induction b with
 | zero => intro pos _ _; rfl
 | succ b ih =>
  intro pos h h2
  by_cases hp : pos < s.size
  ·by_cases hb : badAt s pos
   ·rw [eachF_bad _ _ _ hp hb] at h2; simp only [] at h2; omega
   ·have hw := width_pos s pos hp
    rw [eachF_one _ _ _ hp hb] at h2 ⊢
    have := ih (pos + (Utf8.decode s pos).2) (by omega) h2
    unfold Lib.runeCountFrom
    rw [if_pos hp, this]
    simp only [List.length_cons]
    omega
  ·rw [eachF_end _ _ _ hp, Lib.runeCountFrom_end _ _ _ hp]; rfl
theorem hasPrefix_rpre (s : ByteArray) : ∀ (x : List UInt8), (∀ c ∈ x, c.toNat < 128) → ∀ (b pos : Nat), s.size ≤ pos + b → (eachF s b pos).2 = -1 → Lib.hasPrefix (s.data.toList.drop pos) x = rpre x (eachF s b pos).1 := by
 intro x
 induction x with
 | nil => intro _ b pos _ _; cases h : s.data.toList.drop pos <;> cases h2 : (eachF s b pos).1 <;> simp [Lib.hasPrefix, rpre]
 | cons c x ih =>
  intro hx b pos hb h2
  have hc := hx c (List.mem_cons_self ..)
  by_cases hp : pos < s.size
  ·obtain ⟨b, rfl⟩ : ∃ g, b = g + 1 := ⟨b - 1, by omega⟩
   have hbad : ¬ badAt s pos := by
    intro hbad
    rw [eachF_bad _ _ _ hp hbad] at h2; simp only [] at h2; omega
   have hp' : pos < s.data.toList.length := by rw [← Lib.size_eq]; exact hp
   have hg : s.data.toList[pos] = s.get! pos := by
    rw [← Lib.getD_get!', List.getD_eq_getElem?_getD, List.getElem?_eq_getElem hp']; rfl
   have hw := width_pos s pos hp
   rw [eachF_one _ _ _ hp hbad] at h2 ⊢
   rw [List.drop_eq_getElem_cons hp', hg]
   simp only [Lib.hasPrefix, rpre]
   by_cases he : s.get! pos = c
   ·have hd := ascii_byte s pos (by rw [he]; exact hc)
    rw [he] at hd
    rw [hd] at h2 ⊢
    simp only [] at h2 ⊢
    rw [← ih (fun a ha => hx a (List.mem_cons_of_mem _ ha)) b (pos + 1) (by omega) h2, he]
    simp [Lib.hasPrefix]
   ·have hne : ¬ (Utf8.decode s pos).1 = c.toNat := by
     intro h
     have := (ascii_one s pos (by omega)).1
     exact he (UInt8.toNat_inj.1 (by omega))
    have e1 : (c == s.get! pos) = false := by rw [beq_eq_false_iff_ne]; exact fun h => he h.symm
    have e2 : ((((Utf8.decode s pos).1 : Nat) : Int) == (c.toNat : Int)) = false := by rw [beq_eq_false_iff_ne]; omega
    rw [e2]
    simp [List.isPrefixOf, e1]
  ·have : s.data.toList.drop pos = [] := List.drop_of_length_le (by rw [← Lib.size_eq]; omega)
   rw [this, eachF_end _ _ _ hp]
   rfl
theorem sigs_ascii : ∀ x ∈ sigs, ∀ c ∈ x.data.toList, c.toNat < 128 := by decide +kernel
theorem cls2_iff (r : Int) : cls r = 2 ↔ 48 ≤ r ∧ r ≤ 57 := by
 constructor
 ·intro h
  unfold cls at h
  split at h
  ·omega
  ·split at h
   ·assumption
   ·split at h
    ·omega
    ·split at h <;> omega
 ·intro h; exact (cls2 h).symm
theorem dgB_iff (r : Int) : dgB r = true ↔ 48 ≤ r ∧ r ≤ 57 := by unfold dgB; rw [beq_iff_eq, cls2_iff]
theorem digits_len (s : ByteArray) : ∀ (b pos : Nat), s.size ≤ pos + b → pos ≤ s.size → (eachF s b pos).2 = -1 → (∀ q ∈ (eachF s b pos).1, dgB q.1 = true) → s.size = pos + (eachF s b pos).1.length := by
 intro b
 induction b with
 | zero => intro pos _ _ _ _; simp [eachF]; omega
 | succ b ih =>
  intro pos h h0 h2 h3
  by_cases hp : pos < s.size
  ·have hbad : ¬ badAt s pos := by
    intro hbad
    rw [eachF_bad _ _ _ hp hbad] at h2; simp only [] at h2; omega
   rw [eachF_one _ _ _ hp hbad] at h2 h3 ⊢
   have hq := (dgB_iff _).1 (h3 _ (List.mem_cons_self ..))
   simp only [] at hq
   have h1 := ascii_one s pos (by omega)
   rw [h1.2] at h2 h3 ⊢
   have := ih (pos + 1) (by omega) (by omega) h2 (fun q hq => h3 q (List.mem_cons_of_mem _ hq))
   simp only [List.length_cons]
   omega
  ·rw [eachF_end _ _ _ hp]; simp; omega
theorem numV_big : ∀ (L : RL) (a : Int), 99 < a → 99 < numV a L := by
 intro L
 induction L with
 | nil => intro a h; exact h
 | cons q L ih =>
  intro a h
  rw [numV]
  by_cases hq : dgB q.1 = true
  ·rw [if_pos hq]
   have := (dgB_iff _).1 hq
   exact ih _ (by omega)
  ·rw [if_neg hq]; exact h
theorem numV_one (q : Int × Int) (L : RL) (a : Int) (h0 : 0 ≤ a) (h : a ≤ 99) (hq : dgB q.1 = true) : numV a (q :: L) = numV (10 * a + (q.1 - 48)) L := by
 have := (dgB_iff _).1 hq
 rw [numV, if_pos hq, Int.min_eq_left (by omega)]
theorem cnt_all (p : Int → Bool) (L : RL) : ∀ q ∈ L.take (cnt p L), p q.1 = true := by
 induction L with
 | nil => intro q h; simp at h
 | cons a L ih =>
  intro q hq
  by_cases h : p a.1 = true
  ·rw [cnt_pos h, List.take_succ_cons, List.mem_cons] at hq
   rcases hq with rfl | hq
   ·exact h
   ·exact ih q hq
  ·rw [cnt_zero (by simpa using h)] at hq; simp at hq
theorem num_take (L : RL) : ∀ a, numV a (L.take (cnt dgB L)) = numV a L := by
 induction L with
 | nil => intro a; rfl
 | cons q L ih =>
  intro a
  by_cases h : dgB q.1 = true
  ·rw [cnt_pos h, List.take_succ_cons, numV, numV, if_pos h, if_pos h, ih]
  ·rw [cnt_zero (by simpa using h), List.take_zero, numV, numV, if_neg h]
theorem cls_range (r : Int) : 0 ≤ cls r ∧ cls r ≤ 4 := by
 unfold cls
 repeat' split
 all_goals omega
theorem sig_none (q : Int × Int) (L : RL) (h : cls q.1 = 0) : sigL (q :: L) = none := by
 rcases hx : sigL (q :: L) with _ | x
 ·rfl
 ·exfalso
  have h1 := sigF_some _ _ _ hx
  have h2 : ∀ x ∈ sigs, ∃ c y, x.data.toList = c :: y ∧ cls (c.toNat : Int) = 4 := by
   intro x hx
   simp only [sigs, List.mem_cons, List.not_mem_nil, or_false] at hx
   rcases hx with rfl | rfl | rfl | rfl | rfl | rfl | rfl | rfl | rfl | rfl | rfl | rfl | rfl | rfl | rfl | rfl | rfl | rfl <;> exact ⟨_, _, rfl, by decide +kernel⟩
  obtain ⟨c, y, e, hc⟩ := h2 x h1.1
  have h3 := h1.2
  rw [e] at h3
  simp only [rpre, Bool.and_eq_true, beq_iff_eq] at h3
  rw [h3.1] at h
  omega
end Go.Proofs.YtmpcmpeloebnhaaGreatDoor
namespace Go.Proofs.YtmpcmpeloebnhaaGreatDoor
open Go.RowKit
open Go.Maps
def heldR : Value → Option (DataW Value × List MemPlace) := fun v => some (.held v, [])
abbrev sKey (s : ByteArray) : Lit := .string s.data.toList
def SMap (P : Program) (k : TypeId) (w : World) (b n : Nat) (f : ByteArray → Option Value) : Prop :=
 ∃ D : DataW Value, w.ownsMap P k heldR b n D ∧ Maps.IsMap D ∧ ∀ s : ByteArray, Maps.has D (sKey s) = (f s).isSome ∧ ∀ v, f s = some v → ∀ z, D.atKey (sKey s) z = .held v
theorem sKey_inj {s t : ByteArray} (h : sKey s = sKey t) : s = t := by
 have h1 : s.data.toList = t.data.toList := Lit.string.inj h
 have h2 : s.data = t.data := Array.toList_inj.1 h1
 exact ByteArray.ext h2
theorem SMap.lt {P : Program} {k : TypeId} {w : World} {b n : Nat} {f : ByteArray → Option Value} (h : SMap P k w b n f) : b < w.heap.size := by
 obtain ⟨D, h1, _⟩ := h
 exact h1.lt
theorem SMap.same {P : Program} {k : TypeId} {w w' : World} {b n : Nat} {f : ByteArray → Option Value} (h : SMap P k w b n f) (hs : w'.heap[b]? = w.heap[b]?) : SMap P k w' b n f := by
 obtain ⟨D, ⟨es, clock, hb, r⟩, h2, h3⟩ := h
 exact ⟨D, ⟨es, clock, hs.trans hb, r⟩, h2, h3⟩
theorem SMap.congr {P : Program} {k : TypeId} {w : World} {b n : Nat} {f g : ByteArray → Option Value} (h : SMap P k w b n f) (hf : ∀ s, f s = g s) : SMap P k w b n g := by
 have : f = g := funext hf
 rw [← this]
 exact h
theorem SMap.made (P : Program) (k : TypeId) (w : World) : SMap P k (w.alloc (.map #[] 0)) w.heap.size 0 (fun _ => none) :=
 ⟨.map [], World.ownsMap_made _ _ _ _, (World.ownsMap_made w P k heldR).isMap, fun s => ⟨rfl, fun v h => by cases h⟩⟩
section
variable {P : Program} (w : World) {ops : Array Oper} {rest : List Oper} {o : Oper} {a : Act} {Q : Exit → Act → World → Prop}
theorem wpList_lookup_smap (hg : o.guard = none) (m x : Operand) (t : TypeId) (hop : o.op = Op.lookup t m x true)
  (k e : TypeId) (hk : P.underlying k = some .string) (ht : P.underlying t = some (.map k e)) {z : Value} (hz : (zeroValue e).run P w = .ok z w) (b n : Nat) (f : ByteArray → Option Value)
  (hm : a.eval m = .map (some b)) (hS : SMap P k w b n f) (s : ByteArray) (hx : a.eval x = .string s) (hs : s.size ≤ maxLen)
  (hK : wpList P ops Q rest (a.put o.dst (.tuple #[(f s).getD z, .bool (f s).isSome])) w) :
  wpList P ops Q (o :: rest) a w := by
 obtain ⟨D, hown, hI, hf⟩ := hS
 refine wpList_lookup_own_ok w hg m x t hop k e (string_keyed hk) ht heldR hz (.held z) [] rfl b n D hm hown (.string s) (sKey s) hx (WideMaps.keyOf_string_mk hk hs) fun v ps hv => ?_
 rw [(hf s).1]
 have hv2 : v = (f s).getD z := by
  have h1 : DataW.held v = D.atKey (sKey s) (.held z) := congrArg Prod.fst (Option.some.inj hv)
  cases hq : f s with
  | none =>
   have h2 := Maps.atKey_of_not_has (D := D) (k := sKey s) (by rw [(hf s).1, hq]; rfl) (.held z)
   rw [h2] at h1
   exact DataW.held.inj h1
  | some u =>
   rw [(hf s).2 u hq] at h1
   exact DataW.held.inj h1
 rw [hv2]
 exact hK
theorem wpList_update_smap (hg : o.guard = none) (m x y : Operand) (t : TypeId) (hop : o.op = Op.mapUpdate t m x y)
  (k e : TypeId) (hk : P.underlying k = some .string) (ht : P.underlying t = some (.map k e)) (b n : Nat) (f : ByteArray → Option Value)
  (hm : a.eval m = .map (some b)) (hS : SMap P k w b n f) (hn : n < maxLen) (s : ByteArray) (v : Value) (hx : a.eval x = .string s) (hy : a.eval y = v) (hs : s.size ≤ maxLen)
  (hK : ∀ w', SMap P k w' b (n + 1) (fun u => if u = s then some v else f u) → w.grownBy w' (some b) → w'.heap.size = w.heap.size → wpList P ops Q rest (a.put o.dst undef) w') :
  wpList P ops Q (o :: rest) a w := by
 obtain ⟨D, hown, hI, hf⟩ := hS
 refine wpList_mapUpdate_in w hg m x y t hop k e (string_keyed hk) ht heldR b n D hm hown hn (.string s) v (sKey s) hx hy (WideMaps.keyOf_string_mk hk hs) (.held v) [] rfl fun w' hown' hgr => ?_
 refine hK w' ⟨_, hown', hown'.isMap, fun u => ?_⟩ hgr.grown ?_
 ·by_cases hu : u = s
  ·subst hu
   simp only [if_true]
   refine ⟨Maps.has_put_same hI (by trivial) _, fun v' h' z => ?_⟩
   rw [← Option.some.inj h']
   exact Maps.atKey_put_same hI (by trivial) _ z
  ·simp only [if_neg hu]
   have hne : sKey u ≠ sKey s := fun h => hu (sKey_inj h)
   refine ⟨(Maps.has_put_other hne _).trans (hf u).1, fun v' h' z => ?_⟩
   rw [Maps.atKey_put_other hne]
   exact (hf u).2 v' h' z
 ·obtain ⟨es, clock, es2, clock2, hb, rfl⟩ := hgr
  simp [ChangeMaps.setBlock]
end
end Go.Proofs.YtmpcmpeloebnhaaGreatDoor
namespace Go.Proofs.YtmpcmpeloebnhaaGreatDoor
open Go.RowKit
inductive Fo where
 | nil
 | cons (op name : ByteArray) (n pos : Int) (a : Option Addr) (cap : Nat) (kids rest : Fo)
namespace Fo
def len : Fo → Nat
 | nil => 0
 | cons _ _ _ _ _ _ _ r => r.len + 1
def size : Fo → Nat
 | nil => 0
 | cons _ _ _ _ _ _ k r => k.size + 1 + r.size
end Fo
structure Nd where
 op : ByteArray
 name : ByteArray
 n : Int
 pos : Int
 a : Option Addr
 cap : Nat
 kids : Fo
abbrev nodeCells (op name : ByteArray) (n pos : Int) (a : Option Addr) (k cap : Nat) : Array Value := #[.string op, .string name, .int .i64 n, .int .i64 pos, .slice a k cap]
def Nd.val (T : Nd) : Value := .agg (nodeCells T.op T.name T.n T.pos T.a T.kids.len T.cap)
def Nd.size (T : Nd) : Nat := T.kids.size + 1
def NodeAt (w : World) (b o : Nat) (op name : ByteArray) (n pos : Int) (a : Option Addr) (k cap : Nat) : Prop :=
 w.cell? ⟨b, o, none⟩ = some (.string op) ∧ w.cell? ⟨b, o + 1, none⟩ = some (.string name) ∧ w.cell? ⟨b, o + 2, none⟩ = some (.int .i64 n) ∧ w.cell? ⟨b, o + 3, none⟩ = some (.int .i64 pos) ∧ w.cell? ⟨b, o + 4, none⟩ = some (.slice a k cap)
def Fo.In (w : World) : Fo → Nat → Nat → Prop
 | .nil, _, _ => True
 | .cons op name n pos a cap kids rest, b, o => NodeAt w b o op name n pos a kids.len cap ∧ (kids = .nil ∨ ∃ b' o', a = some ⟨b', o', none⟩ ∧ kids.len ≤ 140737488351232 ∧ (0 < kids.len ∧ w.frozen? ⟨b', o', none⟩ = false) ∧ Fo.In w kids b' o') ∧ Fo.In w rest b (o + 5)
def Nd.In (w : World) (T : Nd) : Prop := T.kids = .nil ∨ ∃ b o, T.a = some ⟨b, o, none⟩ ∧ T.kids.len ≤ 140737488351232 ∧ (0 < T.kids.len ∧ w.frozen? ⟨b, o, none⟩ = false) ∧ T.kids.In w b o
def Fo.All (P : Nd → Prop) : Fo → Prop
 | .nil => True
 | .cons op name n pos a cap kids rest => P ⟨op, name, n, pos, a, cap, kids⟩ ∧ Fo.All P rest
theorem Fo.all_of {P : Nd → Prop} (h : ∀ T : Nd, Fo.All P T.kids → P T) : ∀ F : Fo, Fo.All P F := by
 intro F
 induction F with
 | nil => trivial
 | cons op name n pos a cap kids rest ihk ihr => exact ⟨h _ ihk, ihr⟩
theorem Nd.all_of {P : Nd → Prop} (h : ∀ T : Nd, Fo.All P T.kids → P T) (T : Nd) : P T := h T (Fo.all_of h _)
theorem cell_below {w w' : World} (h : Below w.heap.size w w') {p : Addr} {v : Value} (hc : w.cell? p = some v) : w'.cell? p = some v := by
 rw [h.cell (p := p)]
 ·exact hc
 ·have := hc
  rcases Nat.lt_or_ge p.block w.heap.size with hl | hl
  ·exact hl
  ·exfalso
   rw [World.cell?] at this
   rw [Array.getElem?_eq_none hl] at this
   cases this
theorem NodeAt.below {w w' : World} (hb : Below w.heap.size w w') {b o : Nat} {op name : ByteArray} {n pos : Int} {a : Option Addr} {k cap : Nat} (h : NodeAt w b o op name n pos a k cap) : NodeAt w' b o op name n pos a k cap :=
 ⟨cell_below hb h.1, cell_below hb h.2.1, cell_below hb h.2.2.1, cell_below hb h.2.2.2.1, cell_below hb h.2.2.2.2⟩
theorem lt_of_cell {w : World} {p : Addr} {v : Value} (hc : w.cell? p = some v) : p.block < w.heap.size := by
 rcases Nat.lt_or_ge p.block w.heap.size with hl | hl
 ·exact hl
 ·exfalso
  rw [World.cell?, Array.getElem?_eq_none hl] at hc
  cases hc
theorem Fo.In.lt {w : World} {F : Fo} {b o : Nat} (h : F.In w b o) (h0 : 0 < F.len) : b < w.heap.size := by
 cases F with
 | nil => cases h0
 | cons op name n pos a cap kids rest => exact lt_of_cell h.1.1
theorem Fo.In.below {w w' : World} (hb : Below w.heap.size w w') : ∀ {F : Fo} {b o : Nat}, F.In w b o → F.In w' b o := by
 intro F
 induction F with
 | nil => intro b o _; trivial
 | cons op name n pos a cap kids rest ihk ihr =>
  intro b o h
  obtain ⟨h1, h2, h3⟩ := h
  refine ⟨h1.below hb, ?_, ihr h3⟩
  rcases h2 with h2 | ⟨b', o', h2, hl, ⟨h0, hf⟩, h4⟩
  ·exact .inl h2
  ·exact .inr ⟨b', o', h2, hl, ⟨h0, by rw [hb.frozen (h4.lt h0)]; exact hf⟩, ihk h4⟩
theorem Nd.In.below {w w' : World} (hb : Below w.heap.size w w') {T : Nd} (h : T.In w) : T.In w' := by
 rcases h with h | ⟨b, o, h, hl, ⟨h0, hf⟩, h2⟩
 ·exact .inl h
 ·exact .inr ⟨b, o, h, hl, ⟨h0, by rw [hb.frozen (h2.lt h0)]; exact hf⟩, h2.below hb⟩
structure Tail (w : World) (P : Nd → Prop) (F R : Fo) (b o k : Nat) : Prop where
 lies : R.In w b (o + k * 5)
 all : Fo.All P R
 len : k + R.len = F.len
theorem Tail.start {w : World} {P : Nd → Prop} {F : Fo} {b o : Nat} (h : F.In w b o) (ha : Fo.All P F) : Tail w P F F b o 0 := ⟨h, ha, by omega⟩
theorem Tail.next {w : World} {P : Nd → Prop} {F : Fo} {op name : ByteArray} {n pos : Int} {a : Option Addr} {cap : Nat} {kids rest : Fo} {b o k : Nat} (h : Tail w P F (.cons op name n pos a cap kids rest) b o k) :
  NodeAt w b (o + k * 5) op name n pos a kids.len cap ∧ Nd.In w ⟨op, name, n, pos, a, cap, kids⟩ ∧ P ⟨op, name, n, pos, a, cap, kids⟩ ∧ k < F.len ∧ Tail w P F rest b o (k + 1) := by
 obtain ⟨⟨h1, h2, h3⟩, ⟨h4, h5⟩, h6⟩ := h
 have h7 : (Fo.cons op name n pos a cap kids rest).len = rest.len + 1 := rfl
 rw [h7] at h6
 refine ⟨h1, h2, h4, by omega, ⟨?_, h5, by omega⟩⟩
 rw [show o + (k + 1) * 5 = o + k * 5 + 5 by omega]
 exact h3
theorem Tail.below {w w' : World} (hb : Below w.heap.size w w') {P : Nd → Prop} {F R : Fo} {b o k : Nat} (h : Tail w P F R b o k) : Tail w' P F R b o k := ⟨h.lies.below hb, h.all, h.len⟩
theorem new_at (w : World) (o : Obj) : (w.alloc o).heap[w.heap.size]? = some o := by show (w.heap.push _)[w.heap.size]? = _; simp
theorem Nd.val_def (T : Nd) : T.val = .agg #[.string T.op, .string T.name, .int .i64 T.n, .int .i64 T.pos, .slice T.a T.kids.len T.cap] := rfl
theorem cellsNode : Tryz.prog.cellsOf 26 = 5 := by kernel_rfl
abbrev boxOf (op name : ByteArray) (n pos : Int) (a : Option Addr) (k cap : Nat) : Obj := .cells (nodeCells op name n pos a k cap) 26
theorem box_cell (w : World) (op name : ByteArray) (n pos : Int) (a : Option Addr) (k cap : Nat) : (w.alloc (boxOf op name n pos a k cap)).cell? ⟨w.heap.size, 4, none⟩ = some (.slice a k cap) := by
 rw [cell_of_row _ w.heap.size 4 _ _ _ (new_at _ _)]
 rfl
theorem alloc_size (w : World) (ob : Obj) : (w.alloc ob).heap.size = w.heap.size + 1 := by simp
theorem below_box (w : World) (ob : Obj) : Below w.heap.size w (w.alloc ob) := (Below.refl _ _).alloc (Nat.le_refl _) _
theorem box_then {w w' : World} {ob : Obj} (h : Below (w.alloc ob).heap.size (w.alloc ob) w') : Below w.heap.size w w' := (below_box w ob).trans (h.mono (by rw [alloc_size]; omega))
theorem two_boxes (w : World) (o1 o2 : Obj) : Below w.heap.size w ((w.alloc o1).alloc o2) := ((Below.refl _ _).alloc (Nat.le_refl _) _).alloc (by simp) _
theorem box_cells {w : World} {B : Nat} {op name : ByteArray} {n pos : Int} {a : Option Addr} {k cap : Nat} (h : w.heap[B]? = some (boxOf op name n pos a k cap)) :
  w.cell? ⟨B, 0, none⟩ = some (.string op) ∧ w.cell? ⟨B, 1, none⟩ = some (.string name) ∧ w.cell? ⟨B, 2, none⟩ = some (.int .i64 n) ∧ w.cell? ⟨B, 3, none⟩ = some (.int .i64 pos) ∧ w.cell? ⟨B, 4, none⟩ = some (.slice a k cap) := by
 refine ⟨?_, ?_, ?_, ?_, ?_⟩ <;> (rw [cell_of_row _ _ _ _ _ _ h]; rfl)
theorem lt_heap {w : World} {B : Nat} {ob : Obj} (h : w.heap[B]? = some ob) : B < w.heap.size := (Array.getElem?_eq_some_iff.1 h).1
theorem box_alloc {w : World} {B : Nat} {op name : ByteArray} {n pos : Int} {a : Option Addr} {k cap : Nat} (h : w.heap[B]? = some (boxOf op name n pos a k cap)) (ob : Obj) : (w.alloc ob).heap[B]? = some (boxOf op name n pos a k cap) := by
 rw [Below.heap_alloc _ _ _ (lt_heap h)]; exact h
theorem second_at (w : World) (o1 o2 : Obj) : ((w.alloc o1).alloc o2).heap[w.heap.size + 1]? = some o2 := by
 have := new_at (w.alloc o1) o2
 rw [alloc_size] at this
 exact this
def Fo.sized : Fo → Prop
 | .nil => True
 | .cons _ name _ _ _ _ kids rest => name.size ≤ 140737488351232 ∧ kids.sized ∧ rest.sized
def Nd.sized (T : Nd) : Prop := T.name.size ≤ 140737488351232 ∧ T.kids.sized
end Go.Proofs.YtmpcmpeloebnhaaGreatDoor
namespace Go.Proofs
open Go.Shelf
def Tryz.lays195_ren : Go.Shelf.Ren := ⟨fun | 195 => 131 | n => n, fun | 9 => 9 | 3 => 3 | 0 => 0 | 4 => 4 | n => n, fun | n => n⟩
theorem Tryz.lays195 : Go.Proofs.Lays.n195 Tryz.prog Tryz.lays195_ren := {
 mixed := by kernel_rfl
 f195 := Tryz.func131.trans (congrArg some (by kernel_rfl))
 t0 := Tryz.underlying0
 a0 := Tryz.isAgg0
 z0 := Tryz.sizeOf0
 v0 := Tryz.zeroValue0
 t3 := Tryz.underlying3
 a3 := Tryz.isAgg3
 z3 := Tryz.sizeOf3
 v3 := Tryz.zeroValue3
 t4 := Tryz.underlying4
 a4 := Tryz.isAgg4
 z4 := Tryz.sizeOf4
 v4 := Tryz.zeroValue4
 t9 := Tryz.underlying9
 a9 := Tryz.isAgg9
 z9 := Tryz.sizeOf9
 v9 := Tryz.zeroValue9 }
open Go.RowKit in
theorem Tryz.utf8_RuneCountInString (s : ByteArray) (w : World) (hs : s.size < 9223372036854775807) :
  Calls Tryz.prog 131 #[.string s] w fun e w' => e = .returned (.int .i64 (Lib.runeCount s)) ∧ ∃ pos, w' = w.iter s pos := Any.utf8_RuneCountInString Tryz.lays195 s w hs
def Tryz.laysM316_ren : Go.Shelf.Ren := ⟨fun | 316 => 148 | n => n, fun | 9 => 9 | 3 => 3 | 4 => 4 | 37 => 107 | 0 => 0 | 127 => 159 | 5 => 5 | n => n, fun | n => n⟩
theorem Tryz.laysM316 : Go.Proofs.LaysM.n316 Tryz.prog Tryz.laysM316_ren := {
 mixed := by kernel_rfl
 f316 := Tryz.func148.trans (congrArg some (by kernel_rfl))
 t0 := Tryz.underlying0
 a0 := Tryz.isAgg0
 z0 := Tryz.sizeOf0
 v0 := Tryz.zeroValue0
 t3 := Tryz.underlying3
 a3 := Tryz.isAgg3
 z3 := Tryz.sizeOf3
 v3 := Tryz.zeroValue3
 t4 := Tryz.underlying4
 a4 := Tryz.isAgg4
 z4 := Tryz.sizeOf4
 v4 := Tryz.zeroValue4
 t9 := Tryz.underlying9
 a9 := Tryz.isAgg9
 z9 := Tryz.sizeOf9
 v9 := Tryz.zeroValue9
 t37 := Tryz.underlying107
 a37 := Tryz.isAgg107
 z37 := Tryz.sizeOf107
 v37 := Tryz.zeroValue107
 t127 := Tryz.underlying159
 a127 := Tryz.isAgg159
 z127 := Tryz.sizeOf159
 v127 := Tryz.zeroValue159
 t5 := Tryz.underlying5
 a5 := Tryz.isAgg5
 z5 := Tryz.sizeOf5
 v5 := Tryz.zeroValue5
 i0 := by kernel_rfl
 i3 := by kernel_rfl
 i4 := by kernel_rfl
 i5 := by kernel_rfl
 i9 := by kernel_rfl
 i37 := by kernel_rfl
 i127 := by kernel_rfl }
open Go.RowKit in
theorem Tryz.stringslite_Clone (s : ByteArray) (w : World) (hlim : s.size ≤ 281474976710656) :
  Calls Tryz.prog 148 #[.string s] w fun e w' => e = .returned (.string s) ∧ Below w.heap.size w w' := Any.stringslite_Clone Tryz.laysM316 s w hlim
def Tryz.lays99_ren : Go.Shelf.Ren := ⟨fun | 99 => 135 | 206 => 149 | n => n, fun | 9 => 9 | 4 => 4 | 3 => 3 | n => n, fun | n => n⟩
theorem Tryz.lays99 : Go.Proofs.Lays.n99 Tryz.prog Tryz.lays99_ren := {
 mixed := by kernel_rfl
 f99 := Tryz.func135.trans (congrArg some (by kernel_rfl))
 f206 := Tryz.func149.trans (congrArg some (by kernel_rfl))
 t3 := Tryz.underlying3
 a3 := Tryz.isAgg3
 z3 := Tryz.sizeOf3
 v3 := Tryz.zeroValue3
 t4 := Tryz.underlying4
 a4 := Tryz.isAgg4
 z4 := Tryz.sizeOf4
 v4 := Tryz.zeroValue4
 t9 := Tryz.underlying9
 a9 := Tryz.isAgg9
 z9 := Tryz.sizeOf9
 v9 := Tryz.zeroValue9 }
open Go.RowKit Go.Lib in
theorem Tryz.strings_HasPrefix (s p : ByteArray) (w : World) :
  Calls Tryz.prog 135 #[.string s, .string p] w fun e w' => e = .returned (.bool (Lib.hasPrefix s.data.toList p.data.toList)) ∧ w' = w := Any.strings_HasPrefix Tryz.lays99 s p w
def Tryz.lays157_ren : Go.Shelf.Ren := ⟨fun | 157 => 147 | 229 => 154 | 199 => 155 | 261 => 158 | 311 => 165 | 312 => 166 | n => n, fun | 9 => 9 | 31 => 112 | 3 => 3 | 5 => 5 | 4 => 4 | 119 => 148 | 0 => 0 | 40 => 123 | 152 => 160 | 21 => 21 | 154 => 162 | 51 => 163 | 141 => 165 | 196 => 172 | 193 => 169 | 198 => 175 | 49 => 173 | 194 => 170 | 201 => 178 | 226 => 182 | 46 => 149 | 227 => 183 | n => n, fun | 0 => 4 | 6 => 5 | n => n⟩
theorem Tryz.lays157 : Go.Proofs.Lays.n157 Tryz.prog Tryz.lays157_ren := {
 mixed := by kernel_rfl
 f157 := Tryz.func147.trans (congrArg some (by kernel_rfl))
 f199 := Tryz.func155.trans (congrArg some (by kernel_rfl))
 f229 := Tryz.func154.trans (congrArg some (by kernel_rfl))
 f261 := Tryz.func158.trans (congrArg some (by kernel_rfl))
 f311 := Tryz.func165.trans (congrArg some (by kernel_rfl))
 f312 := Tryz.func166.trans (congrArg some (by kernel_rfl))
 t0 := Tryz.underlying0
 a0 := Tryz.isAgg0
 z0 := Tryz.sizeOf0
 v0 := Tryz.zeroValue0
 t3 := Tryz.underlying3
 a3 := Tryz.isAgg3
 z3 := Tryz.sizeOf3
 v3 := Tryz.zeroValue3
 t4 := Tryz.underlying4
 a4 := Tryz.isAgg4
 z4 := Tryz.sizeOf4
 v4 := Tryz.zeroValue4
 t5 := Tryz.underlying5
 a5 := Tryz.isAgg5
 z5 := Tryz.sizeOf5
 v5 := Tryz.zeroValue5
 t9 := Tryz.underlying9
 a9 := Tryz.isAgg9
 z9 := Tryz.sizeOf9
 v9 := Tryz.zeroValue9
 t21 := Tryz.underlying21
 a21 := Tryz.isAgg21
 z21 := Tryz.sizeOf21
 v21 := Tryz.zeroValue21
 t31 := Tryz.underlying112
 a31 := Tryz.isAgg112
 z31 := Tryz.sizeOf112
 v31 := Tryz.zeroValue112
 t40 := Tryz.underlying123
 a40 := Tryz.isAgg123
 z40 := Tryz.sizeOf123
 v40 := Tryz.zeroValue123
 t46 := Tryz.underlying149
 a46 := Tryz.isAgg149
 z46 := Tryz.sizeOf149
 v46 := Tryz.zeroValue149
 t49 := Tryz.underlying173
 a49 := Tryz.isAgg173
 z49 := Tryz.sizeOf173
 v49 := Tryz.zeroValue173
 t51 := Tryz.underlying163
 a51 := Tryz.isAgg163
 z51 := Tryz.sizeOf163
 v51 := Tryz.zeroValue163
 t119 := Tryz.underlying148
 a119 := Tryz.isAgg148
 z119 := Tryz.sizeOf148
 t141 := Tryz.underlying165
 a141 := Tryz.isAgg165
 z141 := Tryz.sizeOf165
 v141 := Tryz.zeroValue165
 t152 := Tryz.underlying160
 a152 := Tryz.isAgg160
 z152 := Tryz.sizeOf160
 v152 := Tryz.zeroValue160
 t154 := Tryz.underlying162
 a154 := Tryz.isAgg162
 z154 := Tryz.sizeOf162
 v154 := Tryz.zeroValue162
 t193 := Tryz.underlying169
 a193 := Tryz.isAgg169
 z193 := Tryz.sizeOf169
 v193 := Tryz.zeroValue169
 t194 := Tryz.underlying170
 a194 := Tryz.isAgg170
 z194 := Tryz.sizeOf170
 v194 := Tryz.zeroValue170
 t196 := Tryz.underlying172
 a196 := Tryz.isAgg172
 z196 := Tryz.sizeOf172
 v196 := Tryz.zeroValue172
 t198 := Tryz.underlying175
 a198 := Tryz.isAgg175
 z198 := Tryz.sizeOf175
 v198 := Tryz.zeroValue175
 t201 := Tryz.underlying178
 a201 := Tryz.isAgg178
 z201 := Tryz.sizeOf178
 v201 := Tryz.zeroValue178
 t226 := Tryz.underlying182
 a226 := Tryz.isAgg182
 z226 := Tryz.sizeOf182
 v226 := Tryz.zeroValue182
 t227 := Tryz.underlying183
 a227 := Tryz.isAgg183
 z227 := Tryz.sizeOf183
 v227 := Tryz.zeroValue183
 g0 := by kernel_rfl
 g6 := by kernel_rfl }
open Go.RowKit Go.Lib in
theorem Tryz.strings_Fields (s : ByteArray) (w : World) (hs : s.size < 4294967281) (hascii : ∀ (j : Nat) b, s.data.toList[j]? = some b → b.toNat < 128) (htab : Lib.TabIs Tryz.prog w "strings.asciiSpace" .u8 Lib.asciiSpaceTab) :
  Calls Tryz.prog 147 #[.string s] w fun e w' =>
   e = .returned (.slice (some ⟨w.heap.size, 0, none⟩) (Lib.fields s.data.toList).length (Lib.fields s.data.toList).length) ∧ w' = w.alloc (.cells ((Lib.fields s.data.toList).map fun l => Value.string ⟨l.toArray⟩).toArray 9) := Any.strings_Fields Tryz.lays157 (by kernel_rfl) (by kernel_rfl) s w hs hascii htab
def Tryz.lays199_ren : Go.Shelf.Ren := ⟨fun | 199 => 155 | 261 => 158 | 311 => 165 | 312 => 166 | n => n, fun | 21 => 21 | 4 => 4 | 51 => 163 | 141 => 165 | 0 => 0 | 196 => 172 | 193 => 169 | 3 => 3 | 198 => 175 | 49 => 173 | 194 => 170 | 201 => 178 | 226 => 182 | 46 => 149 | 227 => 183 | n => n, fun | 6 => 5 | n => n⟩
def Tryz.lays197_ren : Go.Shelf.Ren := ⟨fun | 197 => 115 | 260 => 140 | n => n, fun | 9 => 9 | 21 => 21 | 3 => 3 | 4 => 4 | 5 => 5 | 105 => 128 | 119 => 148 | 0 => 0 | 46 => 149 | 139 => 152 | 138 => 151 | n => n, fun | 3 => 2 | 4 => 3 | n => n⟩
theorem Tryz.lays197 : Go.Proofs.Lays.n197 Tryz.prog Tryz.lays197_ren := {
 mixed := by kernel_rfl
 f197 := Tryz.func115.trans (congrArg some (by kernel_rfl))
 f260 := Tryz.func140.trans (congrArg some (by kernel_rfl))
 t0 := Tryz.underlying0
 a0 := Tryz.isAgg0
 z0 := Tryz.sizeOf0
 v0 := Tryz.zeroValue0
 t3 := Tryz.underlying3
 a3 := Tryz.isAgg3
 z3 := Tryz.sizeOf3
 v3 := Tryz.zeroValue3
 t4 := Tryz.underlying4
 a4 := Tryz.isAgg4
 z4 := Tryz.sizeOf4
 v4 := Tryz.zeroValue4
 t5 := Tryz.underlying5
 a5 := Tryz.isAgg5
 z5 := Tryz.sizeOf5
 v5 := Tryz.zeroValue5
 t9 := Tryz.underlying9
 a9 := Tryz.isAgg9
 z9 := Tryz.sizeOf9
 v9 := Tryz.zeroValue9
 t21 := Tryz.underlying21
 a21 := Tryz.isAgg21
 z21 := Tryz.sizeOf21
 v21 := Tryz.zeroValue21
 t46 := Tryz.underlying149
 a46 := Tryz.isAgg149
 z46 := Tryz.sizeOf149
 v46 := Tryz.zeroValue149
 t105 := Tryz.underlying128
 a105 := Tryz.isAgg128
 z105 := Tryz.sizeOf128
 v105 := Tryz.zeroValue128
 t119 := Tryz.underlying148
 a119 := Tryz.isAgg148
 z119 := Tryz.sizeOf148
 t138 := Tryz.underlying151
 a138 := Tryz.isAgg151
 z138 := Tryz.sizeOf151
 v138 := Tryz.zeroValue151
 t139 := Tryz.underlying152
 a139 := Tryz.isAgg152
 z139 := Tryz.sizeOf152
 v139 := Tryz.zeroValue152
 g3 := by kernel_rfl
 g4 := by kernel_rfl }
def Tryz.lays260_ren : Go.Shelf.Ren := ⟨fun | 260 => 140 | n => n, fun | 9 => 9 | 21 => 21 | 3 => 3 | 4 => 4 | 5 => 5 | 119 => 148 | 0 => 0 | 46 => 149 | 139 => 152 | 138 => 151 | n => n, fun | 3 => 2 | 4 => 3 | n => n⟩
theorem Tryz.lays260 : Go.Proofs.Lays.n260 Tryz.prog Tryz.lays260_ren := {
 mixed := by kernel_rfl
 f260 := Tryz.func140.trans (congrArg some (by kernel_rfl))
 t0 := Tryz.underlying0
 a0 := Tryz.isAgg0
 z0 := Tryz.sizeOf0
 v0 := Tryz.zeroValue0
 t3 := Tryz.underlying3
 a3 := Tryz.isAgg3
 z3 := Tryz.sizeOf3
 v3 := Tryz.zeroValue3
 t4 := Tryz.underlying4
 a4 := Tryz.isAgg4
 z4 := Tryz.sizeOf4
 v4 := Tryz.zeroValue4
 t5 := Tryz.underlying5
 a5 := Tryz.isAgg5
 z5 := Tryz.sizeOf5
 v5 := Tryz.zeroValue5
 t9 := Tryz.underlying9
 a9 := Tryz.isAgg9
 z9 := Tryz.sizeOf9
 v9 := Tryz.zeroValue9
 t21 := Tryz.underlying21
 a21 := Tryz.isAgg21
 z21 := Tryz.sizeOf21
 v21 := Tryz.zeroValue21
 t46 := Tryz.underlying149
 a46 := Tryz.isAgg149
 z46 := Tryz.sizeOf149
 v46 := Tryz.zeroValue149
 t119 := Tryz.underlying148
 a119 := Tryz.isAgg148
 z119 := Tryz.sizeOf148
 t138 := Tryz.underlying151
 a138 := Tryz.isAgg151
 z138 := Tryz.sizeOf151
 v138 := Tryz.zeroValue151
 t139 := Tryz.underlying152
 a139 := Tryz.isAgg152
 z139 := Tryz.sizeOf152
 v139 := Tryz.zeroValue152
 g3 := by kernel_rfl
 g4 := by kernel_rfl }
open Go.RowKit Go.Lib in
theorem Tryz.utf8_DecodeRuneInString (s : ByteArray) (w : World) (hT : Lib.Utf8Tabs 2 3 w) :
  Calls Tryz.prog 115 #[.string s] w fun e w' => e = .returned (.tuple #[.int .i32 (Lib.decodeGo s).1, .int .i64 (Lib.decodeGo s).2]) ∧ Below w.heap.size w w' := Any.utf8_DecodeRuneInString Tryz.lays197 s w hT
def Tryz.lays110_ren : Go.Shelf.Ren := ⟨fun | 110 => 132 | 109 => 146 | n => n, fun | 31 => 112 | 9 => 9 | 4 => 4 | 3 => 3 | 0 => 0 | n => n, fun | n => n⟩
theorem Tryz.lays110 : Go.Proofs.Lays.n110 Tryz.prog Tryz.lays110_ren := {
 mixed := by kernel_rfl
 f109 := Tryz.func146.trans (congrArg some (by kernel_rfl))
 f110 := Tryz.func132.trans (congrArg some (by kernel_rfl))
 t0 := Tryz.underlying0
 a0 := Tryz.isAgg0
 z0 := Tryz.sizeOf0
 v0 := Tryz.zeroValue0
 t3 := Tryz.underlying3
 a3 := Tryz.isAgg3
 z3 := Tryz.sizeOf3
 v3 := Tryz.zeroValue3
 t4 := Tryz.underlying4
 a4 := Tryz.isAgg4
 z4 := Tryz.sizeOf4
 v4 := Tryz.zeroValue4
 t9 := Tryz.underlying9
 a9 := Tryz.isAgg9
 z9 := Tryz.sizeOf9
 v9 := Tryz.zeroValue9
 t31 := Tryz.underlying112
 a31 := Tryz.isAgg112
 z31 := Tryz.sizeOf112
 v31 := Tryz.zeroValue112 }
open Go.Lib in
theorem Tryz.slices_Contains_string (b off n c : Nat) (zs : List ByteArray) (x : ByteArray) (w : World) (hz : n ≤ zs.length) (hbig : n ≤ 9223372036854775807) (hc : ∀ j, j < zs.length → w.cell? ⟨b, off + j, none⟩ = some (.string (zs.getD j ByteArray.empty))) :
  Calls Tryz.prog 132 #[.slice (some ⟨b, off, none⟩) n c, .string x] w fun e w' => e = .returned (.bool (Lib.containsS (zs.take n) x)) ∧ w' = w := Any.slices_Contains_string Tryz.lays110 b off n c zs x w hz hbig hc
end Go.Proofs
namespace Go.Proofs.YtmpcmpeloebnhaaGreatDoor
open Go.RowKit
theorem ret_bool {a b : Bool} (h : a = b) : Ending.returned (.bool a) = .returned (.bool b) := by rw [h]
theorem Tryz.infoRune : (Tryz.prog.info? 131).map (fun i => (i.zero, i.size, i.bytes)) = some (some (.agg #[.int .i32 0, .int .i64 0]), 2, 16) := by kernel_rfl
def EachPost (s : ByteArray) (w : World) (e : Ending) (w' : World) : Prop :=
 ∃ v, e = .returned (.tuple #[v, .int .i64 (each s).2]) ∧ w'.ownsRow w.heap.size 131 2 v (each s).1.length (flat (each s).1) ∧ Below w.heap.size w w'
theorem ownsRow_iterAt {w : World} {base : Nat} {e : TypeId} {size : Nat} {v : Value} {n : Nat} {xs : List Value} (h : w.ownsRow base e size v n xs) {k : Nat} (hk : k < base) (s : ByteArray) (p : Nat) : (w.iterAt k s p).ownsRow base e size v n xs := by
 obtain ⟨h1, h2⟩ := h
 refine ⟨h1, ?_⟩
 rcases h2 with h2 | ⟨g, cap, cur, a, b, c, d⟩
 ·exact .inl h2
 ·exact .inr ⟨g, cap, cur, a, b, by rw [Lib.iterAt_other _ _ _ _ _ (by omega)]; exact c, d⟩
theorem ownsRow_base {w : World} {base base' : Nat} {e : TypeId} {size : Nat} {v : Value} {n : Nat} {xs : List Value} (h : w.ownsRow base e size v n xs) (hb : base' ≤ base) : w.ownsRow base' e size v n xs := by
 obtain ⟨h1, h2⟩ := h
 refine ⟨h1, ?_⟩
 rcases h2 with h2 | ⟨g, cap, cur, a, b, c⟩
 ·exact .inl h2
 ·exact .inr ⟨g, cap, cur, a, Nat.le_trans hb b, c⟩
theorem iterPos_of {w : World} {k : Nat} {s : ByteArray} {p : Nat} (h : w.heap[k]? = some (.stringIter s p)) : w.iterPos k = p := by simp [World.iterPos, h]
theorem cell_two_new (w : World) (a b : Value) (t : TypeId) : ∀ j u, [a, b][j]? = some u → (w.alloc (.cells #[a, b] t)).cell? ((⟨w.heap.size, 0, none⟩ : Addr).add j) = some u := by
 intro j u hj
 match j, hj with
 | 0, hj => simp at hj; subst hj; simp [Addr.add]
 | 1, hj => simp at hj; subst hj; simp [Addr.add]
 | j + 2, hj => simp at hj
theorem own_below {w w' : World} {B e size n : Nat} {v : Value} {xs : List Value} (h : w.ownsRow B e size v n xs) (hb : Below w.heap.size w w') : w'.ownsRow B e size v n xs := by
 obtain ⟨h1, h2⟩ := h
 refine ⟨h1, ?_⟩
 rcases h2 with h2 | ⟨g, cap, cur, a, b, c, d⟩
 ·exact .inl h2
 ·exact .inr ⟨g, cap, cur, a, b, by rw [hb.block g (lt_of_block c)]; exact c, d⟩
def wrdsV (b : Nat) : Value := .slice (some ⟨b, 0, none⟩) 17 17
def wrdsCells : Array Value := (wrds.map Value.string).toArray
theorem var_below {w w' : World} {name : String} {cs : Array Value} (h : w.var? Tryz.prog name = some cs) (hb : Below w.heap.size w w') : w'.var? Tryz.prog name = some cs := by
 unfold World.var? at h ⊢
 rcases hg : Tryz.prog.globalNamed name with _ | g
 ·rw [hg] at h; cases h
 ·rw [hg] at h
  simp only [Option.bind_some] at h ⊢
  rcases ho : w.heap[g]? with _ | o
  ·rw [ho] at h; cases h
  ·have hlt : g < w.heap.size := (Array.getElem?_eq_some_iff.1 ho).1
   rw [hb.block g hlt]
   exact h
theorem bcell {W w1 : World} (hb : Below W.heap.size W w1) : (∀ b o, b < W.heap.size → w1.cell? ⟨b, o, none⟩ = W.cell? ⟨b, o, none⟩) ∧ (∀ b o, b < W.heap.size → w1.frozen? ⟨b, o, none⟩ = W.frozen? ⟨b, o, none⟩) :=
 ⟨fun b o h => hb.cell (p := ⟨b, o, none⟩) h, fun b o h => hb.frozen (p := ⟨b, o, none⟩) h⟩
theorem wrds_cells (w : World) : ∀ j, j < 17 → (w.alloc (.cells wrdsCells 9)).cell? ⟨w.heap.size, j, none⟩ = some (.string (wrds.getD j ByteArray.empty)) := by
 intro j hj
 rw [cell_of_row (w.alloc (.cells wrdsCells 9)) w.heap.size j wrdsCells 9 (0, 0) (by show (w.heap.push _)[w.heap.size]? = _; simp)]
 unfold wrdsCells
 simp only [List.getElem?_toArray, List.getElem?_map]
 rw [List.getElem?_eq_getElem (show j < wrds.length from hj), List.getD_eq_getElem?_getD, List.getElem?_eq_getElem (show j < wrds.length from hj)]
 rfl
def Blk4 (w : World) (B : Nat) (a b c d : Value) : Prop := w.heap[B]? = some (.cells #[a, b, c, d] 70)
theorem blk4 {w : World} {B : Nat} {a b c d : Value} (h : Blk4 w B a b c d) : (w.cell? ⟨B, 0, none⟩ = some a ∧ w.cell? ⟨B, 1, none⟩ = some b ∧ w.cell? ⟨B, 2, none⟩ = some c ∧ w.cell? ⟨B, 3, none⟩ = some d) ∧ (w.frozen? ⟨B, 0, none⟩ = false ∧ w.frozen? ⟨B, 1, none⟩ = false ∧ w.frozen? ⟨B, 2, none⟩ = false ∧ w.frozen? ⟨B, 3, none⟩ = false) := by
 unfold Blk4 at h
 refine ⟨⟨?_, ?_, ?_, ?_⟩, ⟨?_, ?_, ?_, ?_⟩⟩
 all_goals first | (rw [cell_of_row w B _ _ _ _ h]; rfl) | simp [World.frozen?, h]
theorem blk4_new (w : World) (a b c d : Value) : Blk4 (w.alloc (.cells #[a, b, c, d] 70)) w.heap.size a b c d := by
 unfold Blk4; show (w.heap.push _)[w.heap.size]? = _; simp
theorem iter_heap1 (w : World) (o : Obj) (s : ByteArray) (p : Nat) : ((w.alloc o).iter s p).heap[w.heap.size + 1]? = some (.stringIter s p) := by
 have h := World.iter_heap (w.alloc o) s p
 rw [show (w.alloc o).heap.size = w.heap.size + 1 by simp] at h
 exact h
theorem Blk4.iter {w : World} {B : Nat} {a b c d : Value} (h : Blk4 w B a b c d) (s : ByteArray) (p : Nat) : Blk4 (w.iter s p) B a b c d := by
 unfold Blk4 at *
 have hlt : B < w.heap.size := (Array.getElem?_eq_some_iff.1 h).1
 show (w.heap.push _)[B]? = _
 rw [Array.getElem?_push_lt hlt, ← h, Array.getElem?_eq_getElem hlt]
theorem Blk4.iterAt {w : World} {B : Nat} {a b c d : Value} (h : Blk4 w B a b c d) (k : Nat) (hk : B ≠ k) (s : ByteArray) (p : Nat) : Blk4 (w.iterAt k s p) B a b c d := by
 unfold Blk4 at *
 rw [Lib.iterAt_other _ _ _ _ _ hk]; exact h
theorem Blk4.lt {w : World} {B : Nat} {a b c d : Value} (h : Blk4 w B a b c d) : B < w.heap.size := (Array.getElem?_eq_some_iff.1 h).1
theorem Blk4.below {w w' : World} {B : Nat} {a b c d : Value} (h : Blk4 w B a b c d) (hb : Below w.heap.size w w') : Blk4 w' B a b c d := by
 unfold Blk4 at *
 rw [hb.block B (Array.getElem?_eq_some_iff.1 h).1]; exact h
def numAt (s : ByteArray) (b pos : Nat) (a : Int) : Prop := (eachF s b pos).2 = -1 ∧ (∀ q ∈ (eachF s b pos).1, dgB q.1 = true) ∧ numV a (eachF s b pos).1 = numV 0 (each s).1
theorem numAt_start (s : ByteArray) (h : (each s).2 = -1) (hd : ∀ q ∈ (each s).1, dgB q.1 = true) : numAt s s.size 0 0 := ⟨h, hd, rfl⟩
theorem numAt_one {s : ByteArray} {b pos : Nat} {a : Int} (hp : pos < s.size) (h : numAt s (b + 1) pos a) (h0 : 0 ≤ a) (h9 : a ≤ 99) :
  (48 ≤ ((Utf8.decode s pos).1 : Int) ∧ ((Utf8.decode s pos).1 : Int) ≤ 57) ∧ numAt s b (pos + (Utf8.decode s pos).2) (10 * a + (((Utf8.decode s pos).1 : Int) - 48)) := by
 have hb : ¬ badAt s pos := by
  intro hb
  have := h.1
  rw [eachF_bad _ _ _ hp hb] at this; simp only [] at this; omega
 unfold numAt at h ⊢
 rw [eachF_one _ _ _ hp hb] at h
 have hq := h.2.1 _ (List.mem_cons_self ..)
 refine ⟨(dgB_iff _).1 hq, h.1, fun q hq => h.2.1 q (List.mem_cons_of_mem _ hq), ?_⟩
 rw [← h.2.2]
 exact (numV_one _ _ a h0 h9 hq).symm
theorem numAt_big {s : ByteArray} {b pos : Nat} {a : Int} (h : numAt s b pos a) (h9 : 99 < a) : 99 < numV 0 (each s).1 := by
 rw [← h.2.2]; exact numV_big _ _ h9
theorem numAt_end {s : ByteArray} {b pos : Nat} {a : Int} (hp : ¬ pos < s.size) (h : numAt s b pos a) : a = numV 0 (each s).1 := by
 have := h.2.2
 rw [eachF_end _ _ _ hp] at this
 exact this
def numOut (s : ByteArray) : Value × Bool :=
 if numV 0 (each s).1 ≤ 99 ∧ ¬ (s.get! 0 = 48 ∧ 1 < s.size) then (.agg #[.int .i64 2, .string ⟨#[]⟩, .int .i64 (numV 0 (each s).1), .int .i64 0], true)
 else (.agg #[.int .i64 0, .string ⟨#[]⟩, .int .i64 0, .int .i64 0], false)
def NumPost (s : ByteArray) (w : World) (e : Ending) (w' : World) : Prop := e = .returned (.tuple #[(numOut s).1, .bool (numOut s).2]) ∧ Below w.heap.size w w'
theorem numOut_no {s : ByteArray} (h : s.get! 0 = 48 ∧ 1 < s.size) : numOut s = (.agg #[.int .i64 0, .string ⟨#[]⟩, .int .i64 0, .int .i64 0], false) := by
 unfold numOut; rw [if_neg (fun x => x.2 h)]
theorem numOut_big {s : ByteArray} (h : 99 < numV 0 (each s).1) : numOut s = (.agg #[.int .i64 0, .string ⟨#[]⟩, .int .i64 0, .int .i64 0], false) := by
 unfold numOut; rw [if_neg (fun x => by omega)]
theorem numOut_ok {s : ByteArray} {a : Int} (h : a = numV 0 (each s).1) (h9 : a ≤ 99) (hn : ¬ (s.get! 0 = 48 ∧ 1 < s.size)) : numOut s = (.agg #[.int .i64 2, .string ⟨#[]⟩, .int .i64 a, .int .i64 0], true) := by
 unfold numOut; rw [if_pos ⟨by omega, hn⟩, ← h]
theorem NumPost.mk {s : ByteArray} {w w' : World} {v : Value} {b : Bool} (h : numOut s = (v, b)) (hb : Below w.heap.size w w') : NumPost s w (.returned (.tuple #[v, .bool b])) w' := by
 unfold NumPost; rw [h]; exact ⟨rfl, hb⟩
end Go.Proofs.YtmpcmpeloebnhaaGreatDoor
