/- Plain mathematics: where the runes of a text end. No program is named here. -/
import Derived.Test.YtpdlnpllhjcejaaDoorRunesPure
import Derived.Laws.Bits128
import Derived.Laws.Entries
namespace Go.Proofs.YtpdlnpllhjcejaaDoor
open Go.RowKit

/-- How many bytes a rune is written with. -/
def encLen (r : Int) : Nat := (Utf8.encode r).size
theorem size_one (a : UInt8) : (ByteArray.mk #[a]).size = 1 := rfl
theorem size_two (a b : UInt8) : (ByteArray.mk #[a, b]).size = 2 := rfl
theorem size_three (a b c : UInt8) : (ByteArray.mk #[a, b, c]).size = 3 := rfl
theorem size_four (a b c d : UInt8) : (ByteArray.mk #[a, b, c, d]).size = 4 := rfl

theorem encLen_nat (c : Nat) (hv : c < 55296 ∨ (57344 ≤ c ∧ c ≤ 1114111)) : encLen (c : Int) = if c < 128 then 1 else if c < 2048 then 2 else if c < 65536 then 3 else 4 := by
  have h : Utf8.valid (c : Int) = true := by
    unfold Utf8.valid
    simp only [Bool.or_eq_true, Bool.and_eq_true, decide_eq_true_eq]
    omega
  unfold encLen Utf8.encode
  simp only [h, if_true, Int.toNat_natCast]
  repeat' split
  all_goals first | rfl | omega
/-- A rune that is decoded well is written with just so many bytes. -/
theorem enc_dec (s : ByteArray) (pos : Nat) (hb : ¬ badAt s pos) : encLen (Utf8.decode s pos).1 = (Utf8.decode s pos).2 := by
  unfold badAt at hb
  rw [Lib.decode_at] at hb ⊢
  have b0 := (s.get! pos).toNat_lt
  have b1 := (s.get! (pos + 1)).toNat_lt
  have b2 := (s.get! (pos + 2)).toNat_lt
  have b3 := (s.get! (pos + 3)).toNat_lt
  revert hb
  unfold Lib.decodeN
  repeat' split
  all_goals simp only []
  all_goals intro hb
  all_goals first | (exfalso; omega) | exact (hb ⟨trivial, by decide⟩).elim | skip
  all_goals rw [encLen_nat]
  all_goals (try (repeat' split))
  all_goals first | rfl | omega

/-- Where the last rune ends. -/
def ends (p : Int) : List (Int × Int) → Int
  | [] => p
  | q :: l => ends (q.2 + encLen q.1) l
theorem ends_snoc (p : Int) (l : List (Int × Int)) (q : Int × Int) : ends p (l ++ [q]) = q.2 + encLen q.1 := by
  induction l generalizing p with
  | nil => rfl
  | cons a l ih => exact ih _

theorem eachF_ends (s : ByteArray) (b pos : Nat) (hp : pos ≤ s.size) (hb : s.size ≤ pos + b) :
    ((eachF s b pos).2 = -1 ∧ ends pos (eachF s b pos).1 = s.size) ∨ ((eachF s b pos).2 = ends pos (eachF s b pos).1 ∧ ends pos (eachF s b pos).1 < s.size) := by
  induction b generalizing pos with
  | zero => left; exact ⟨rfl, by simp [eachF, ends]; omega⟩
  | succ b ih =>
    by_cases h : pos < s.size
    · by_cases hbad : badAt s pos
      · right
        rw [eachF_bad s b pos h hbad]
        exact ⟨rfl, by simp [ends]; omega⟩
      · rw [eachF_one s b pos h hbad]
        have hw := width_pos s pos h
        have hl := width_le s pos h
        have he := enc_dec s pos hbad
        have := ih (pos + (Utf8.decode s pos).2) hl (by omega)
        simp only [ends, he]
        simpa using this
    · left
      rw [eachF_end s _ pos h]
      exact ⟨rfl, by simp [ends]; omega⟩
theorem each_ends (s : ByteArray) : ((each s).2 = -1 ∧ ends 0 (each s).1 = s.size) ∨ ((each s).2 = ends 0 (each s).1 ∧ ends 0 (each s).1 < s.size) := by
  exact eachF_ends s s.size 0 (by omega) (by omega)
theorem eachF_at (s : ByteArray) (b pos : Nat) : ∀ q ∈ (eachF s b pos).1, 0 ≤ q.2 := by
  induction b generalizing pos with
  | zero => simp [eachF]
  | succ b ih =>
    unfold eachF
    split
    · split
      · simp
      · intro q hq
        rcases List.mem_cons.1 hq with rfl | hq
        · simp
        · exact ih _ q hq
    · simp
theorem each_at (s : ByteArray) : ∀ q ∈ (each s).1, 0 ≤ q.2 := eachF_at s _ _
theorem i64_and65535 (n : Int) : bits .and .i64 n 65535 = n % 65536 := by
  have h1 : (BitVec.ofInt 64 65535).toNat = 2 ^ 16 - 1 := by decide
  have key : (BitVec.ofInt 64 n &&& BitVec.ofInt 64 65535).toNat = (n % ((2 ^ 64 : Nat) : Int)).toNat % 2 ^ 16 := by
    rw [BitVec.toNat_and, BitVec.toNat_ofInt, h1, Nat.and_two_pow_sub_one_eq_mod]
  show IntKind.i64.wrap ((BitVec.ofInt 64 n &&& BitVec.ofInt 64 65535).toNat : Nat) = n % 65536
  rw [key, IntKind.wrap_i64]
  omega
end Go.Proofs.YtpdlnpllhjcejaaDoor
