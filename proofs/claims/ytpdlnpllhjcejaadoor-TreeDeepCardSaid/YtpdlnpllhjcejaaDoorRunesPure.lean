/- Plain mathematics on Go's decoding of texts into runes, on lines and columns, and on the classes of runes: no program is named here. -/
import GoSem.Core.Utf8
import Derived.Laws.RangeAny
import Derived.Lib.RuneCountTail
import Derived.WalkKit
namespace Go.Proofs.YtpdlnpllhjcejaaDoor
open Go.RowKit

theorem ret_int {k : IntKind} {a b : Int} (h : a = b) : Ending.returned (.int k a) = .returned (.int k b) := by rw [h]

theorem ret_v {v : Value} {a b : Int} (h : a = b) : Ending.returned (.tuple #[v, .int .i64 a]) = .returned (.tuple #[v, .int .i64 b]) := by rw [h]
theorem ret_two {a b : Int} {p : Int × Int} (h : (a, b) = p) : Ending.returned (.tuple #[.int .i64 a, .int .i64 b]) = .returned (.tuple #[.int .i64 p.1, .int .i64 p.2]) := by rw [← h]

/-! ### classes -/
def isLet (r : Int) : Prop := (97 ≤ r ∧ r ≤ 122) ∨ (65 ≤ r ∧ r ≤ 90) ∨ r = 95 ∨ (945 ≤ r ∧ r ≤ 969)
def isSig (r : Int) : Prop := r = 61 ∨ r = 126 ∨ r = 60 ∨ r = 62 ∨ r = 38 ∨ r = 124 ∨ r = 40 ∨ r = 41 ∨ r = 123 ∨ r = 125 ∨ r = 44 ∨ r = 59 ∨ r = 58 ∨ r = 43 ∨ r = 92 ∨ r = 35 ∨ r = 39
instance (r : Int) : Decidable (isLet r) := by unfold isLet; infer_instance
instance (r : Int) : Decidable (isSig r) := by unfold isSig; infer_instance
def cls (r : Int) : Int :=
  if isLet r then 1 else if 48 ≤ r ∧ r ≤ 57 then 2 else if r = 32 ∨ r = 9 ∨ r = 10 ∨ r = 13 then 3 else if isSig r then 4 else 0
theorem cls1 {r : Int} (h : isLet r) : 1 = cls r := by
  unfold cls; rw [if_pos h]
theorem cls2 {r : Int} (h : 48 ≤ r ∧ r ≤ 57) : 2 = cls r := by
  unfold cls; rw [if_neg (by unfold isLet; omega), if_pos h]
theorem cls3 {r : Int} (h : r = 32 ∨ r = 9 ∨ r = 10 ∨ r = 13) : 3 = cls r := by
  unfold cls; rw [if_neg (by unfold isLet; omega), if_neg (by omega), if_pos h]
theorem cls4 {r : Int} (h : isSig r) : 4 = cls r := by
  have h' := h
  unfold isSig at h'
  unfold cls; rw [if_neg (by unfold isLet; omega), if_neg (by omega), if_neg (by omega), if_pos h]
theorem cls0 {r : Int} (h1 : ¬ isLet r) (h2 : ¬ (48 ≤ r ∧ r ≤ 57)) (h3 : ¬ (r = 32 ∨ r = 9 ∨ r = 10 ∨ r = 13)) (h : ¬ isSig r) : 0 = cls r := by
  unfold cls; rw [if_neg h1, if_neg h2, if_neg h3, if_neg h]
def noOther (r : Int) : Prop := ¬ isLet r ∧ ¬ (48 ≤ r ∧ r ≤ 57) ∧ ¬ (r = 32 ∨ r = 9 ∨ r = 10 ∨ r = 13)
def sgn : List Int := [61, 126, 60, 62, 38, 124, 40, 41, 123, 125, 44, 59, 58, 43, 92, 35, 39]
def noSgn (r : Int) (k : Nat) : Prop := r ∉ sgn.take k
theorem all17 (k : Nat) (h : k < 17) : wrap32 ((({ data := #[61, 126, 60, 62, 38, 124, 40, 41, 123, 125, 44, 59, 58, 43, 92, 35, 39] } : ByteArray)[k]'h).toNat : Int) = sgn[k]'h := by
  have : ∀ k : Fin 17, wrap32 ((({ data := #[61, 126, 60, 62, 38, 124, 40, 41, 123, 125, 44, 59, 58, 43, 92, 35, 39] } : ByteArray)[k.1]'k.2).toNat : Int) = sgn[k.1]'k.2 := by decide +kernel
  exact this ⟨k, h⟩
theorem mem_sgn (r : Int) : r ∈ sgn ↔ isSig r := by
  simp [sgn, isSig]
theorem cls4k (r : Int) (k : Nat) (hk : k < 17) (he : r = sgn[k]'hk) : 4 = cls r :=
  cls4 ((mem_sgn r).1 (by rw [he]; exact List.getElem_mem _))
theorem cls0k (r : Int) (k : Nat) (hno : noOther r) (hk : 17 ≤ k) (hs : noSgn r k) : 0 = cls r := by
  refine cls0 hno.1 hno.2.1 hno.2.2 (fun h => hs ?_)
  rw [List.take_of_length_le (by simp [sgn]; omega)]
  exact (mem_sgn r).2 h
theorem noSgn_succ (r : Int) (k : Nat) (hk : k < 17) (hs : noSgn r k) (he : ¬ r = sgn[k]'hk) : noSgn r (k + 1) := by
  unfold noSgn at *
  rw [List.take_succ_eq_append_getElem (by simpa [sgn] using hk)]
  rw [List.mem_append]
  exact fun h => h.elim hs (fun h => he (List.mem_singleton.1 h))

/-! ### decoding -/
theorem width_pos (s : ByteArray) (pos : Nat) (h : pos < s.size) : 1 ≤ (Utf8.decode s pos).2 := by
  by_cases ha : (s[pos]'h).toNat < 128
  · rw [decode_ascii s pos h ha]
    exact Nat.le_refl _
  · exact (decode_high s pos h (by omega)).2

/-- What is decoded lies within the text. -/
theorem width_le (s : ByteArray) (pos : Nat) (h : pos < s.size) : pos + (Utf8.decode s pos).2 ≤ s.size := by
  simp only [Utf8.decode]
  repeat' split
  all_goals simp_all
  all_goals omega

/-- The text from a place on: what is decoded there hangs on it alone. -/
theorem decode_congr (s t : ByteArray) (i j : Nat) (hb : ∀ k, k < 4 → ((i + k < s.size ↔ j + k < t.size) ∧ (s.get! (i + k)) = (t.get! (j + k)))) : Utf8.decode s i = Utf8.decode t j := by
  have h0 := hb 0 (by omega); have h1 := hb 1 (by omega); have h2 := hb 2 (by omega); have h3 := hb 3 (by omega)
  unfold Utf8.decode
  simp only [h0.2, h1.2, h2.2, h3.2, h1.1, h2.1, h3.1]

/-! ### lines and columns -/
/-- From place pos on, with so much fuel: line and column of the place at. -/
def plF (s : ByteArray) (at' : Int) : Nat → Nat → Int → Int → Int × Int
  | 0, _, l, c => (l, c)
  | b + 1, pos, l, c =>
    if pos < s.size ∧ (pos : Int) < at' then
      (if (Utf8.decode s pos).1 = 10 then plF s at' b (pos + (Utf8.decode s pos).2) (l + 1) 1 else plF s at' b (pos + (Utf8.decode s pos).2) l (c + 1))
    else (l, c)
def pl (s : ByteArray) (at' : Int) : Int × Int := plF s at' s.size 0 1 1

theorem plF_end (s : ByteArray) (at' : Int) (b pos : Nat) (l c : Int) (h : ¬ (pos < s.size ∧ (pos : Int) < at')) : plF s at' b pos l c = (l, c) := by
  cases b with
  | zero => rfl
  | succ b => unfold plF; rw [if_neg h]
theorem plF_lf (s : ByteArray) (at' : Int) (b pos : Nat) (l c : Int) (h : pos < s.size ∧ (pos : Int) < at') (h10 : (Utf8.decode s pos).1 = 10) : plF s at' (b + 1) pos l c = plF s at' b (pos + (Utf8.decode s pos).2) (l + 1) 1 := by
  conv => lhs; unfold plF
  rw [if_pos h, if_pos h10]
theorem plF_no (s : ByteArray) (at' : Int) (b pos : Nat) (l c : Int) (h : pos < s.size ∧ (pos : Int) < at') (h10 : ¬ (Utf8.decode s pos).1 = 10) : plF s at' (b + 1) pos l c = plF s at' b (pos + (Utf8.decode s pos).2) l (c + 1) := by
  conv => lhs; unfold plF
  rw [if_pos h, if_neg h10]

/-- A place below 0 is as 0, one beyond the end as the end. -/
theorem plF_clamp (s : ByteArray) (at' bt : Int) (h : bt = min (max at' 0) s.size) (b pos : Nat) (l c : Int) : plF s at' b pos l c = plF s bt b pos l c := by
  induction b generalizing pos l c with
  | zero => rfl
  | succ b ih =>
    have e : (pos < s.size ∧ (pos : Int) < at') ↔ (pos < s.size ∧ (pos : Int) < bt) := by omega
    unfold plF
    by_cases hc : pos < s.size ∧ (pos : Int) < at'
    · rw [if_pos hc, if_pos (e.1 hc)]
      by_cases h10 : (Utf8.decode s pos).1 = 10
      · rw [if_pos h10, if_pos h10, ih]
      · rw [if_neg h10, if_neg h10, ih]
    · rw [if_neg hc, if_neg (fun h => hc (e.2 h))]

/-- Lines and columns begin at 1. -/
theorem plF_ge (s : ByteArray) (at' : Int) (b pos : Nat) (l c : Int) (hl : 1 ≤ l) (hc : 1 ≤ c) : 1 ≤ (plF s at' b pos l c).1 ∧ 1 ≤ (plF s at' b pos l c).2 := by
  induction b generalizing pos l c with
  | zero => exact ⟨hl, hc⟩
  | succ b ih =>
    unfold plF
    split
    · split
      · exact ih _ _ _ (by omega) (by omega)
      · exact ih _ _ _ hl (by omega)
    · exact ⟨hl, hc⟩

theorem plF_le (s : ByteArray) (at' : Int) (b pos : Nat) (l c : Int) : (plF s at' b pos l c).1 ≤ l + b := by
  induction b generalizing pos l c with
  | zero => simp [plF]
  | succ b ih =>
    unfold plF
    split
    · split
      · have := ih (pos + (Utf8.decode s pos).2) (l + 1) 1; omega
      · have := ih (pos + (Utf8.decode s pos).2) l (c + 1); omega
    · show l ≤ _; omega

/-! ### a text's runes -/
/-- The first byte that begins no rune. -/
def badAt (s : ByteArray) (pos : Nat) : Prop := (Utf8.decode s pos).1 = 65533 ∧ (Utf8.decode s pos).2 < 2
instance (s : ByteArray) (pos : Nat) : Decidable (badAt s pos) := by unfold badAt; infer_instance
def eachF (s : ByteArray) : Nat → Nat → List (Int × Int) × Int
  | 0, _ => ([], -1)
  | b + 1, pos =>
    if pos < s.size then
      (if badAt s pos then ([], pos) else
        ((((Utf8.decode s pos).1 : Int), (pos : Int)) :: (eachF s b (pos + (Utf8.decode s pos).2)).1, (eachF s b (pos + (Utf8.decode s pos).2)).2))
    else ([], -1)
def each (s : ByteArray) : List (Int × Int) × Int := eachF s s.size 0
/-- A list of runes as the cells of a slice of them. -/
def flat : List (Int × Int) → List Value
  | [] => []
  | p :: l => .int .i32 p.1 :: .int .i64 p.2 :: flat l
theorem flat_length (l : List (Int × Int)) : (flat l).length = l.length * 2 := by
  induction l with
  | nil => rfl
  | cons p l ih => simp [flat, ih]; omega
theorem flat_snoc (l : List (Int × Int)) (p : Int × Int) : flat (l ++ [p]) = flat l ++ [.int .i32 p.1, .int .i64 p.2] := by
  induction l with
  | nil => rfl
  | cons q l ih => simp [flat, ih]
theorem flat_get0 (l : List (Int × Int)) (i : Nat) (h : i < l.length) : (flat l)[i * 2]? = some (.int .i32 (l[i]'h).1) := by
  induction l generalizing i with
  | nil => simp at h
  | cons q l ih =>
    cases i with
    | zero => rfl
    | succ i => simp only [Nat.succ_mul]; simpa [flat] using ih i (by simpa using h)
theorem flat_get1 (l : List (Int × Int)) (i : Nat) (h : i < l.length) : (flat l)[i * 2 + 1]? = some (.int .i64 (l[i]'h).2) := by
  induction l generalizing i with
  | nil => simp at h
  | cons q l ih =>
    cases i with
    | zero => rfl
    | succ i => simp only [Nat.succ_mul]; simpa [flat] using ih i (by simpa using h)
theorem eachF_end (s : ByteArray) (b pos : Nat) (h : ¬ pos < s.size) : eachF s b pos = ([], -1) := by
  cases b with
  | zero => rfl
  | succ b => unfold eachF; rw [if_neg h]
theorem eachF_bad (s : ByteArray) (b pos : Nat) (h : pos < s.size) (hb : badAt s pos) : eachF s (b + 1) pos = ([], (pos : Int)) := by
  unfold eachF; rw [if_pos h, if_pos hb]
theorem eachF_one (s : ByteArray) (b pos : Nat) (h : pos < s.size) (hb : ¬ badAt s pos) : eachF s (b + 1) pos = ((((Utf8.decode s pos).1 : Int), (pos : Int)) :: (eachF s b (pos + (Utf8.decode s pos).2)).1, (eachF s b (pos + (Utf8.decode s pos).2)).2) := by
  conv => lhs; unfold eachF
  rw [if_pos h, if_neg hb]

theorem eachF_len (s : ByteArray) (b pos : Nat) : (eachF s b pos).1.length ≤ b := by
  induction b generalizing pos with
  | zero => simp [eachF]
  | succ b ih =>
    unfold eachF
    split
    · split
      · simp
      · have := ih (pos + (Utf8.decode s pos).2); simp; omega
    · simp
theorem each_len (s : ByteArray) : (each s).1.length ≤ s.size := eachF_len s _ _
/-- What has been gathered ahead of a place, and what comes from there on, are the whole. -/
def soFar (s : ByteArray) (acc : List (Int × Int)) (b pos : Nat) : Prop := acc ++ (eachF s b pos).1 = (each s).1 ∧ (eachF s b pos).2 = (each s).2
theorem soFar_start (s : ByteArray) : soFar s [] s.size 0 := ⟨rfl, rfl⟩
theorem soFar_one (s : ByteArray) (acc : List (Int × Int)) (b pos : Nat) (h : pos < s.size) (hb : ¬ badAt s pos) (hs : soFar s acc (b + 1) pos) :
    soFar s (acc ++ [(((Utf8.decode s pos).1 : Int), (pos : Int))]) b (pos + (Utf8.decode s pos).2) := by
  unfold soFar at *
  rw [eachF_one s b pos h hb] at hs
  rw [List.append_assoc]
  exact hs
theorem soFar_end (s : ByteArray) (acc : List (Int × Int)) (b pos : Nat) (h : ¬ pos < s.size) (hs : soFar s acc b pos) : acc = (each s).1 ∧ (-1 : Int) = (each s).2 := by
  unfold soFar at hs
  rw [eachF_end s b pos h] at hs
  exact ⟨by rw [← hs.1]; simp, hs.2⟩
theorem soFar_bad (s : ByteArray) (acc : List (Int × Int)) (b pos : Nat) (h : pos < s.size) (hb : badAt s pos) (hs : soFar s acc (b + 1) pos) : acc = (each s).1 ∧ (pos : Int) = (each s).2 := by
  unfold soFar at hs
  rw [eachF_bad s b pos h hb] at hs
  exact ⟨by rw [← hs.1]; simp, hs.2⟩

/-- A text begins with U+FFFD itself. -/
def fffd (t : ByteArray) : Bool := (t.extract 0 3).toList == [239, 191, 189]
theorem fffd_iff0 (t : ByteArray) : fffd t = true ↔ (2 < t.size ∧ t.get! 0 = 239 ∧ t.get! 1 = 191 ∧ t.get! 2 = 189) := by
  unfold fffd
  rw [Lib.extract_toList, beq_iff_eq, ← Lib.getD_get!', ← Lib.getD_get!', ← Lib.getD_get!', Lib.size_eq]
  generalize t.data.toList = l
  match l with
  | [] => simp
  | [a] => simp
  | [a, b] => simp
  | a :: b :: c :: r => simp
theorem fffd_short (t : ByteArray) (h : t.size < 3) : fffd t = false := by
  rw [Bool.eq_false_iff]
  intro hf
  have := ((fffd_iff0 t).1 hf).1
  omega
theorem fffd_iff (s : ByteArray) (pos : Nat) : fffd (s.extract pos s.size) = true ↔ (pos + 2 < s.size ∧ s.get! pos = 239 ∧ s.get! (pos + 1) = 191 ∧ s.get! (pos + 2) = 189) := by
  rw [fffd_iff0, Lib.tail_size, Lib.tail_get!, Lib.tail_get!, Lib.tail_get!, Nat.add_zero]
  exact ⟨fun h => ⟨by omega, h.2⟩, fun h => ⟨by omega, h.2⟩⟩
/-- U+FFFD decoded of less than two bytes is not written. -/
theorem fffd_bad (s : ByteArray) (pos : Nat) (hb : badAt s pos) : fffd (s.extract pos s.size) = false := by
  rw [Bool.eq_false_iff]
  intro hf
  obtain ⟨h0, h1, h2, h3⟩ := (fffd_iff s pos).1 hf
  have : Utf8.decode s pos = (65533, 3) := by
    rw [Lib.decode_at, h1, h2, h3]
    unfold Lib.decodeN
    rw [if_neg (by decide), if_neg (by simp), if_pos (by simp; omega), if_pos (by simp)]
    simp
  rw [badAt, this] at hb
  exact absurd hb.2 (by decide)
/-- U+FFFD decoded of more is. -/
theorem fffd_good (s : ByteArray) (pos : Nat) (hr : (Utf8.decode s pos).1 = 65533) (hb : ¬ badAt s pos) : fffd (s.extract pos s.size) = true := by
  rw [fffd_iff]
  have hb2 : ¬ (Utf8.decode s pos).2 < 2 := fun h => hb ⟨hr, h⟩
  clear hb
  rw [Lib.decode_at] at hr hb2
  have b0 := (s.get! pos).toNat_lt
  have b1 := (s.get! (pos + 1)).toNat_lt
  have b2 := (s.get! (pos + 2)).toNat_lt
  have b3 := (s.get! (pos + 3)).toNat_lt
  have key : 2 < s.size - pos ∧ (s.get! pos).toNat = 239 ∧ (s.get! (pos + 1)).toNat = 191 ∧ (s.get! (pos + 2)).toNat = 189 := by
    revert hr hb2
    unfold Lib.decodeN
    repeat' split
    all_goals simp only []
    all_goals intro hr hb2
    all_goals first | (exfalso; omega) | omega
  exact ⟨by omega, UInt8.toNat_inj.1 key.2.1, UInt8.toNat_inj.1 key.2.2.1, UInt8.toNat_inj.1 key.2.2.2⟩
end Go.Proofs.YtpdlnpllhjcejaaDoor
