/- Plain mathematics on tokens: what a list of runes gives, by steps and as the reference reads it. No program is named here. -/
import Derived.Test.YtpdlnpllhjcejaaDoorLexDec
namespace Go.Proofs.YtpdlnpllhjcejaaDoor
open Go.RowKit

structure Tok where
  kind : Int
  text : ByteArray
  n : Int
  pos : Int
deriving DecidableEq

def nmB (r : Int) : Bool := cls r == 1 || cls r == 2 || r == 39
def dgB (r : Int) : Bool := cls r == 2
def spB (r : Int) : Bool := cls r == 3
def lnB (r : Int) : Bool := r != 10
/-- How many runes of a sort a list begins with. -/
def cnt (p : Int → Bool) : RL → Nat
  | [] => 0
  | q :: L => if p q.1 then cnt p L + 1 else 0
def wrds : List ByteArray := [⟨#[116, 114, 117, 101]⟩, ⟨#[102, 97, 108, 115, 101]⟩, ⟨#[101, 120, 48]⟩, ⟨#[101, 120, 49]⟩, ⟨#[101, 120, 50]⟩, ⟨#[97, 108, 108, 48]⟩, ⟨#[97, 108, 108, 49]⟩, ⟨#[97, 108, 108, 50]⟩, ⟨#[118, 97, 114, 48]⟩, ⟨#[118, 97, 114, 49]⟩, ⟨#[118, 97, 114, 50]⟩, ⟨#[112, 114, 101, 100]⟩, ⟨#[105, 110]⟩, ⟨#[110, 111, 116, 105, 110]⟩, ⟨#[115, 117, 98]⟩, ⟨#[117, 110, 105, 111, 110]⟩, ⟨#[105, 110, 116, 101, 114]⟩]
def sigs : List ByteArray := [⟨#[60, 61, 62]⟩, ⟨#[61, 62]⟩, ⟨#[60, 61]⟩, ⟨#[126, 61]⟩, ⟨#[61]⟩, ⟨#[126]⟩, ⟨#[60]⟩, ⟨#[38]⟩, ⟨#[124]⟩, ⟨#[40]⟩, ⟨#[41]⟩, ⟨#[123]⟩, ⟨#[125]⟩, ⟨#[44]⟩, ⟨#[59]⟩, ⟨#[58]⟩, ⟨#[43]⟩, ⟨#[92]⟩]
def isWrd (t : ByteArray) : Bool := wrds.any fun x => x.data.toList == t.data.toList
/-- A list of runes begins with these. -/
def rpre : List UInt8 → RL → Bool
  | [], _ => true
  | _ :: _, [] => false
  | c :: x, q :: L => q.1 == (c.toNat : Int) && rpre x L
def sigF : List ByteArray → RL → Option ByteArray
  | [], _ => none
  | x :: X, L => if rpre x.data.toList L then some x else sigF X L
def sigL (L : RL) : Option ByteArray := sigF sigs L
/-- A number's value, no more than 1000. -/
def numV : Int → RL → Int
  | a, [] => a
  | a, q :: L => if dgB q.1 then numV (min (10 * a + (q.1 - 48)) 1000) L else a

/-- The token that a list of runes begins with (no space, no comment), and how many runes it has. -/
def tokL (s : ByteArray) (e : Int) : RL → Option (Tok × Nat)
  | [] => none
  | q :: L =>
    if cls q.1 = 1 then
      (if cnt nmB (q :: L) ≤ 12 then
        some (⟨if isWrd (s.extract q.2.toNat (posOf e ((q :: L).drop (cnt nmB (q :: L)))).toNat) then 3 else 1, s.extract q.2.toNat (posOf e ((q :: L).drop (cnt nmB (q :: L)))).toNat, 0, q.2⟩, cnt nmB (q :: L))
      else none)
    else if cls q.1 = 2 then
      (if numV 0 (q :: L) ≤ 99 ∧ ¬ (q.1 = 48 ∧ 1 < cnt dgB (q :: L)) then some (⟨2, ⟨#[]⟩, numV 0 (q :: L), q.2⟩, cnt dgB (q :: L)) else none)
    else match sigL (q :: L) with
      | some x => some (⟨3, x, 0, q.2⟩, x.size)
      | none => none
def stepL (s : ByteArray) (e : Int) : RL → Option (Option Tok × Nat)
  | [] => none
  | q :: L =>
    if cls q.1 = 3 then some (none, cnt spB (q :: L))
    else if q.1 = 35 then some (none, cnt lnB (q :: L))
    else (tokL s e (q :: L)).map fun p => (some p.1, p.2)
/-- The tokens ahead of the first fault, and the fault's place; what lies ahead of a place is left out. -/
def lexL (s : ByteArray) (e : Int) : RL → Int → List Tok × Option Int
  | [], _ => ([], none)
  | q :: L, b =>
    if q.2 < b then lexL s e L b
    else match stepL s e (q :: L) with
      | none => ([], some q.2)
      | some (t, k) => (t.toList ++ (lexL s e L (posOf e ((q :: L).drop k))).1, (lexL s e L (posOf e ((q :: L).drop k))).2)
/-- As the reference goes: spaces and comments left out; then a token. -/
def skp : Bool → RL → RL
  | _, [] => []
  | false, q :: L => if cls q.1 = 3 then skp false L else if q.1 = 35 then skp true L else q :: L
  | true, q :: L => if q.1 = 10 then skp false L else skp true L
def refL (s : ByteArray) (e : Int) : Nat → RL → List Tok × Option Int
  | 0, _ => ([], none)
  | f + 1, L =>
    match skp false L with
    | [] => ([], none)
    | q :: M => match tokL s e (q :: M) with
      | none => ([], some q.2)
      | some (t, k) => (t :: (refL s e f ((q :: M).drop k)).1, (refL s e f ((q :: M).drop k)).2)

theorem posOf_drop (e : Int) : ∀ (L : RL) (k : Nat), srt e L → posOf e L ≤ posOf e (L.drop k) := by
  intro L
  induction L with
  | nil => intro k _; simp
  | cons q L ih =>
    intro k h
    cases k with
    | zero => simp
    | succ k => have := ih k h.2; have := h.1; simp only [List.drop_succ_cons, posOf] at *; omega
theorem srt_drop (e : Int) : ∀ (L : RL) (k : Nat), srt e L → srt e (L.drop k) := by
  intro L
  induction L with
  | nil => intro k _; simp [srt]
  | cons q L ih =>
    intro k h
    cases k with
    | zero => exact h
    | succ k => exact ih k h.2
theorem lexL_drop (s : ByteArray) (e : Int) : ∀ (L : RL) (k : Nat), srt e L → lexL s e L (posOf e (L.drop k)) = lexL s e (L.drop k) (posOf e (L.drop k)) := by
  intro L
  induction L with
  | nil => intro k _; simp
  | cons q L ih =>
    intro k h
    cases k with
    | zero => rfl
    | succ k =>
      have h1 := posOf_drop e L k h.2
      have h2 := h.1
      rw [List.drop_succ_cons, ← ih k h.2]
      conv => lhs; unfold lexL
      rw [if_pos (by omega)]

theorem cnt_le (p : Int → Bool) (L : RL) : cnt p L ≤ L.length := by
  induction L with
  | nil => simp [cnt]
  | cons q L ih => unfold cnt; split <;> simp <;> omega
theorem cnt_pos {p : Int → Bool} {q : Int × Int} {L : RL} (h : p q.1 = true) : cnt p (q :: L) = cnt p L + 1 := by
  rw [cnt, if_pos h]
theorem cnt_zero {p : Int → Bool} {q : Int × Int} {L : RL} (h : p q.1 = false) : cnt p (q :: L) = 0 := by
  rw [cnt, if_neg (by simp [h])]
theorem rpre_len : ∀ (x : List UInt8) (L : RL), rpre x L = true → x.length ≤ L.length := by
  intro x
  induction x with
  | nil => intro L _; simp
  | cons c x ih =>
    intro L h
    cases L with
    | nil => simp [rpre] at h
    | cons q L => simp only [rpre, Bool.and_eq_true] at h; have := ih L h.2; simp; omega
theorem sigF_some : ∀ (X : List ByteArray) (L : RL) (x : ByteArray), sigF X L = some x → x ∈ X ∧ rpre x.data.toList L = true := by
  intro X
  induction X with
  | nil => intro L x h; simp [sigF] at h
  | cons y X ih =>
    intro L x h
    unfold sigF at h
    split at h
    · obtain rfl := Option.some.inj h
      exact ⟨List.mem_cons_self .., by assumption⟩
    · have := ih L x h; exact ⟨List.mem_cons_of_mem _ this.1, this.2⟩
theorem sigs_size : ∀ x ∈ sigs, 1 ≤ x.size ∧ x.size ≤ 3 := by decide +kernel
/-- A token has a rune at least, and no more than there are. -/
theorem tokL_len {s : ByteArray} {e : Int} {L : RL} {t : Tok} {k : Nat} (h : tokL s e L = some (t, k)) : 1 ≤ k ∧ k ≤ L.length := by
  cases L with
  | nil => simp [tokL] at h
  | cons q L =>
    rw [tokL] at h
    have c1 := cnt_le nmB (q :: L)
    have c2 := cnt_le dgB (q :: L)
    split at h
    · rename_i hc
      have : nmB q.1 = true := by unfold nmB; rw [hc]; rfl
      have := cnt_pos (L := L) this
      split at h
      · simp only [Option.some.injEq, Prod.mk.injEq] at h; omega
      · cases h
    · split at h
      · rename_i hc
        have : dgB q.1 = true := by unfold dgB; rw [hc]; rfl
        have := cnt_pos (L := L) this
        split at h
        · simp only [Option.some.injEq, Prod.mk.injEq] at h; omega
        · cases h
      · split at h
        · rename_i x hx
          simp only [Option.some.injEq, Prod.mk.injEq] at h
          have h1 := sigF_some _ _ _ hx
          have h2 := sigs_size x h1.1
          have h3 := rpre_len _ _ h1.2
          rw [← Lib.size_eq] at h3
          omega
        · cases h

theorem skp_sp : ∀ (L : RL), skp false L = skp false (L.drop (cnt spB L)) := by
  intro L
  induction L with
  | nil => rfl
  | cons q L ih =>
    by_cases hq : spB q.1 = true
    · rw [cnt_pos hq, List.drop_succ_cons, ← ih]
      conv => lhs; unfold skp
      rw [if_pos (by simpa [spB] using hq)]
    · rw [cnt_zero (by simpa using hq)]; rfl
theorem skp_ln : ∀ (L : RL), skp true L = skp false (L.drop (cnt lnB L)) := by
  intro L
  induction L with
  | nil => rfl
  | cons q L ih =>
    by_cases hq : lnB q.1 = true
    · rw [cnt_pos hq, List.drop_succ_cons, ← ih]
      conv => lhs; unfold skp
      rw [if_neg (by simpa [lnB] using hq)]
    · rw [cnt_zero (by simpa using hq)]
      have : q.1 = 10 := by simpa [lnB] using hq
      conv => lhs; unfold skp
      conv => rhs; unfold skp
      rw [if_pos this, List.drop_zero]
      simp only []
      rw [if_pos (by rw [this]; decide +kernel)]
theorem cls35 : cls 35 = 4 := by decide +kernel

/-- Both ways give the same. -/
theorem lex_ref (s : ByteArray) (e : Int) : ∀ (n : Nat) (L : RL), L.length ≤ n → ∀ (f : Nat), L.length ≤ f → ∀ b : Int, b ≤ posOf e L → srt e L → lexL s e L b = refL s e f L := by
  intro n
  induction n with
  | zero =>
    intro L h f hf b hb hs
    obtain rfl : L = [] := List.eq_nil_of_length_eq_zero (by omega)
    cases f <;> rfl
  | succ n ih =>
    intro L h f hf b hb hs
    cases L with
    | nil => cases f <;> rfl
    | cons q L =>
      simp only [List.length_cons] at h hf
      obtain ⟨f, rfl⟩ : ∃ g, f = g + 1 := ⟨f - 1, by omega⟩
      simp only [posOf] at hb
      conv => lhs; unfold lexL
      rw [if_neg (by omega)]
      -- what is left out
      have pass : ∀ k, 1 ≤ k → lexL s e L (posOf e ((q :: L).drop k)) = lexL s e ((q :: L).drop k) (posOf e ((q :: L).drop k)) := by
        intro k hk
        obtain ⟨k, rfl⟩ : ∃ g, k = g + 1 := ⟨k - 1, by omega⟩
        rw [List.drop_succ_cons]
        exact lexL_drop s e L k hs.2
      by_cases h3 : cls q.1 = 3
      · have hsp : spB q.1 = true := by unfold spB; rw [h3]; rfl
        have hc := cnt_pos (L := L) hsp
        have hst : stepL s e (q :: L) = some (none, cnt spB (q :: L)) := by rw [stepL, if_pos h3]
        rw [hst]
        simp only [Option.toList, List.nil_append]
        rw [pass _ (by omega), ih _ (by simp; omega) (f + 1) (by simp; omega) _ (Int.le_refl _) (srt_drop e _ _ hs)]
        unfold refL
        rw [← skp_sp]
      · by_cases h35 : q.1 = 35
        · have hln : lnB q.1 = true := by unfold lnB; rw [h35]; rfl
          have hc := cnt_pos (L := L) hln
          have hst : stepL s e (q :: L) = some (none, cnt lnB (q :: L)) := by rw [stepL, if_neg h3, if_pos h35]
          rw [hst]
          simp only [Option.toList, List.nil_append]
          rw [pass _ (by omega), ih _ (by simp; omega) (f + 1) (by simp; omega) _ (Int.le_refl _) (srt_drop e _ _ hs)]
          unfold refL
          rw [hc, List.drop_succ_cons, ← skp_ln]
          have : skp false (q :: L) = skp true L := by
            conv => lhs; unfold skp
            rw [if_neg h3, if_pos h35]
          rw [this]
        · have hsk : skp false (q :: L) = q :: L := by unfold skp; rw [if_neg h3, if_neg h35]
          have hst : stepL s e (q :: L) = (tokL s e (q :: L)).map fun p => (some p.1, p.2) := by
            rw [stepL, if_neg h3, if_neg h35]
          unfold refL
          rw [hsk, hst]
          simp only []
          rcases ht : tokL s e (q :: L) with _ | ⟨t, k⟩
          · rfl
          · have hk := tokL_len ht
            simp only [Option.map_some, Option.toList]
            rw [pass k hk.1, ih _ (by simp at *; omega) f (by simp at *; omega) _ (Int.le_refl _) (srt_drop e _ _ hs)]
            rfl

/-! ### what is answered -/
/-- The tokens of the part of a text that is of runes. -/
def lexT (s : ByteArray) : List Tok × Option Int := lexL s (endOf s (each s).2) (each s).1 0
/-- The answer: the tokens, the place, the error. -/
def toks (s : ByteArray) : List Tok × Int × Int :=
  if s.size ≤ 2000 then
    match (lexT s).2 with
    | some i => ([], i, 2)
    | none => if (each s).2 = -1 then ((lexT s).1 ++ [⟨4, ⟨#[]⟩, 0, s.size⟩], s.size, 0) else ([], (each s).2, 2)
  else ([], 0, 3)
theorem toks_ref (s : ByteArray) (f : Nat) (h : (each s).1.length ≤ f) : lexT s = refL s (endOf s (each s).2) f (each s).1 :=
  lex_ref s _ _ _ (Nat.le_refl _) f h 0 (by
    have := (posOf_ge s s.size 0 (by omega) 0).1
    rw [List.drop_zero] at this
    exact this) (eachF_srt s s.size 0 (by omega))
end Go.Proofs.YtpdlnpllhjcejaaDoor
