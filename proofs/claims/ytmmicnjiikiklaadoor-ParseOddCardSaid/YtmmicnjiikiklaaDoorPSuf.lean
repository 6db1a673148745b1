/- What a parse leaves is what is behind what it read. -/
import Derived.Test.YtmmicnjiikiklaaDoorPRd
import Derived.Test.YtmmicnjiikiklaaDoorLexA
import Derived.Test.YtmmicnjiikiklaaDoorRows
import Derived.WalkKit
import Derived.WalkLawsBesides
import Derived.WalkSpells
import Derived.ProofKit
import Derived.Outline
import Derived.Deep.QuietTactic
import Derived.BigQuiet
import Derived.Deep.Light
import Derived.Deep.CutBlock
import Derived.Deep.DeepCutAuto
import Derived.Deep.DeepFit
import Derived.Deep.LoopGhost
import Derived.Lib.Hide
import Derived.Lib.OthersKept
import Derived.IntWalk
import Derived.StillTailTactics
namespace Go.Proofs.YtmmicnjiikiklaaDoor
open Go.RowKit
/-! What a parse leaves is what is behind what it read. -/
def Suf (l' l : List Tok) : Prop := ∃ k, 0 < k ∧ k ≤ l.length ∧ l' = l.drop k
def SufE (l' l : List Tok) : Prop := ∃ k, k ≤ l.length ∧ l' = l.drop k
theorem Suf.len {l' l : List Tok} (h : Suf l' l) : l'.length < l.length := by
  obtain ⟨k, h1, h2, rfl⟩ := h
  rw [List.length_drop]; omega
theorem SufE.len {l' l : List Tok} (h : SufE l' l) : l'.length ≤ l.length := by
  obtain ⟨k, h2, rfl⟩ := h
  rw [List.length_drop]; omega
theorem Suf.e {l' l : List Tok} (h : Suf l' l) : SufE l' l := by
  obtain ⟨k, _, h2, h3⟩ := h
  exact ⟨k, h2, h3⟩
theorem SufE.refl (l : List Tok) : SufE l l := ⟨0, Nat.zero_le _, rfl⟩
theorem SufE.trans {a b c : List Tok} (h : SufE a b) (k : SufE b c) : SufE a c := by
  obtain ⟨m, h1, rfl⟩ := h
  obtain ⟨n, h2, rfl⟩ := k
  rw [List.length_drop] at h1
  exact ⟨n + m, by omega, by rw [List.drop_drop]⟩
theorem Suf.trans {a b c : List Tok} (h : Suf a b) (k : SufE b c) : Suf a c := by
  obtain ⟨m, h0, h1, rfl⟩ := h
  obtain ⟨n, h2, rfl⟩ := k
  rw [List.length_drop] at h1
  exact ⟨n + m, by omega, by omega, by rw [List.drop_drop]⟩
theorem SufE.transS {a b c : List Tok} (h : SufE a b) (k : Suf b c) : Suf a c := by
  obtain ⟨m, h1, rfl⟩ := h
  obtain ⟨n, h0, h2, rfl⟩ := k
  rw [List.length_drop] at h1
  exact ⟨n + m, by omega, by omega, by rw [List.drop_drop]⟩
theorem Suf.tail {l : List Tok} (h : l ≠ []) : Suf l.tail l := ⟨1, by omega, by have := List.length_pos_iff.2 h; omega, by rw [List.drop_one]⟩
theorem SufE.ends {l' l : List Tok} (h : SufE l' l) (he : EndsOk l) : EndsOk l' := by
  obtain ⟨k, _, rfl⟩ := h
  induction k generalizing l with
  | zero => exact he
  | succ k ih =>
    cases l with
    | nil => simpa using he
    | cons a r => exact ih he.tail (by simp at *; omega)
theorem ne_of_wrd {l : List Tok} {c : UInt8} {r : List UInt8} (h : ((wrd l).toList == c :: r) = true) : l ≠ [] := by
  rintro rfl
  rw [show (wrd ([] : List Tok)).toList = [] from by decide +kernel] at h
  exact absurd h (by simp)
theorem ne_of_kind {l : List Tok} {k : Int} (h : ((hd l).kind == k) = true) (hk : k ≠ 0) : l ≠ [] := by
  rintro rfl
  exact hk (beq_iff_eq.1 h).symm
theorem psgF_emp (lv : Int) : ∀ X : List (Int × ByteArray × ByteArray), (∀ s ∈ X, s.2.1.toList ≠ []) → psgF lv ⟨#[]⟩ X = ⟨#[]⟩ := by
  intro X
  induction X with
  | nil => intro _; rfl
  | cons s r ih =>
    intro h
    unfold psgF
    rw [if_neg, ih fun s hs => h s (List.mem_cons_of_mem _ hs)]
    intro hc
    rw [Bool.and_eq_true, beq_iff_eq] at hc
    exact h s (List.mem_cons_self ..) (by rw [beq_iff_eq] at hc; rw [hc.2]; decide +kernel)
theorem psg_nil (lv : Int) : psg lv (wrd []) = ⟨#[]⟩ := psgF_emp lv psigs (by decide +kernel)
theorem ne_of_psg {l : List Tok} {lv : Int} (h : ((psg lv (wrd l)).toList == []) = false) : l ≠ [] := by
  rintro rfl
  rw [psg_nil, show (ByteArray.mk #[]).toList = [] from by decide +kernel] at h
  exact absurd h (by decide)
/-- All of them, by their fuel. -/
theorem suf_terms : ∀ f : Nat, (∀ br l t l', pPart f br l = .ok t l' → Suf l' l) ∧ (∀ br l t l', pList f br l = .ok t l' → Suf l' l) ∧ (∀ br l t l', pKid f br l = .ok t l' → Suf l' l) ∧
    (∀ br acc l t l', pListL f br acc l = .ok t l' → Suf l' l) ∧ (∀ l t l', pTerm f l = .ok t l' → Suf l' l) ∧ (∀ n l t l', pTermL f n l = .ok t l' → SufE l' l) := by
  intro f
  induction f with
  | zero =>
    refine ⟨?_, ?_, ?_, ?_, ?_, ?_⟩
    · intro br l t l' h; unfold pPart at h; cases h
    · intro br l t l' h; unfold pList at h; cases h
    · intro br l t l' h; cases br <;> (unfold pKid at h; cases h)
    · intro br acc l t l' h; unfold pListL at h; cases h
    · intro l t l' h; unfold pTerm at h; cases h
    · intro n l t l' h; unfold pTermL at h; cases h
  | succ f ih =>
    obtain ⟨i1, i2, i3, i4, i5, i6⟩ := ih
    refine ⟨?_, ?_, ?_, ?_, ?_, ?_⟩
    · intro br l t l' h
      unfold pPart at h
      split at h
      · rename_i hw
        have hn := Suf.tail (ne_of_wrd hw)
        split at h
        · cases h
        · split at h
          · rename_i hq; cases h; exact (i2 _ _ _ _ hq).trans hn.e
          · cases h
      · split at h
        · rename_i hk
          have hn := Suf.tail (ne_of_kind hk (by decide))
          split at h
          · rename_i hw2
            have hn2 := Suf.tail (ne_of_wrd hw2)
            split at h
            · rename_i hk2
              rw [Bool.and_eq_true] at hk2
              have hn3 := Suf.tail (ne_of_kind hk2.1 (by decide))
              cases h; exact hn3.trans (hn2.trans hn.e).e
            · cases h
          · cases h; exact hn
        · split at h
          · rename_i hk
            cases h; exact Suf.tail (ne_of_kind hk (by decide))
          · cases h
    · intro br l t l' h
      unfold pList at h
      split at h
      · rename_i hw
        cases h
        refine Suf.tail ?_
        cases br
        · exact ne_of_wrd hw
        · exact ne_of_wrd hw
      · split at h
        · rename_i hq; exact (i4 _ _ _ _ _ h).trans (i3 _ _ _ _ hq).e
        · cases h
    · intro br l t l' h
      cases br
      · exact i5 _ _ _ h
      · exact i1 _ _ _ _ h
    · intro br acc l t l' h
      unfold pListL at h
      split at h
      · rename_i hw
        have hn := Suf.tail (ne_of_wrd hw)
        split at h
        · cases h
        · split at h
          · rename_i hq; exact (i4 _ _ _ _ _ h).trans ((i3 _ _ _ _ hq).trans hn.e).e
          · cases h
      · split at h
        · rename_i hw
          cases h
          refine Suf.tail ?_
          cases br
          · exact ne_of_wrd hw
          · exact ne_of_wrd hw
        · cases h
    · intro l t l' h
      unfold pTerm at h
      split at h
      · rename_i hq; exact (i6 _ _ _ _ h).transS (i1 _ _ _ _ hq)
      · cases h
    · intro n l t l' h
      unfold pTermL at h
      split at h
      · cases h; exact SufE.refl _
      · rename_i hw
        split at h
        · rename_i hq; exact ((i6 _ _ _ _ h).transS (i1 _ _ _ _ hq)).e.trans (Suf.tail (ne_of_psg (by simpa using hw))).e
        · cases h
theorem suf_atom {f : Nat} {l l' : List Tok} {t : Nd} (h : pAtom f l = .ok t l') : Suf l' l := by
  obtain ⟨i1, i2, i3, i4, i5, i6⟩ := suf_terms f
  unfold pAtom at h
  split at h
  · rename_i hk
    rw [Bool.and_eq_true] at hk
    have hn := Suf.tail (ne_of_kind hk.1 (by decide))
    have hn2 := Suf.tail (ne_of_wrd hk.2)
    split at h
    · rename_i hq; cases h; exact (i2 _ _ _ _ hq).trans (hn2.trans hn.e).e
    · cases h
  · split at h
    · rename_i hq
      split at h
      · split at h
        · cases h; exact i5 _ _ _ hq
        · cases h
      · rename_i hw
        split at h
        · rename_i hq2
          cases h
          exact ((i5 _ _ _ hq2).trans (Suf.tail (ne_of_psg (by simpa using hw))).e).trans (i5 _ _ _ hq).e
        · cases h
    · cases h
theorem suf_forms : ∀ f : Nat, (∀ d l t l', pUn f d l = .ok t l' → Suf l' l) ∧ (∀ op d l t l', pQuant f op d l = .ok t l' → Suf l' l) ∧ (∀ d l t l', pAnd f d l = .ok t l' → Suf l' l) ∧ (∀ d n l t l', pAndL f d n l = .ok t l' → SufE l' l) ∧
    (∀ d l t l', pOr f d l = .ok t l' → Suf l' l) ∧ (∀ d n l t l', pOrL f d n l = .ok t l' → SufE l' l) ∧ (∀ d l t l', pForm f d l = .ok t l' → Suf l' l) ∧ (∀ d n l t l', pFormL f d n l = .ok t l' → SufE l' l) ∧ (∀ d l t l', pImp f d l = .ok t l' → Suf l' l) := by
  intro f
  induction f with
  | zero =>
    refine ⟨?_, ?_, ?_, ?_, ?_, ?_, ?_, ?_, ?_⟩
    · intro d l t l' h; unfold pUn at h; cases h
    · intro op d l t l' h; unfold pQuant at h; cases h
    · intro d l t l' h; unfold pAnd at h; cases h
    · intro d n l t l' h; unfold pAndL at h; cases h
    · intro d l t l' h; unfold pOr at h; cases h
    · intro d n l t l' h; unfold pOrL at h; cases h
    · intro d l t l' h; unfold pForm at h; cases h
    · intro d n l t l' h; unfold pFormL at h; cases h
    · intro d l t l' h; unfold pImp at h; cases h
  | succ f ih =>
    obtain ⟨iU, iQ, iA, iAL, iO, iOL, iF, iFL, iI⟩ := ih
    refine ⟨?_, ?_, ?_, ?_, ?_, ?_, ?_, ?_, ?_⟩
    · intro d l t l' h
      unfold pUn at h
      split at h
      · cases h
      split at h
      · rename_i hw
        have hn := Suf.tail (ne_of_wrd hw)
        split at h
        · rename_i hq; cases h; exact (iU _ _ _ _ hq).trans hn.e
        · cases h
      split at h
      · exact iQ _ _ _ _ _ h
      split at h
      · exact iQ _ _ _ _ _ h
      split at h
      · rename_i hw
        cases h
        refine Suf.tail ?_
        rw [Bool.or_eq_true] at hw
        rcases hw with hw | hw
        · exact ne_of_wrd hw
        · exact ne_of_wrd hw
      split at h
      · rename_i hw
        have hn := Suf.tail (ne_of_wrd hw)
        split at h
        · rename_i hq
          split at h
          · rename_i hw2
            cases h
            exact ((Suf.tail (ne_of_wrd hw2)).trans (iF _ _ _ _ hq).e).trans hn.e
          · cases h
        · cases h
      · exact suf_atom h
    · intro op d l t l' h
      unfold pQuant at h
      split at h
      · rename_i hk
        have hn := Suf.tail (ne_of_kind hk (by decide))
        have hl : SufE l.tail l := by cases l with | nil => exact SufE.refl _ | cons a r => exact (Suf.tail (by simp)).e
        split at h
        · rename_i hw
          have hn2 := Suf.tail (ne_of_wrd hw)
          split at h
          · rename_i hq
            cases h
            exact ((iF _ _ _ _ hq).trans (hn2.trans hn.e).e).trans hl
          · cases h
        · cases h
      · cases h
    all_goals first
      | (intro d l t l' h
         first | unfold pAnd at h | unfold pOr at h | unfold pForm at h
         split at h
         · rename_i hq
           first | exact (iAL _ _ _ _ _ h).transS (iU _ _ _ _ hq) | exact (iOL _ _ _ _ _ h).transS (iA _ _ _ _ hq) | exact (iFL _ _ _ _ _ h).transS (iI _ _ _ _ hq)
         · cases h)
      | (intro d n l t l' h
         first | unfold pAndL at h | unfold pOrL at h | unfold pFormL at h
         split at h
         · cases h; exact SufE.refl _
         · rename_i hw
           have hn := Suf.tail (ne_of_psg (by simpa using hw))
           split at h
           · rename_i hq
             first | exact ((iAL _ _ _ _ _ h).transS (iU _ _ _ _ hq)).e.trans hn.e | exact ((iOL _ _ _ _ _ h).transS (iA _ _ _ _ hq)).e.trans hn.e | exact ((iFL _ _ _ _ _ h).transS (iI _ _ _ _ hq)).e.trans hn.e
           · cases h)
      | (intro d l t l' h
         unfold pImp at h
         split at h
         · rename_i hq
           split at h
           · cases h; exact iO _ _ _ _ hq
           · rename_i hw
             have hn := Suf.tail (ne_of_psg (by simpa using hw))
             split at h
             · rename_i hq2; cases h; exact ((iI _ _ _ _ hq2).trans hn.e).trans (iO _ _ _ _ hq).e
             · cases h
         · cases h)
end Go.Proofs.YtmmicnjiikiklaaDoor
