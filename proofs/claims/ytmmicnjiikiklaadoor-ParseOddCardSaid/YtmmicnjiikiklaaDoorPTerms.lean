/- part, partInBraces, term, of every text. -/
import Derived.Test.YtmmicnjiikiklaaDoorPPart2
import Derived.Test.YtmmicnjiikiklaaDoorPLfA
import Derived.Test.YtmmicnjiikiklaaDoorLexA
import Derived.Test.YtmmicnjiikiklaaDoorRows
import Derived.WalkKit
import Derived.WalkLawsBesides
import Derived.WalkSpells
import Derived.ProofKit
import Derived.Outline
import Derived.Deep.QuietTactic
import Derived.BigQuiet
import Derived.Deep.Light
import Derived.Deep.CutBlock
import Derived.Deep.DeepCutAuto
import Derived.Deep.DeepFit
import Derived.Deep.LoopGhost
import Derived.Lib.Hide
import Derived.Lib.OthersKept
import Derived.IntWalk
import Derived.StillTailTactics
namespace Go.Proofs.YtmmicnjiikiklaaDoor
open Go.RowKit
/-! part, partInBraces, term, of every text. -/
theorem vac {F need : Nat} {p : Nat → Nat → List Tok → Res Nd} (h : 1 ≤ need) : ∀ g, g ≤ 0 → SayN F need p g := fun g hg l w B d _ _ _ hn => by omega
theorem term_b : BadN 114 := by
  intro w B d a e hdd hP hS
  refine term_call (.bad a e) (.bad a e) w B d hP hS fun W hp hr => ?_
  exact lfT 0 (vac (by omega)) (.bad a e) (.bad a e) (.bad a e) W B d hdd hp hr (fun W' hr' hp' => part_b W' B d a e hdd hp' hr') (fun t l' h => by cases h) (fun a' e' h => h)
theorem kid_of {F need : Nat} {p : Nat → Nat → List Tok → Res Nd} {f : Nat} {br : Bool} (hn : need + 1 ≤ 3) (hp : ∀ g d l, pKid (g + 1) br l = p g d l) (ih : ∀ g, g < f → SayN F need p g) : ∀ g, g ≤ f → SayN F 3 (fun f _ l => pKid f br l) g := by
  intro g hg l w B d hdd hP hE hneed hS
  obtain ⟨g', rfl⟩ : ∃ g', g = g' + 1 := ⟨g - 1, by omega⟩
  have := ih g' (by omega) l w B d hdd hP hE (by omega) hS
  rw [← hp g' d l] at this
  exact this
theorem terms_all : ∀ f : Nat, SayN 115 1 (fun f _ l => pPart f false l) f ∧ SayN 116 1 (fun f _ l => pPart f true l) f ∧ SayN 114 2 (fun f _ l => pTerm f l) f := by
  intro f
  induction f using Nat.strongRecOn with
  | _ f ih =>
    have hpart : SayN 115 1 (fun f _ l => pPart f false l) f := by
      intro l w B d hdd hP hE hneed hS
      obtain ⟨f', rfl⟩ : ∃ f', f = f' + 1 := ⟨f - 1, by omega⟩
      show Calls _ _ _ w (PostN B d w (pPart (f' + 1) false l))
      cases hw : ((wrd l).toList == [123]) with
      | true =>
        have hne := ne_of_wrd hw
        have hlt := (Suf.tail hne).len
        obtain ⟨f2, rfl⟩ : ∃ f2, f' = f2 + 1 := ⟨f' - 1, by omega⟩
        refine part_set l w B d hP hS hw (pList (f2 + 1) true l.tail) (fun W hp hr => ?_) _ (fun ks l' h => ?_) (fun a e h => ?_)
        · exact listP f2 (kid_of (p := fun f _ l => pPart f true l) (by omega) (fun g d l => rfl) (fun g hg => (ih g (by omega)).2.1)) partB_b l.tail W B d hdd hp hE.tail (by omega) hr
        · unfold pPart
          rw [if_pos hw, h]
          rfl
        · unfold pPart
          rw [if_pos hw, h]
          rfl
      | false =>
        have hwn : ¬ ((wrd l).toList == [123]) = true := by rw [hw]; decide
        cases hk : ((hd l).kind == 1) with
        | true =>
          have hkp : ((hd l).kind == 1) = true := hk
          refine part_name l w B d hP hS hw hk _ fun W hp hr => ?_
          unfold pPart
          rw [if_neg hwn, if_pos hkp]
          cases hp2 : ((wrd l.tail).toList == [43]) with
          | false =>
            rw [if_neg (by decide)]
            exact named_no l W B d hp hr (by rw [show (ByteArray.mk #[43]).toList = [43] from by decide +kernel]; exact hp2)
          | true =>
            rw [if_pos rfl]
            have hp3 : ((wrd l.tail).toList == (ByteArray.mk #[43]).toList) = true := by rw [show (ByteArray.mk #[43]).toList = [43] from by decide +kernel]; exact hp2
            cases hn : ((hd l.tail.tail).n == 0) with
            | true =>
              rw [if_neg (by simp)]
              exact named_zero l W B d hp hr hp3 hn
            | false =>
              cases hk2 : ((hd l.tail.tail).kind == 2) with
              | true =>
                rw [if_pos (by simp)]
                exact named_plus l W B d hp hr hp3 hk2 hn
              | false =>
                rw [if_neg (by simp)]
                exact named_kind l W B d hp hr hp3 hk2 hn
        | false =>
          have hkn : ¬ ((hd l).kind == 1) = true := by rw [hk]; decide
          cases hk2 : ((hd l).kind == 2) with
          | true =>
            have h := part_num l w B d hP hS hw hk2
            unfold pPart
            rw [if_neg hwn, if_neg hkn, if_pos hk2]
            exact h
          | false =>
            have h := part_no l w B d hP hS hw hk hk2
            unfold pPart
            rw [if_neg hwn, if_neg hkn, if_neg (by rw [hk2]; decide)]
            exact h
    refine ⟨hpart, ?_, ?_⟩
    · intro l w B d hdd hP hE hneed hS
      obtain ⟨f', rfl⟩ : ∃ f', f = f' + 1 := ⟨f - 1, by omega⟩
      show Calls _ _ _ w (PostN B d w (pPart (f' + 1) true l))
      cases hw : ((wrd l).toList == [123]) with
      | true =>
        have h := partB_set l w B d hP hS hw part_b hdd
        unfold pPart
        rw [if_pos hw, if_pos rfl]
        exact h
      | false =>
        refine partB_else l w B d hP hS hw _ fun W hp hr => ?_
        have h := hpart l W B d hdd hp hE hneed hr
        have e : pPart (f' + 1) true l = pPart (f' + 1) false l := by
          conv => { lhs; unfold pPart }
          conv => { rhs; unfold pPart }
          rw [hw]
          rfl
        rw [e]
        exact h
    · intro l w B d hdd hP hE hneed hS
      obtain ⟨f', rfl⟩ : ∃ f', f = f' + 1 := ⟨f - 1, by omega⟩
      show Calls _ _ _ w (PostN B d w (pTerm (f' + 1) l))
      refine term_call (.good l) _ w B d hP hS fun W hp hr => ?_
      refine lfT f' (fun g hg => (ih g (by omega)).1) (.good l) (pPart f' false l) _ W B d hdd hp hr (fun W' hr' hp' => (ih f' (by omega)).1 l W' B d hdd hp' hE (by omega) hr') (fun t l' h => ?_) (fun a e h => ?_)
      · have hs := (suf_terms f').1 _ _ _ _ h
        refine ⟨?_, hs.e.ends hE, by have := hs.len; omega⟩
        show pTerm (f' + 1) l = _
        unfold pTerm
        rw [h]
      · show pTerm (f' + 1) l = _
        unfold pTerm
        rw [h]
end Go.Proofs.YtmmicnjiikiklaaDoor
