/- un, and, or, imp, formula, of every text. -/
import Derived.Test.YtmmicnjiikiklaaDoorPFm3
import Derived.Test.YtmmicnjiikiklaaDoorPFm4
import Derived.Test.YtmmicnjiikiklaaDoorPLfB
import Derived.Test.YtmmicnjiikiklaaDoorLexA
import Derived.Test.YtmmicnjiikiklaaDoorRows
import Derived.WalkKit
import Derived.WalkLawsBesides
import Derived.WalkSpells
import Derived.ProofKit
import Derived.Outline
import Derived.Deep.QuietTactic
import Derived.BigQuiet
import Derived.Deep.Light
import Derived.Deep.CutBlock
import Derived.Deep.DeepCutAuto
import Derived.Deep.DeepFit
import Derived.Deep.LoopGhost
import Derived.Lib.Hide
import Derived.Lib.OthersKept
import Derived.IntWalk
import Derived.StillTailTactics
namespace Go.Proofs.YtmmicnjiikiklaaDoor
open Go.RowKit
/-! un, and, or, imp, formula, of every text. -/
theorem un_b : BadN 105 := by
  intro w B d a e hdd hP hS
  rcases Nat.lt_or_ge 29 d with h | h
  · exact un_b2 w B d a e (by omega) hdd hP hS
  · exact un_b1 w B d a e h hP hS
theorem and_b : BadN 101 := by
  intro w B d a e hdd hP hS
  refine and_call (.bad a e) (.bad a e) w B d hP hS fun W hp hr => ?_
  exact lfA 0 (vac (by omega)) (.bad a e) (.bad a e) (.bad a e) W B d hdd hp hr (fun W' hr' hp' => un_b W' B d a e hdd hp' hr') (fun t l' h => by cases h) (fun a' e' h => h)
theorem or_b : BadN 91 := by
  intro w B d a e hdd hP hS
  refine or_call (.bad a e) (.bad a e) w B d hP hS fun W hp hr => ?_
  exact lfO 0 (vac (by omega)) (.bad a e) (.bad a e) (.bad a e) W B d hdd hp hr (fun W' hr' hp' => and_b W' B d a e hdd hp' hr') (fun t l' h => by cases h) (fun a' e' h => h)
theorem imp_b : BadN 73 := by
  intro w B d a e hdd hP hS
  exact imp_bad (.bad a e) a e w B d hP hS fun W hp hr => or_b W B d a e hdd hp hr
theorem form_b : BadN 42 := by
  intro w B d a e hdd hP hS
  refine form_call (.bad a e) (.bad a e) w B d hP hS fun W hp hr => ?_
  exact lfF 0 (vac (by omega)) (.bad a e) (.bad a e) (.bad a e) W B d hdd hp hr (fun W' hr' hp' => imp_b W' B d a e hdd hp' hr') (fun t l' h => by cases h) (fun a' e' h => h)
theorem emp_of {x : ByteArray} (h : (x.toList == []) = true) : x = ⟨#[]⟩ := bytes_of h
theorem atom_all (f : Nat) : SayN 109 2 (fun f _ l => pAtom f l) f := by
  intro l w B d hdd hP hE hneed hS
  show Calls _ _ _ w (PostN B d w (pAtom f l))
  obtain ⟨f', rfl⟩ : ∃ f', f = f' + 1 := ⟨f - 1, by omega⟩
  have hT := fun (l : List Tok) (W : World) (hE : EndsOk l) (hn : 2 + 20 * l.length ≤ f' + 1) (hp : PTB B W) (hr : RdS W B (d : Int) (.good l)) => (terms_all (f' + 1)).2.2 l W B d hdd hp hE hn hr
  cases hc : cin l with
  | true =>
    have hc2 := hc
    unfold cin at hc2
    rw [Bool.and_eq_true] at hc2
    have hne := ne_of_kind hc2.1 (by decide)
    have hne2 := ne_of_wrd hc2.2
    have h1 := (Suf.tail hne).len
    have h2 := (Suf.tail hne2).len
    have hif : ((hd l).kind == 1 && (wrd l.tail).toList == [40]) = true := hc
    refine atom_call l w B d hP hS hE hc (by rw [show (ByteArray.mk #[40]).toList = [40] from by decide +kernel]; exact hc2.2) (pList (f' + 1) false l.tail.tail) (fun W hp hr => ?_) _ (fun ks l' h => ?_) (fun a e h => ?_)
    · exact listT f' (kid_of (p := fun f _ l => pTerm f l) (by omega) (fun g d l => rfl) (fun g hg => (terms_all g).2.2)) term_b l.tail.tail W B d hdd hp hE.tail.tail (by omega) hr
    · unfold pAtom
      rw [if_pos hif, h]
    · unfold pAtom
      rw [if_pos hif, h]
  | false =>
    have hif : ¬ ((hd l).kind == 1 && (wrd l.tail).toList == [40]) = true := by
      have h : ((hd l).kind == 1 && (wrd l.tail).toList == [40]) = false := hc
      rw [h]; decide
    cases hq : pTerm (f' + 1) l with
    | bad a e =>
      have h := atom_bad a e l w B d hP hS hE hc (fun W hp hr => by have := hT l W hE (by omega) hp hr; rw [← hq]; exact this)
      unfold pAtom
      rw [if_neg hif, hq]
      exact h
    | ok n l' =>
      have hsuf := (suf_terms (f' + 1)).2.2.2.2.1 _ _ _ hq
      have hterm : ∀ W, PTB B W → RdS W B (d : Int) (.good l) → Calls Tryd.prog 114 #[.pointer (some ⟨B, 0, none⟩)] W (PostN B d W (.ok n l')) := fun W hp hr => by have := hT l W hE (by omega) hp hr; rw [← hq]; exact this
      cases hsg : ((psg 4 (wrd l')).toList == []) with
      | true =>
        cases hv : (n.op.toList == [118, 97, 114]) with
        | true =>
          have h := atom_is n l' l w B d hP hS hE hc hterm (emp_of hsg) hv
          unfold pAtom
          rw [if_neg hif, hq]
          show Calls _ _ _ w (PostN B d w (if ((psg 4 (wrd l')).toList == []) = true then _ else _))
          rw [if_pos hsg, if_pos hv]
          exact h
        | false =>
          have h := atom_novar n l' l w B d hP hS hE hc hterm (emp_of hsg) hv
          unfold pAtom
          rw [if_neg hif, hq]
          show Calls _ _ _ w (PostN B d w (if ((psg 4 (wrd l')).toList == []) = true then _ else _))
          rw [if_pos hsg, if_neg (by rw [hv]; decide)]
          exact h
      | false =>
        have hne := ne_of_psg hsg
        have hlt := hsuf.len
        have hlt2 := (Suf.tail hne).len
        refine atom_rel n l' l w B d hP hS hE hc hterm hsg _ (pTerm (f' + 1) l'.tail) (fun W hp hr => hT l'.tail W (hsuf.e.ends hE).tail (by omega) hp hr) (fun m l2 h => ?_) (fun a e h => ?_)
        · unfold pAtom
          rw [if_neg hif, hq]
          show (if ((psg 4 (wrd l')).toList == []) = true then _ else _) = _
          rw [if_neg (by rw [hsg]; decide), h]
        · unfold pAtom
          rw [if_neg hif, hq]
          show (if ((psg 4 (wrd l')).toList == []) = true then _ else _) = _
          rw [if_neg (by rw [hsg]; decide), h]
theorem text_of {l : List Tok} {x : ByteArray} (h : wrd l = x) (hx : x ≠ ⟨#[]⟩) : (hd l).text = x := by
  unfold wrd at h
  split at h
  · exact h
  · exact absurd h.symm hx
/-- quantified, out of what formula says within one more. -/
theorem quant_of (f : Nat) (ih : SayN 42 7 pForm f) (op : ByteArray) (nn : Int) (l : List Tok) (w : World) (B d : Nat) (hdd : d ≤ 29) (hP : PTB B w) (hE : EndsOk l) (hne : l ≠ []) (hneed : 20 * l.length ≤ f + 1) (hS : RdS w B (d : Int) (.good l)) (hn : nn = ordW (hd l).text.toList)
    (hord : ∀ W, Calls Tryd.prog 89 #[.string (hd l).text] W fun e w' => e = .returned (.int .i64 nn) ∧ W = w') : Calls Tryd.prog 108 #[.pointer (some ⟨B, 0, none⟩), .string op] w (PostN B d w (pQuant (f + 1) op d l)) := by
  have hbad := fun (a e : Int) (W : World) (hp : PTB B W) (hr : RdS W B (d : Int) (.bad a e)) => deeperF (.bad a e) (.bad a e) W B d hdd hp hr fun W' hp' hr' => form_b W' B (d + 1) a e (by omega) hp' hr'
  cases hk : ((hd l.tail).kind == 1) with
  | false =>
    have h := quant_name op nn l w B d hP hS hord hk (hbad _ _)
    unfold pQuant
    rw [if_neg (by rw [hk]; decide)]
    exact h
  | true =>
    cases hm : ((wrd l.tail.tail).toList == [58]) with
    | false =>
      have h := quant_colon op nn l w B d hP hS hord hk (by rw [show (ByteArray.mk #[58]).toList = [58] from by decide +kernel]; exact hm) (hbad _ _)
      unfold pQuant
      rw [if_pos hk, if_neg (by rw [hm]; decide)]
      exact h
    | true =>
      have h1 := (Suf.tail hne).len
      have h2 := (Suf.tail (ne_of_kind hk (by decide))).len
      have h3 := (Suf.tail (ne_of_wrd hm)).len
      refine quant_ok op nn l w B d hP hS hord hk (by rw [show (ByteArray.mk #[58]).toList = [58] from by decide +kernel]; exact hm) _ (pForm f (d + 1) l.tail.tail.tail) (fun W hp hr => ?_) (fun m l2 h => ?_) (fun a e h => ?_)
      · exact deeperF (.good l.tail.tail.tail) _ W B d hdd hp hr fun W' hp' hr' => ih l.tail.tail.tail W' B (d + 1) (by omega) hp' hE.tail.tail.tail (by omega) hr'
      · unfold pQuant
        rw [if_pos hk, if_pos hm, h, hn]
      · unfold pQuant
        rw [if_pos hk, if_pos hm, h]
theorem forms_all : ∀ f : Nat, SayN 105 3 pUn f ∧ SayN 101 4 pAnd f ∧ SayN 91 5 pOr f ∧ SayN 73 6 pImp f ∧ SayN 42 7 pForm f := by
  intro f
  induction f using Nat.strongRecOn with
  | _ f ih =>
    refine ⟨?_, ?_, ?_, ?_, ?_⟩
    · intro l w B d hdd hP hE hneed hS
      obtain ⟨f', rfl⟩ : ∃ f', f = f' + 1 := ⟨f - 1, by omega⟩
      rcases Nat.lt_or_ge 29 d with hdeep | hdeep
      · have h := un_deep l w B d hP hS (by omega) hdd
        unfold pUn
        rw [if_pos hdeep]
        exact h
      have hnd : ¬ 29 < d := by omega
      have hq : ∀ op nn, l ≠ [] → nn = ordW (hd l).text.toList → (∀ W, Calls Tryd.prog 89 #[.string (hd l).text] W fun e w' => e = .returned (.int .i64 nn) ∧ W = w') → ∀ W, PTB B W → RdS W B (d : Int) (.good l) → Calls Tryd.prog 108 #[.pointer (some ⟨B, 0, none⟩), .string op] W (PostN B d W (pQuant f' op d l)) := by
        intro op nn hne hnn hord W hp hr
        have h1 := List.length_pos_iff.2 hne
        obtain ⟨f2, rfl⟩ : ∃ f2, f' = f2 + 1 := ⟨f' - 1, by omega⟩
        exact quant_of f2 (ih f2 (by omega)).2.2.2.2 op nn l W B d hdeep hp hE hne (by omega) hr hnn hord
      cases h0 : ((wrd l).toList == [126]) with
      | true =>
        have hw := bytes_of h0
        have hne := ne_of_wrd h0
        have hlt := (Suf.tail hne).len
        refine un_not l w B d hP hS hdeep hw _ (pUn f' (d + 1) l.tail) (fun W hp hr => deeperU (.good l.tail) _ W B d hdeep hp hr fun W' hp' hr' => (ih f' (by omega)).1 l.tail W' B (d + 1) (by omega) hp' hE.tail (by omega) hr') (fun m l2 h => ?_) (fun a e h => ?_)
        · unfold pUn
          rw [if_neg hnd, if_pos h0, h]
        · unfold pUn
          rw [if_neg hnd, if_pos h0, h]
      | false =>
        cases h1 : ((wrd l).toList == [101, 120, 48]) with
        | true =>
          have hw := bytes_of h1
          have hne := ne_of_wrd h1
          have hlt := (Suf.tail hne).len
          have htx := text_of hw (by decide)
          have h := un_ex0 l w B d hP hS hdeep hw _ (hq tExB 0 hne (by rw [htx]; decide +kernel) (by rw [htx]; exact order_ex0))
          unfold pUn
          rw [if_neg hnd, if_neg (by rw [h0]; decide), if_pos (by unfold isExW; rw [h1]; simp)]
          exact h
        | false =>
          cases h2 : ((wrd l).toList == [101, 120, 49]) with
          | true =>
            have hw := bytes_of h2
            have hne := ne_of_wrd h2
            have hlt := (Suf.tail hne).len
            have htx := text_of hw (by decide)
            have h := un_ex1 l w B d hP hS hdeep hw _ (hq tExB 1 hne (by rw [htx]; decide +kernel) (by rw [htx]; exact order_ex1))
            unfold pUn
            rw [if_neg hnd, if_neg (by rw [h0]; decide), if_pos (by unfold isExW; rw [h2]; simp)]
            exact h
          | false =>
            cases h3 : ((wrd l).toList == [101, 120, 50]) with
            | true =>
              have hw := bytes_of h3
              have hne := ne_of_wrd h3
              have hlt := (Suf.tail hne).len
              have htx := text_of hw (by decide)
              have h := un_ex2 l w B d hP hS hdeep hw _ (hq tExB 2 hne (by rw [htx]; decide +kernel) (by rw [htx]; exact order_ex2))
              unfold pUn
              rw [if_neg hnd, if_neg (by rw [h0]; decide), if_pos (by unfold isExW; rw [h3]; simp)]
              exact h
            | false =>
              cases h4 : ((wrd l).toList == [97, 108, 108, 48]) with
              | true =>
                have hw := bytes_of h4
                have hne := ne_of_wrd h4
                have hlt := (Suf.tail hne).len
                have htx := text_of hw (by decide)
                have h := un_all0 l w B d hP hS hdeep hw _ (hq tAllB 0 hne (by rw [htx]; decide +kernel) (by rw [htx]; exact order_all0))
                unfold pUn
                rw [if_neg hnd, if_neg (by rw [h0]; decide), if_neg (by unfold isExW; rw [h1, h2, h3]; decide), if_pos (by unfold isAllW; rw [h4]; simp)]
                exact h
              | false =>
                cases h5 : ((wrd l).toList == [97, 108, 108, 49]) with
                | true =>
                  have hw := bytes_of h5
                  have hne := ne_of_wrd h5
                  have hlt := (Suf.tail hne).len
                  have htx := text_of hw (by decide)
                  have h := un_all1 l w B d hP hS hdeep hw _ (hq tAllB 1 hne (by rw [htx]; decide +kernel) (by rw [htx]; exact order_all1))
                  unfold pUn
                  rw [if_neg hnd, if_neg (by rw [h0]; decide), if_neg (by unfold isExW; rw [h1, h2, h3]; decide), if_pos (by unfold isAllW; rw [h5]; simp)]
                  exact h
                | false =>
                  cases h6 : ((wrd l).toList == [97, 108, 108, 50]) with
                  | true =>
                    have hw := bytes_of h6
                    have hne := ne_of_wrd h6
                    have hlt := (Suf.tail hne).len
                    have htx := text_of hw (by decide)
                    have h := un_all2 l w B d hP hS hdeep hw _ (hq tAllB 2 hne (by rw [htx]; decide +kernel) (by rw [htx]; exact order_all2))
                    unfold pUn
                    rw [if_neg hnd, if_neg (by rw [h0]; decide), if_neg (by unfold isExW; rw [h1, h2, h3]; decide), if_pos (by unfold isAllW; rw [h6]; simp)]
                    exact h
                  | false =>
                    cases h7 : ((wrd l).toList == [116, 114, 117, 101]) with
                    | true =>
                      have hw := bytes_of h7
                      have hne := ne_of_wrd h7
                      have hlt := (Suf.tail hne).len
                      have h := un_true l w B d hP hS hdeep hw
                      unfold pUn
                      rw [if_neg hnd, if_neg (by rw [h0]; decide), if_neg (by unfold isExW; rw [h1, h2, h3]; decide), if_neg (by unfold isAllW; rw [h4, h5, h6]; decide), if_pos (by rw [h7]; simp)]
                      exact h
                    | false =>
                      cases h8 : ((wrd l).toList == [102, 97, 108, 115, 101]) with
                      | true =>
                        have hw := bytes_of h8
                        have hne := ne_of_wrd h8
                        have hlt := (Suf.tail hne).len
                        have h := un_false l w B d hP hS hdeep hw
                        unfold pUn
                        rw [if_neg hnd, if_neg (by rw [h0]; decide), if_neg (by unfold isExW; rw [h1, h2, h3]; decide), if_neg (by unfold isAllW; rw [h4, h5, h6]; decide), if_pos (by rw [h8]; simp)]
                        exact h
                      | false =>
                        cases h9 : ((wrd l).toList == [40]) with
                        | true =>
                          have hw := bytes_of h9
                          have hne := ne_of_wrd h9
                          have hlt := (Suf.tail hne).len
                          have hdk : ∀ W, PTB B W → RdS W B (d : Int) (.good l.tail) → Calls Tryd.prog 107 #[.pointer (some ⟨B, 0, none⟩), .func (.func 42) #[.pointer (some ⟨B, 0, none⟩)] #[]] W (PostN B d W (pForm f' (d + 1) l.tail)) := fun W hp hr => deeperF (.good l.tail) _ W B d hdeep hp hr fun W' hp' hr' => (ih f' (by omega)).2.2.2.2 l.tail W' B (d + 1) (by omega) hp' hE.tail (by omega) hr'
                          cases hp9 : pForm f' (d + 1) l.tail with
                          | bad a e =>
                            rw [hp9] at hdk
                            have h := un_parbad l w B d hP hS hdeep hw a e hdk
                            unfold pUn
                            rw [if_neg hnd, if_neg (by rw [h0]; decide), if_neg (by unfold isExW; rw [h1, h2, h3]; decide), if_neg (by unfold isAllW; rw [h4, h5, h6]; decide), if_neg (by rw [h7, h8]; decide), if_pos h9, hp9]
                            exact h
                          | ok n l' =>
                            rw [hp9] at hdk
                            cases hm : ((wrd l').toList == [41]) with
                            | true =>
                              have h := un_par l w B d hP hS hdeep hw n l' (by rw [show (ByteArray.mk #[41]).toList = [41] from by decide +kernel]; exact hm) hdk
                              unfold pUn
                              rw [if_neg hnd, if_neg (by rw [h0]; decide), if_neg (by unfold isExW; rw [h1, h2, h3]; decide), if_neg (by unfold isAllW; rw [h4, h5, h6]; decide), if_neg (by rw [h7, h8]; decide), if_pos h9, hp9]
                              show Calls _ _ _ w (PostN B d w (if ((wrd l').toList == [41]) = true then _ else _))
                              rw [if_pos hm]
                              exact h
                            | false =>
                              have h := un_parno l w B d hP hS hdeep hw n l' (by rw [show (ByteArray.mk #[41]).toList = [41] from by decide +kernel]; exact hm) hdk
                              unfold pUn
                              rw [if_neg hnd, if_neg (by rw [h0]; decide), if_neg (by unfold isExW; rw [h1, h2, h3]; decide), if_neg (by unfold isAllW; rw [h4, h5, h6]; decide), if_neg (by rw [h7, h8]; decide), if_pos h9, hp9]
                              show Calls _ _ _ w (PostN B d w (if ((wrd l').toList == [41]) = true then _ else _))
                              rw [if_neg (by rw [hm]; decide)]
                              exact h
                        | false =>
                          have h := un_atom l w B d hP hS hdeep h0 h1 h2 h3 h4 h5 h6 h7 h8 h9 (pAtom f' l) (fun W hp hr => atom_all f' l W B d hdd hp hE (by omega) hr)
                          unfold pUn
                          rw [if_neg hnd, if_neg (by rw [h0]; decide), if_neg (by unfold isExW; rw [h1, h2, h3]; decide), if_neg (by unfold isAllW; rw [h4, h5, h6]; decide), if_neg (by rw [h7, h8]; decide), if_neg (by rw [h9]; decide)]
                          exact h
    · intro l w B d hdd hP hE hneed hS
      obtain ⟨f', rfl⟩ : ∃ f', f = f' + 1 := ⟨f - 1, by omega⟩
      refine and_call (.good l) _ w B d hP hS fun W hp hr => ?_
      refine lfA f' (fun g hg => (ih g (by omega)).1) (.good l) (pUn f' d l) _ W B d hdd hp hr (fun W' hr' hp' => (ih f' (by omega)).1 l W' B d hdd hp' hE (by omega) hr') (fun t l' h => ?_) (fun a e h => ?_)
      · have hs := (suf_forms f').1 _ _ _ _ h
        refine ⟨?_, hs.e.ends hE, by have := hs.len; omega⟩
        conv => { lhs; unfold pAnd }
        rw [h]
      · conv => { lhs; unfold pAnd }
        rw [h]
    · intro l w B d hdd hP hE hneed hS
      obtain ⟨f', rfl⟩ : ∃ f', f = f' + 1 := ⟨f - 1, by omega⟩
      refine or_call (.good l) _ w B d hP hS fun W hp hr => ?_
      refine lfO f' (fun g hg => (ih g (by omega)).2.1) (.good l) (pAnd f' d l) _ W B d hdd hp hr (fun W' hr' hp' => (ih f' (by omega)).2.1 l W' B d hdd hp' hE (by omega) hr') (fun t l' h => ?_) (fun a e h => ?_)
      · have hs := (suf_forms f').2.2.1 _ _ _ _ h
        refine ⟨?_, hs.e.ends hE, by have := hs.len; omega⟩
        conv => { lhs; unfold pOr }
        rw [h]
      · conv => { lhs; unfold pOr }
        rw [h]
    · intro l w B d hdd hP hE hneed hS
      obtain ⟨f', rfl⟩ : ∃ f', f = f' + 1 := ⟨f - 1, by omega⟩
      have hor := fun W (hp : PTB B W) (hr : RdS W B (d : Int) (.good l)) => (ih f' (by omega)).2.2.1 l W B d hdd hp hE (by omega) hr
      cases hq : pOr f' d l with
      | bad a e =>
        rw [hq] at hor
        have h := imp_bad (.good l) a e w B d hP hS hor
        unfold pImp
        rw [hq]
        exact h
      | ok n l' =>
        rw [hq] at hor
        have hsuf := (suf_forms f').2.2.2.2.1 _ _ _ _ hq
        cases hsg : ((psg 1 (wrd l')).toList == []) with
        | true =>
          have h := imp_one n l' l w B d hP hS hor (emp_of hsg)
          unfold pImp
          rw [hq]
          show Calls _ _ _ w (PostN B d w (if ((psg 1 (wrd l')).toList == []) = true then _ else _))
          rw [if_pos hsg]
          exact h
        | false =>
          have hne := ne_of_psg hsg
          have hlt := hsuf.len
          have hlt2 := (Suf.tail hne).len
          refine imp_two n l' l w B d hP hS hor hsg _ (pImp f' d l'.tail) (fun W hp hr => (ih f' (by omega)).2.2.2.1 l'.tail W B d hdd hp (hsuf.e.ends hE).tail (by omega) hr) (fun m l2 h => ?_) (fun a e h => ?_)
          · conv => { lhs; unfold pImp }
            rw [hq]
            show (if ((psg 1 (wrd l')).toList == []) = true then _ else _) = _
            rw [if_neg (by rw [hsg]; decide), h]
          · conv => { lhs; unfold pImp }
            rw [hq]
            show (if ((psg 1 (wrd l')).toList == []) = true then _ else _) = _
            rw [if_neg (by rw [hsg]; decide), h]
    · intro l w B d hdd hP hE hneed hS
      obtain ⟨f', rfl⟩ : ∃ f', f = f' + 1 := ⟨f - 1, by omega⟩
      refine form_call (.good l) _ w B d hP hS fun W hp hr => ?_
      refine lfF f' (fun g hg => (ih g (by omega)).2.2.2.1) (.good l) (pImp f' d l) _ W B d hdd hp hr (fun W' hr' hp' => (ih f' (by omega)).2.2.2.1 l W' B d hdd hp' hE (by omega) hr') (fun t l' h => ?_) (fun a e h => ?_)
      · have hs := (suf_forms f').2.2.2.2.2.2.2.2 _ _ _ _ h
        refine ⟨?_, hs.e.ends hE, by have := hs.len; omega⟩
        conv => { lhs; unfold pForm }
        rw [h]
      · conv => { lhs; unfold pForm }
        rw [h]
end Go.Proofs.YtmmicnjiikiklaaDoor
