/- What lex.first answers of every text of runes that has one: the step, whatever it begins with. Condition: the tables stand as laid. -/
import Derived.Test.YtpdlnpllhjcejaaDoorLexFirst
import Derived.Test.YtpdlnpllhjcejaaDoorLexPure2
import Derived.Test.YtpdlnpllhjcejaaDoorRows
import Derived.WalkKit
import Derived.WalkLawsBesides
import Derived.WalkSpells
import Derived.ProofKit
import Derived.Outline
import Derived.Deep.QuietTactic
import Derived.BigQuiet
import Derived.Deep.Light
import Derived.Deep.CutBlock
import Derived.Deep.DeepCutAuto
import Derived.Deep.DeepFit
import Derived.Deep.LoopGhost
import Derived.Lib.Hide
import Derived.Lib.OthersKept
import Derived.IntWalk
namespace Go.Proofs.YtpdlnpllhjcejaaDoor
open Go.RowKit
theorem sig_end (u : ByteArray) : ∀ (x : List UInt8), (∀ c ∈ x, c.toNat < 128) → ∀ (b pos : Nat), u.size ≤ pos + b → pos ≤ u.size → (eachF u b pos).2 = -1 → rpre x (eachF u b pos).1 = true → posOf (u.size : Int) ((eachF u b pos).1.drop x.length) = pos + x.length := by
  intro x
  induction x with
  | nil =>
    intro _ b pos hb hs h2 _
    simp only [List.length_nil, List.drop_zero, Int.natCast_zero, Int.add_zero]
    by_cases hp : pos < u.size
    · obtain ⟨b, rfl⟩ : ∃ g, b = g + 1 := ⟨b - 1, by omega⟩
      have hbad : ¬ badAt u pos := by
        intro hbad
        rw [eachF_bad _ _ _ hp hbad] at h2; simp only [] at h2; omega
      rw [eachF_one _ _ _ hp hbad]; rfl
    · rw [eachF_end _ _ _ hp]; simp only [posOf]; omega
  | cons c x ih =>
    intro hx b pos hb hs h2 hr
    have hc := hx c (List.mem_cons_self ..)
    by_cases hp : pos < u.size
    · obtain ⟨b, rfl⟩ : ∃ g, b = g + 1 := ⟨b - 1, by omega⟩
      have hbad : ¬ badAt u pos := by
        intro hbad
        rw [eachF_bad _ _ _ hp hbad] at h2; simp only [] at h2; omega
      rw [eachF_one _ _ _ hp hbad] at h2 hr ⊢
      simp only [rpre, Bool.and_eq_true, beq_iff_eq] at hr
      have h1 := ascii_one u pos (by omega)
      rw [h1.2] at h2 hr ⊢
      have := ih (fun a ha => hx a (List.mem_cons_of_mem _ ha)) b (pos + 1) (by omega) (by omega) h2 hr.2
      simp only [List.length_cons, List.drop_succ_cons]
      rw [this]
      omega
    · rw [eachF_end _ _ _ hp] at hr; simp [rpre] at hr
theorem num_facts (u : ByteArray) (q : Int × Int) (M : RL) (hL : (each u).1 = q :: M) (h : (each u).2 = -1) (h2 : cls q.1 = 2) :
    1 ≤ (u.extract 0 (leadN dgB u)).size ∧ numOut (u.extract 0 (leadN dgB u)) = if numV 0 (q :: M) ≤ 99 ∧ ¬ (q.1 = 48 ∧ 1 < cnt dgB (q :: M)) then (.agg #[.int .i64 2, .string ⟨#[]⟩, .int .i64 (numV 0 (q :: M)), .int .i64 0], true) else (.agg #[.int .i64 0, .string ⟨#[]⟩, .int .i64 0, .int .i64 0], false) := by
  have hx := lead_each dgB u h
  have hh := head_at hL
  have hq : dgB q.1 = true := by unfold dgB; rw [h2]; rfl
  have hqr := (dgB_iff _).1 hq
  rw [hL] at hx
  have hsz : (u.extract 0 (leadN dgB u)).size = cnt dgB (q :: M) := by
    have h3 := digits_len (u.extract 0 (leadN dgB u)) (u.extract 0 (leadN dgB u)).size 0 (by omega) (by omega) (by have e : eachF (u.extract 0 (leadN dgB u)) (u.extract 0 (leadN dgB u)).size 0 = each (u.extract 0 (leadN dgB u)) := rfl; rw [e, hx]) (by
      have e : eachF (u.extract 0 (leadN dgB u)) (u.extract 0 (leadN dgB u)).size 0 = each (u.extract 0 (leadN dgB u)) := rfl
      rw [e, hx]; exact cnt_all dgB _)
    have e : eachF (u.extract 0 (leadN dgB u)) (u.extract 0 (leadN dgB u)).size 0 = each (u.extract 0 (leadN dgB u)) := rfl
    rw [e, hx] at h3
    simp only [] at h3
    rw [List.length_take_of_le (cnt_le _ _)] at h3
    omega
  have hc := cnt_pos (L := M) hq
  refine ⟨by omega, ?_⟩
  have hli := lead_int dgB u h
  have hl1 : 1 ≤ leadN dgB u := by rw [ext_size u _ hli.2] at hsz; omega
  have h0 := ascii_one u 0 (by have := hh.2.2; omega)
  have hg : (u.extract 0 (leadN dgB u)).get! 0 = 48 ↔ q.1 = 48 := by
    rw [ext_get! u _ 0 (by omega), hh.2.2]
    constructor
    · intro e; have : (u.get! 0).toNat = 48 := by rw [e]; rfl
      omega
    · intro e; exact UInt8.toNat_inj.1 (show (u.get! 0).toNat = 48 by omega)
  have hn : numV 0 (each (u.extract 0 (leadN dgB u))).1 = numV 0 (q :: M) := by rw [hx]; exact num_take _ 0
  unfold numOut
  rw [hn, hsz]
  simp only [hg]

theorem first_any (u : ByteArray) (q : Int × Int) (M : RL) (w : World) (hT : LTabs w) (hsz : u.size ≤ 1000000) (hL : (each u).1 = q :: M) (h : (each u).2 = -1) :
    Calls Tryd.prog 35 #[.string u, .int .i32 q.1] w (FirstPost u w) := by
  have hh := head_at hL
  have hcr := cls_range q.1
  have hlead : ∀ p, leadN p u = (posOf (u.size : Int) ((q :: M).drop (cnt p (q :: M)))).toNat := by intro p; unfold leadN; rw [hL]
  by_cases h3 : cls q.1 = 3
  · exact first_sp u q.1 w h h3 (by rw [hL, stepL, if_pos h3])
  · by_cases h35 : q.1 = 35
    · exact first_cm u q.1 w h h35 (by rw [hL, stepL, if_neg h3, if_pos h35])
    · have hst : stepL u u.size (each u).1 = (tokL u u.size (q :: M)).map fun p => (some p.1, p.2) := by rw [hL, stepL, if_neg h3, if_neg h35]
      by_cases h1 : cls q.1 = 1
      · by_cases h12 : cnt nmB (q :: M) ≤ 12
        · refine first_nameok u q.1 w hT h hsz h1 (by rw [hL]; exact h12) _ rfl ?_
          rw [hst, tokL, if_pos h1, if_pos h12, hlead, hh.1, hL]
          rfl
        · refine first_namebig u q.1 w hT h hsz h1 (by rw [hL]; omega) ?_
          rw [hst, tokL, if_pos h1, if_neg h12]
          rfl
      · by_cases h2 : cls q.1 = 2
        · have hn := num_facts u q M hL h h2
          by_cases ho : numV 0 (q :: M) ≤ 99 ∧ ¬ (q.1 = 48 ∧ 1 < cnt dgB (q :: M))
          · rw [if_pos ho] at hn
            refine first_numok u q.1 w hT h hsz h2 hn.1 _ hn.2 ?_
            rw [hst, tokL, if_neg h1, if_pos h2, if_pos ho, hh.1, hL]
            rfl
          · rw [if_neg ho] at hn
            refine first_numno u q.1 w hT h hsz h2 hn.1 hn.2 ?_
            rw [hst, tokL, if_neg h1, if_pos h2, if_neg ho]
            rfl
        · have htk : tokL u u.size (q :: M) = match sigL (q :: M) with
            | some x => some (⟨3, x, 0, q.2⟩, x.size)
            | none => none := by
            rw [tokL, if_neg h1, if_neg h2]
            cases sigL (q :: M) <;> rfl
          by_cases h4 : cls q.1 = 4
          · rcases hs : sigL (q :: M) with _ | x
            · refine first_nosig u q.1 w hT h h4 h35 (by unfold signOf; rw [hL, hs]; rfl) ?_
              rw [hst, htk, hs]
              rfl
            · have hx := sigF_some _ _ _ hs
              have hxs := sigs_size x hx.1
              refine first_sig u q.1 w hT h h4 h35 x (by unfold signOf; rw [hL, hs]; rfl) ?_ ?_ ?_
              · intro e
                rw [Lib.toList_data] at e
                rw [Lib.size_eq, e] at hxs
                simp at hxs
              · rw [hst, htk, hs, hh.1]
                rfl
              · have hr : rpre x.data.toList (eachF u u.size 0).1 = true := by
                  have e : eachF u u.size 0 = each u := rfl
                  rw [e, hL]; exact hx.2
                have := sig_end u x.data.toList (sigs_ascii x hx.1) u.size 0 (by omega) (by omega) h hr
                rw [Lib.size_eq x]
                have e : eachF u u.size 0 = each u := rfl
                rw [e] at this
                rw [this]
                omega
          · have h0 : cls q.1 = 0 := by omega
            refine first_other u q.1 w h0 ?_
            rw [hst, htk, sig_none q M h0]
            rfl
end Go.Proofs.YtpdlnpllhjcejaaDoor
