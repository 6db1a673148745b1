/- What a text s tokens are with spaces and comments around it. -/
import Derived.Test.YtpdlnpllhjcejaaDoorLexPure2
import Derived.Test.YtpdlnpllhjcejaaDoorLexPure2
import Derived.Test.YtpdlnpllhjcejaaDoorRows
import Derived.WalkKit
import Derived.WalkLawsBesides
import Derived.WalkSpells
import Derived.ProofKit
import Derived.Outline
import Derived.Deep.QuietTactic
import Derived.BigQuiet
import Derived.Deep.Light
import Derived.Deep.CutBlock
import Derived.Deep.DeepCutAuto
import Derived.Deep.DeepFit
import Derived.Deep.LoopGhost
import Derived.Lib.Hide
import Derived.Lib.OthersKept
import Derived.IntWalk
import Derived.StillTailTactics
namespace Go.Proofs.YtpdlnpllhjcejaaDoor
open Go.RowKit
/-! ### a list of runes with a line feed and more behind it -/
/-- Behind the list a line feed stands. -/
def app (d r : Int) (R M : RL) : RL := shf d M ++ (10, r) :: R
theorem app_nil (d r : Int) (R : RL) : app d r R [] = (10, r) :: R := rfl
theorem app_cons (d r : Int) (R : RL) (q : Int × Int) (M : RL) : app d r R (q :: M) = (q.1, q.2 + d) :: app d r R M := rfl
theorem app_cnt (p : Int → Bool) (hp : p 10 = false) (d r : Int) (R M : RL) : cnt p (app d r R M) = cnt p M := by
  induction M with
  | nil => show (if p 10 then _ else 0) = 0; rw [hp]; rfl
  | cons q M ih => rw [app_cons]; show (if p q.1 then cnt p (app d r R M) + 1 else 0) = _; rw [ih]; rfl
theorem app_num (d r : Int) (R M : RL) : ∀ a, numV a (app d r R M) = numV a M := by
  induction M with
  | nil => intro a; show (if dgB 10 then _ else a) = a; rw [show dgB 10 = false by decide]; rfl
  | cons q M ih => intro a; rw [app_cons]; show (if dgB q.1 then numV (min (10 * a + (q.1 - 48)) 1000) (app d r R M) else a) = _; rw [ih]; rfl
theorem app_rpre (d r : Int) (R : RL) : ∀ (x : List UInt8) (M : RL), (10 : UInt8) ∉ x → rpre x (app d r R M) = rpre x M := by
  intro x
  induction x with
  | nil => intro M _; cases M <;> rfl
  | cons c x ih =>
    intro M h
    rw [List.mem_cons, not_or] at h
    cases M with
    | nil =>
      rw [app_nil]
      show ((10 : Int) == (c.toNat : Int) && rpre x R) = false
      have : ((10 : Int) == (c.toNat : Int)) = false := by
        rw [beq_eq_false_iff_ne]
        intro hc
        have hc' : c.toNat = 10 := by omega
        exact h.1 (by rw [← UInt8.toNat_inj, hc']; rfl)
      rw [this]; rfl
    | cons q M => rw [app_cons]; show (q.1 == (c.toNat : Int) && rpre x (app d r R M)) = _; rw [ih M h.2]; rfl
theorem app_sigF (d r : Int) (R M : RL) : ∀ X : List ByteArray, (∀ x ∈ X, (10 : UInt8) ∉ x.data.toList) → sigF X (app d r R M) = sigF X M := by
  intro X
  induction X with
  | nil => intro _; rfl
  | cons x X ih =>
    intro h
    show (if rpre x.data.toList (app d r R M) then some x else sigF X (app d r R M)) = _
    rw [app_rpre d r R _ M (h x (List.mem_cons_self ..)), ih fun y hy => h y (List.mem_cons_of_mem _ hy)]
    rfl
theorem app_sig (d r : Int) (R M : RL) : sigL (app d r R M) = sigL M := app_sigF d r R M sigs (by decide)
theorem app_drop (d r : Int) (R : RL) : ∀ (M : RL) (k : Nat), k ≤ M.length → (app d r R M).drop k = app d r R (M.drop k) := by
  intro M k h
  unfold app
  rw [List.drop_append_of_le_length (by rw [shf_len]; exact h), shf_drop]
theorem app_pos (d r e E : Int) (R M : RL) (hr : r = e + d) : posOf E (app d r R M) = posOf e M + d := by
  cases M with
  | nil => exact hr
  | cons q M => rfl
theorem cntM_le (p : Int → Bool) : ∀ M : RL, cnt p M ≤ M.length := by
  intro M
  induction M with
  | nil => exact Nat.le_refl _
  | cons q M ih => show (if p q.1 then cnt p M + 1 else 0) ≤ _; split <;> simp <;> omega
theorem rpre_le : ∀ (x : List UInt8) (M : RL), rpre x M = true → x.length ≤ M.length := by
  intro x
  induction x with
  | nil => intro M _; simp
  | cons c x ih =>
    intro M h
    cases M with
    | nil => cases h
    | cons q M =>
      have h' : (q.1 == (c.toNat : Int) && rpre x M) = true := h
      rw [Bool.and_eq_true] at h'
      have := ih M h'.2
      simp; omega
theorem sigF_le (M : RL) : ∀ (X : List ByteArray) (x : ByteArray), sigF X M = some x → x.size ≤ M.length := by
  intro X
  induction X with
  | nil => intro x h; cases h
  | cons y X ih =>
    intro x h
    have h' : (if rpre y.data.toList M then some y else sigF X M) = some x := h
    split at h'
    · rename_i hr
      cases h'
      have := rpre_le _ _ hr
      rw [Lib.size_eq]; exact this
    · exact ih x h'
/-- What is left out at a list's beginning. -/
theorem app_skp (d r : Int) (R : RL) (h1 : skp false R = []) : ∀ (M : RL) (b : Bool), skp b (app d r R M) = (match skp b M with | [] => [] | q :: N => app d r R (q :: N)) := by
  intro M
  induction M with
  | nil =>
    intro b
    rw [app_nil]
    cases b with
    | false => show (if cls 10 = 3 then skp false R else _) = []; rw [if_pos (by decide), h1]
    | true => show (if (10 : Int) = 10 then skp false R else _) = []; rw [if_pos rfl, h1]
  | cons q M ih =>
    intro b
    rw [app_cons]
    cases b with
    | false =>
      show (if cls q.1 = 3 then skp false (app d r R M) else if q.1 = 35 then skp true (app d r R M) else _) = (match (if cls q.1 = 3 then skp false M else if q.1 = 35 then skp true M else q :: M) with | [] => [] | q :: N => app d r R (q :: N))
      split
      · exact ih false
      · split
        · exact ih true
        · rfl
    | true =>
      show (if q.1 = 10 then skp false (app d r R M) else skp true (app d r R M)) = (match (if q.1 = 10 then skp false M else skp true M) with | [] => [] | q :: N => app d r R (q :: N))
      split
      · exact ih false
      · exact ih true
theorem skp_mem : ∀ (M : RL) (b : Bool) (q : Int × Int), q ∈ skp b M → q ∈ M := by
  intro M
  induction M with
  | nil => intro b q h; cases b <;> exact h
  | cons p M ih =>
    intro b q h
    cases b with
    | false =>
      have h' : q ∈ (if cls p.1 = 3 then skp false M else if p.1 = 35 then skp true M else p :: M) := h
      split at h'
      · exact List.mem_cons_of_mem _ (ih _ _ h')
      · split at h'
        · exact List.mem_cons_of_mem _ (ih _ _ h')
        · exact h'
    | true =>
      have h' : q ∈ (if p.1 = 10 then skp false M else skp true M) := h
      split at h'
      · exact List.mem_cons_of_mem _ (ih _ _ h')
      · exact List.mem_cons_of_mem _ (ih _ _ h')
/-- A part of the middle one of three texts. -/
theorem mid_extract (g s r : ByteArray) (a b : Nat) (h : b ≤ s.size) : (g ++ s ++ r).extract (a + g.size) (b + g.size) = s.extract a b := by
  rw [ByteArray.append_assoc, Nat.add_comm a, Nat.add_comm b, ByteArray.extract_append_size_add, ByteArray.extract_append]
  have h0 : b - s.size = 0 := by omega
  rw [h0]
  have : r.extract (a - s.size) 0 = ByteArray.empty := by
    rw [ByteArray.extract_eq_empty_iff]; omega
  rw [this, ByteArray.append_empty]
def moved (d : Int) (t : Tok) : Tok := ⟨t.kind, t.text, t.n, t.pos + d⟩
/-- All places lie within the text. -/
def within (s : ByteArray) (M : RL) : Prop := ∀ q ∈ M, 0 ≤ q.2 ∧ q.2 ≤ s.size
theorem within_drop {s : ByteArray} {M : RL} (h : within s M) (k : Nat) : within s (M.drop k) := fun q hq => h q (List.mem_of_mem_drop hq)
theorem within_pos {s : ByteArray} {M : RL} (h : within s M) : 0 ≤ posOf s.size M ∧ posOf s.size M ≤ s.size := by
  cases M with
  | nil => show 0 ≤ (s.size : Int) ∧ (s.size : Int) ≤ s.size; omega
  | cons q M => exact h q (List.mem_cons_self ..)
theorem cut_moved (g s r : ByteArray) (a b : Int) (ha : 0 ≤ a) (hb : 0 ≤ b ∧ b ≤ s.size) : (g ++ s ++ r).extract (a + (g.size : Int)).toNat (b + (g.size : Int)).toNat = s.extract a.toNat b.toNat := by
  rw [show (a + (g.size : Int)).toNat = a.toNat + g.size by omega, show (b + (g.size : Int)).toNat = b.toNat + g.size by omega]
  exact mid_extract g s r _ _ (by omega)
theorem app_tok (g s z : ByteArray) (E : Int) (R : RL) (q : Int × Int) (M : RL) (hw : within s (q :: M)) :
    tokL (g ++ s ++ z) E (app g.size ((s.size : Int) + g.size) R (q :: M)) = (tokL s s.size (q :: M)).map fun p => (moved g.size p.1, p.2) := by
  have hc1 := app_cnt nmB (by decide) g.size ((s.size : Int) + g.size) R (q :: M)
  have hc2 := app_cnt dgB (by decide) g.size ((s.size : Int) + g.size) R (q :: M)
  have hnv := app_num g.size ((s.size : Int) + g.size) R (q :: M) 0
  have hsg := app_sig g.size ((s.size : Int) + g.size) R (q :: M)
  have hdr := app_drop g.size ((s.size : Int) + g.size) R (q :: M) (cnt nmB (q :: M)) (cntM_le _ _)
  have hq := hw q (List.mem_cons_self ..)
  have hps := within_pos (within_drop hw (cnt nmB (q :: M)))
  have hcut := cut_moved g s z q.2 (posOf s.size ((q :: M).drop (cnt nmB (q :: M)))) hq.1 hps
  rw [app_cons] at hc1 hc2 hnv hsg hdr ⊢
  unfold tokL
  simp only []
  rw [hc1, hc2, hnv, hsg, hdr, app_pos _ _ s.size E _ _ rfl, hcut]
  split
  · split
    · rfl
    · rfl
  · split
    · split
      · rfl
      · rfl
    · cases sigL (q :: M) with
      | none => rfl
      | some x => rfl
theorem tok_le (s : ByteArray) (e : Int) (q : Int × Int) (M : RL) (t : Tok) (k : Nat) (h : tokL s e (q :: M) = some (t, k)) : k ≤ (q :: M).length := by
  rw [tokL] at h
  by_cases h1 : cls q.1 = 1
  · rw [if_pos h1] at h
    by_cases h2 : cnt nmB (q :: M) ≤ 12
    · rw [if_pos h2] at h
      have := congrArg Prod.snd (Option.some.inj h)
      have h4 := cntM_le nmB (q :: M)
      simp only [] at this
      omega
    · rw [if_neg h2] at h; cases h
  · rw [if_neg h1] at h
    by_cases h2 : cls q.1 = 2
    · rw [if_pos h2] at h
      by_cases h3 : numV 0 (q :: M) ≤ 99 ∧ ¬ (q.1 = 48 ∧ 1 < cnt dgB (q :: M))
      · rw [if_pos h3] at h
        have := congrArg Prod.snd (Option.some.inj h)
        have h4 := cntM_le dgB (q :: M)
        simp only [] at this
        omega
      · rw [if_neg h3] at h; cases h
    · rw [if_neg h2] at h
      rcases hs : sigL (q :: M) with _ | x
      · rw [hs] at h; cases h
      · rw [hs] at h
        have := congrArg Prod.snd (Option.some.inj h)
        have h4 := sigF_le _ _ _ hs
        simp only [] at this
        omega
/-- The tokens of a text with more around it. -/
theorem app_ref (g s z : ByteArray) (E : Int) (R : RL) (h1 : skp false R = []) : ∀ (f : Nat) (M : RL) (T : List Tok), within s M → refL s s.size f M = (T, none) →
    refL (g ++ s ++ z) E f (app g.size ((s.size : Int) + g.size) R M) = (T.map (moved g.size), none) := by
  intro f
  induction f with
  | zero => intro M T _ h; cases h; rfl
  | succ f ih =>
    intro M T hw h
    unfold refL at h ⊢
    rw [app_skp _ _ _ h1]
    have hm := skp_mem M false
    rcases hsk : skp false M with _ | ⟨q, N⟩
    · rw [hsk] at h; simp only [] at h ⊢; cases h; rfl
    · rw [hsk] at h hm
      simp only [] at h ⊢
      have hwN : within s (q :: N) := fun p hp => hw p (hm p hp)
      have hat := app_tok g s z E R q N hwN
      have hdr := fun k hk => app_drop g.size ((s.size : Int) + g.size) R (q :: N) k hk
      rw [app_cons] at hat hdr ⊢
      simp only []
      rw [hat]
      rcases ht : tokL s s.size (q :: N) with _ | ⟨t, k⟩
      · rw [ht] at h; cases h
      · rw [ht] at h
        simp only [] at h
        rw [Option.map_some]
        simp only []
        rw [hdr k (tok_le _ _ _ _ _ _ ht)]
        rcases hr : refL s s.size f ((q :: N).drop k) with ⟨T', o⟩
        rw [hr] at h
        cases h
        rw [ih _ _ (within_drop hwN k) hr]
        rfl
theorem tok_pos (s : ByteArray) (e : Int) (q : Int × Int) (M : RL) (t : Tok) (k : Nat) (h : tokL s e (q :: M) = some (t, k)) : t.pos = q.2 := by
  rw [tokL] at h
  by_cases h1 : cls q.1 = 1
  · rw [if_pos h1] at h
    by_cases h2 : cnt nmB (q :: M) ≤ 12
    · rw [if_pos h2] at h
      have := congrArg Prod.fst (Option.some.inj h)
      exact (congrArg Tok.pos this).symm
    · rw [if_neg h2] at h; cases h
  · rw [if_neg h1] at h
    by_cases h2 : cls q.1 = 2
    · rw [if_pos h2] at h
      by_cases h3 : numV 0 (q :: M) ≤ 99 ∧ ¬ (q.1 = 48 ∧ 1 < cnt dgB (q :: M))
      · rw [if_pos h3] at h
        have := congrArg Prod.fst (Option.some.inj h)
        exact (congrArg Tok.pos this).symm
      · rw [if_neg h3] at h; cases h
    · rw [if_neg h2] at h
      rcases hs : sigL (q :: M) with _ | x
      · rw [hs] at h; cases h
      · rw [hs] at h
        have := congrArg Prod.fst (Option.some.inj h)
        exact (congrArg Tok.pos this).symm
theorem ref_within (s : ByteArray) (e : Int) : ∀ (f : Nat) (M : RL), within s M → ∀ t ∈ (refL s e f M).1, 0 ≤ t.pos ∧ t.pos ≤ s.size := by
  intro f
  induction f with
  | zero => intro M _ t h; cases h
  | succ f ih =>
    intro M hw t h
    unfold refL at h
    have hm := skp_mem M false
    rcases hsk : skp false M with _ | ⟨q, N⟩
    · rw [hsk] at h; cases h
    · rw [hsk] at h hm
      simp only [] at h
      have hwN : within s (q :: N) := fun p hp => hw p (hm p hp)
      rcases ht : tokL s e (q :: N) with _ | ⟨u, k⟩
      · rw [ht] at h; cases h
      · rw [ht] at h
        simp only [] at h
        rcases List.mem_cons.1 h with rfl | h
        · rw [tok_pos _ _ _ _ _ _ ht]; exact hwN q (List.mem_cons_self ..)
        · exact ih _ (within_drop hwN k) t h
theorem each_within (s : ByteArray) (_ : (each s).2 = -1) : within s (each s).1 := by
  intro q hq
  have hg := eachF_ge s s.size 0 q hq
  have he := endOf_ge s s.size 0 (by omega)
  refine ⟨by have := hg.1; omega, ?_⟩
  have := hg.2
  omega
def gaps : List ByteArray := [⟨#[32]⟩, ⟨#[9, 10]⟩, ⟨#[35, 32, 120, 32, 60, 32, 51, 32, 206, 177, 10]⟩, ⟨#[13, 35, 32, 10]⟩]
theorem skp_shf (d : Int) : ∀ (M : RL) (b : Bool), skp b M = [] → skp b (shf d M) = [] := by
  intro M
  induction M with
  | nil => intro b h; cases b <;> rfl
  | cons p M ih =>
    intro b h
    cases b with
    | false =>
      have h' : (if cls p.1 = 3 then skp false M else if p.1 = 35 then skp true M else p :: M) = [] := h
      show (if cls p.1 = 3 then skp false (shf d M) else if p.1 = 35 then skp true (shf d M) else _) = []
      split
      · rename_i h1; rw [if_pos h1] at h'; exact ih _ h'
      · rename_i h1
        rw [if_neg h1] at h'
        split
        · rename_i h2; rw [if_pos h2] at h'; exact ih _ h'
        · rename_i h2; rw [if_neg h2] at h'; cases h'
    | true =>
      have h' : (if p.1 = 10 then skp false M else skp true M) = [] := h
      show (if p.1 = 10 then skp false (shf d M) else skp true (shf d M)) = []
      split
      · rename_i h1; rw [if_pos h1] at h'; exact ih _ h'
      · rename_i h1; rw [if_neg h1] at h'; exact ih _ h'
/-- Where a list that is left out whole leads to. -/
def gone : Bool → RL → Option Bool
  | b, [] => some b
  | false, q :: L => if cls q.1 = 3 then gone false L else if q.1 = 35 then gone true L else none
  | true, q :: L => if q.1 = 10 then gone false L else gone true L
theorem gone_skp (Y : RL) : ∀ (G : RL) (b c : Bool), gone b G = some c → skp b (G ++ Y) = skp c Y := by
  intro G
  induction G with
  | nil => intro b c h; cases b <;> (cases h; rfl)
  | cons p G ih =>
    intro b c h
    cases b with
    | false =>
      have h' : (if cls p.1 = 3 then gone false G else if p.1 = 35 then gone true G else none) = some c := h
      show (if cls p.1 = 3 then skp false (G ++ Y) else if p.1 = 35 then skp true (G ++ Y) else _) = _
      split
      · rename_i h1; rw [if_pos h1] at h'; exact ih _ _ h'
      · rename_i h1
        rw [if_neg h1] at h'
        split
        · rename_i h2; rw [if_pos h2] at h'; exact ih _ _ h'
        · rename_i h2; rw [if_neg h2] at h'; cases h'
    | true =>
      have h' : (if p.1 = 10 then gone false G else gone true G) = some c := h
      show (if p.1 = 10 then skp false (G ++ Y) else skp true (G ++ Y)) = _
      split
      · rename_i h1; rw [if_pos h1] at h'; exact ih _ _ h'
      · rename_i h1; rw [if_neg h1] at h'; exact ih _ _ h'
theorem gap_gone : ∀ g ∈ gaps, (each g).2 = -1 ∧ 0 < g.size ∧ g.size ≤ 11 ∧ gone false (each g).1 = some false := by decide +kernel
theorem each_nl : each ⟨#[10]⟩ = ([(10, 0)], -1) := by decide +kernel
/-- A text s tokens, and those of the text with spaces and comments around it. -/
theorem toks_gap (g s : ByteArray) (l : List Tok) (at' : Int) (hg : g ∈ gaps) (hs : s.size ≤ 400) (h : toks s = (l, at', 0)) :
    ∃ T : List Tok, l = T ++ [⟨4, ⟨#[]⟩, 0, s.size⟩] ∧ (∀ t ∈ T, 0 ≤ t.pos ∧ t.pos ≤ s.size) ∧ toks (g ++ s ++ ⟨#[10]⟩ ++ g) = (T.map (moved g.size) ++ [⟨4, ⟨#[]⟩, 0, (s.size : Int) + 2 * g.size + 1⟩], (s.size : Int) + 2 * g.size + 1, 0) := by
  obtain ⟨hg1, hg0, hg2, hg3⟩ := gap_gone g hg
  have hT : (each s).2 = -1 ∧ (lexT s).2 = none ∧ l = (lexT s).1 ++ [⟨4, ⟨#[]⟩, 0, s.size⟩] := by
    unfold toks at h
    rw [if_pos (by omega)] at h
    rcases hl : (lexT s).2 with _ | i
    · rw [hl] at h
      simp only [] at h
      split at h
      · rename_i he
        exact ⟨he, rfl, (congrArg Prod.fst h).symm⟩
      · have := congrArg (fun x => x.2.2) h
        cases this
    · rw [hl] at h
      have := congrArg (fun x => x.2.2) h
      cases this
  obtain ⟨he, hn, hl⟩ := hT
  refine ⟨(lexT s).1, hl, ?_, ?_⟩
  · rw [toks_ref s _ (Nat.le_refl _)]
    exact ref_within s _ _ _ (each_within s he)
  have hz : (g ++ s ++ ⟨#[10]⟩ ++ g) = g ++ s ++ (⟨#[10]⟩ ++ g) := ByteArray.append_assoc
  rw [hz]
  have e1 := each_cat ⟨#[10]⟩ g (by rw [each_nl]) hg1
  have e2 := each_cat g s hg1 he
  have e3 := each_cat (g ++ s) (⟨#[10]⟩ ++ g) (by rw [e2]) (by rw [e1])
  rw [e2, e1, each_nl] at e3
  have hsz : (g ++ s ++ (⟨#[10]⟩ ++ g)).size = s.size + 2 * g.size + 1 := by
    rw [cat_size, cat_size, cat_size]
    show g.size + s.size + (1 + g.size) = _
    omega
  have hgs : ((g ++ s).size : Int) = (s.size : Int) + g.size := by rw [cat_size]; omega
  have hR : skp false (shf ((g ++ s).size : Int) (shf ((⟨#[10]⟩ : ByteArray).size : Int) (each g).1)) = [] := by
    refine skp_shf _ _ _ (skp_shf _ _ _ ?_)
    have := gone_skp [] (each g).1 false false hg3
    rw [List.append_nil] at this
    exact this
  have hL : (each (g ++ s ++ (⟨#[10]⟩ ++ g))).1 = (each g).1 ++ app g.size ((s.size : Int) + g.size) (shf ((g ++ s).size : Int) (shf ((⟨#[10]⟩ : ByteArray).size : Int) (each g).1)) (each s).1 := by
    rw [e3]
    show ((each g).1 ++ shf (g.size : Int) (each s).1) ++ ((10, 0 + ((g ++ s).size : Int)) :: shf ((g ++ s).size : Int) (shf ((⟨#[10]⟩ : ByteArray).size : Int) (each g).1)) = _
    unfold app
    rw [List.append_assoc, hgs, Int.zero_add]
  have hB : (each (g ++ s ++ (⟨#[10]⟩ ++ g))).2 = -1 := by rw [e3]
  obtain ⟨f, hf⟩ : ∃ f, f = (each (g ++ s ++ (⟨#[10]⟩ ++ g))).1.length := ⟨_, rfl⟩
  have hfl : (each s).1.length + 1 ≤ f := by
    rw [hf, hL]
    unfold app
    simp only [List.length_append, List.length_cons, shf_len]
    omega
  obtain ⟨f, rfl⟩ : ∃ f', f = f' + 1 := ⟨f - 1, by omega⟩
  have r1 := toks_ref s (f + 1) (by omega)
  have r2 := toks_ref (g ++ s ++ (⟨#[10]⟩ ++ g)) (f + 1) (by omega)
  have r3 : lexT s = ((lexT s).1, none) := by rw [← hn]
  rw [r3] at r1
  have hen : endOf s (each s).2 = s.size := by rw [he]; rfl
  rw [hen] at r1
  have hm := app_ref g s (⟨#[10]⟩ ++ g) (endOf (g ++ s ++ (⟨#[10]⟩ ++ g)) (each (g ++ s ++ (⟨#[10]⟩ ++ g))).2) _ hR (f + 1) _ _ (each_within s he) r1.symm
  rw [hL] at r2
  unfold refL at r2 hm
  rw [gone_skp _ _ _ _ hg3] at r2
  rw [hm] at r2
  unfold toks
  rw [if_pos (by omega), r2, hB, if_pos rfl, hsz]
  simp only []
  have hi : (((s.size + 2 * g.size + 1 : Nat) : Int)) = (s.size : Int) + 2 * g.size + 1 := by omega
  rw [hi]
end Go.Proofs.YtpdlnpllhjcejaaDoor
