/- A region that draws its order, whose last operation writes what the region loads. -/
import Derived.Test.YtmmicnjiikiklaaDoorNode
import Derived.Test.YtmmicnjiikiklaaDoorLexA
import Derived.Test.YtmmicnjiikiklaaDoorRows
import Derived.WalkKit
import Derived.WalkLawsBesides
import Derived.WalkSpells
import Derived.ProofKit
import Derived.Outline
import Derived.Deep.QuietTactic
import Derived.BigQuiet
import Derived.Deep.Light
import Derived.Deep.CutBlock
import Derived.Deep.DeepCutAuto
import Derived.Deep.DeepFit
import Derived.Deep.LoopGhost
import Derived.Lib.Hide
import Derived.Lib.OthersKept
import Derived.IntWalk
import Derived.StillTailTactics
import Derived.Deep.RegionHeld3
import Derived.OrdersHeld
namespace Go.Proofs.YtmmicnjiikiklaaDoor
open Go.RowKit
/-! A region that draws its order, whose last operation writes what the region loads: the loads are taken first, as long as all but the last keep what they read. -/
section
variable {P : Program} {ops : Array Oper} {Q : Exit → Act → World → Prop} {C : World → Prop} {L : Nat}
/-- Whatever comes up: behind each operation but the last the condition holds. -/
def AnyG (P : Program) (ops : Array Oper) (Q : Exit → Act → World → Prop) (L : Nat) (C : World → Prop) : Nat → Array Bool → Act → World → Prop
  | 0, listed, a, w => Region.ready .any ops listed = [] ∧ Q .normal a w
  | f + 1, listed, a, w => (Region.ready .any ops listed = [] → Q .normal a w) ∧
      ∀ i ∈ Region.ready .any ops listed, wpOp P ops Q i (fun a' w' => (i ≠ L → C w') ∧ AnyG P ops Q L C f (listed.setIfInBounds i true) a' w') a w
theorem AnyG.any : ∀ (f : Nat) (listed : Array Bool) (a : Act) (w : World), AnyG P ops Q L C f listed a w → wpAny P .any ops Q f listed a w
  | 0, _, _, _, h => h
  | f + 1, _, _, _, h => ⟨h.1, fun i hi => wpOp_mono (fun _ _ hk => AnyG.any f _ _ _ hk.2) (h.2 i hi)⟩
theorem AnyG.first {i : Nat} {oi : Oper} {v : Value} (hi : ops[i]? = some oi) (hsel : Region.noSelect ops = true) (hQ : ∀ c a w, Q (.panic c) (a.put oi.dst v) w → Q (.panic c) a w) (hL : Region.waitsFor .any ops L i = true) :
    ∀ (f : Nat) (listed : Array Bool) (a : Act) (w : World), (∀ j oj, ops[j]? = some oj → j ≠ i → listed.getD j true = false → (∀ e ∈ oj.after, Region.binds .any e = true → e.on ≠ i) → oi.apart ops oj = true) →
      i ∈ Region.ready .any ops listed → YieldsIf P ops C oi v a → C w → AnyG P ops Q L C f (listed.setIfInBounds i true) (a.put oi.dst v) w → AnyG P ops Q L C (f + 1) listed a w := by
  intro f
  induction f with
  | zero =>
    intro listed a w _ hr hy hC H
    refine ⟨fun h => (by rw [h] at hr; cases hr), fun j hj => ?_⟩
    by_cases hji : j = i
    · subst hji
      exact hy.wpOp hi hC ⟨fun _ => hC, H⟩
    · have hm := ready_mono hj hji
      rw [H.1] at hm
      cases hm
  | succ f ih =>
    intro listed a w hfree hr hy hC H
    refine ⟨fun h => (by rw [h] at hr; cases hr), fun j hj => ?_⟩
    by_cases hji : j = i
    · subst hji
      exact hy.wpOp hi hC ⟨fun _ => hC, H⟩
    have h1 := H.2 j (ready_mono hj hji)
    obtain ⟨hjun, oj, hoj, hall⟩ := mem_ready.1 hj
    have hiun := (mem_ready.1 hr).1
    have hnot : ∀ e ∈ oj.after, Region.binds .any e = true → e.on ≠ i := by
      intro e he hb heq
      have hx := hall e he hb
      rw [heq, getD_both hiun] at hx
      cases hx
    have hjL : j ≠ L := by
      rintro rfl
      obtain ⟨o', ho', e, he, hb, hon⟩ := Region.waitsFor_spec hL
      have hoo : o' = oj := Option.some.inj (ho'.symm.trans hoj)
      subst hoo
      exact hnot e he hb hon
    have h2 := wpOp_putIf hoj (hfree j oj hoj hji hjun hnot) (fun cs b => Region.noSelect_spec hsel i oi cs b hi) (fun cs b => Region.noSelect_spec hsel j oj cs b hoj) hQ hy h1
    have hfree' : ∀ k ok, ops[k]? = some ok → k ≠ i → (listed.setIfInBounds j true).getD k true = false → (∀ e ∈ ok.after, Region.binds .any e = true → e.on ≠ i) → oi.apart ops ok = true := by
      intro k ok hk hki hun hno
      refine hfree k ok hk hki ?_ hno
      by_cases hjk : j = k
      · subst hjk; exact hjun
      · rw [getD_set_ne true hjk] at hun; exact hun
    refine wpOp_mono (fun a' w' h3 => ?_) h2
    obtain ⟨hy', hC', hG'⟩ := h3
    refine ⟨hC', ih (listed.setIfInBounds j true) a' w' hfree' (ready_mono hr (Ne.symm hji)) hy' (hC' hjL) ?_⟩
    rw [Array.setIfInBounds_comm _ _ hji]
    exact hG'
/-- What the first operations yield, one behind the other. -/
def headsC (P : Program) (ops : Array Oper) (C : World → Prop) (K : Act → Prop) : List Oper → Act → Prop
  | [], a => K a
  | o :: r, a => ∃ v, YieldsIf P ops C o v a ∧ headsC P ops C K r (a.put o.dst v)
/-- The exits of an operation behind which the condition is asked for. -/
def thenC (C : World → Prop) (more : Bool) (R : Act → World → Prop) (Q : Exit → Act → World → Prop) : Exit → Act → World → Prop
  | .normal, a, w => (more = true → C w) ∧ R a w
  | e, a, w => Q e a w
/-- The last operations, one behind the other. -/
def tailC (P : Program) (ops : Array Oper) (Q : Exit → Act → World → Prop) (C : World → Prop) : List Oper → Act → World → Prop
  | [], a, w => Q .normal a w
  | o :: r, a, w => wpList P ops (thenC C (!r.isEmpty) (tailC P ops Q C r) Q) [o] a w
theorem wpOp_thenC {i : Nat} {more : Bool} {R K : Act → World → Prop} {a : Act} {w : World} (h : wpOp P ops (thenC C more R Q) i K a w) : wpOp P ops Q i K a w := by
  unfold wpOp at *
  split at h
  · exact h
  · rename_i o ho
    split
    · rename_i hw
      simp only [hw, if_true] at h
      rcases h with h | ⟨h1, a', w', h2⟩
      · refine .inl ?_
        unfold Oper.wp at *
        generalize (execOp a.eval o).run P w = r at *
        cases r with
        | ok n w' =>
          cases n <;> simp only [Oper.upon] at h ⊢
          case value u => exact h
          case skip => exact h
          case defer d => exact h
          case enter f args =>
            refine Calls.mono h fun e w'' he => ?_
            cases e with
            | returned u => exact he
            | panicked c => exact he
            | outgrown => obtain ⟨a', w', h2⟩ := he; exact ⟨a', w', h2⟩
          case row row args => exact h
        | halt x w' =>
          cases x <;> simp only [Oper.upon] at h ⊢
          case panic u => exact h
      · exact .inr ⟨h1, a', w', h2⟩
    · rename_i hw
      simp only [hw] at h
      exact h
theorem anyG_tail : ∀ (l : List Oper) (k : Nat) (listed : Array Bool) (a : Act) (w : World), (∀ j, l[j]? = ops[k + j]?) → k + l.length = L + 1 → Region.seqB .any ops l.length k listed = true → tailC P ops Q C l a w → AnyG P ops Q L C l.length listed a w
  | [], _, _, _, _, _, _, hB, h => ⟨by simpa [Region.seqB] using hB, h⟩
  | o :: l, k, listed, a, w, hl, hL, hB, h => by
    have h0 : ops[k]? = some o := by simpa using (hl 0).symm
    simp only [List.length_cons, Region.seqB, Bool.and_eq_true, decide_eq_true_eq] at hB
    refine ⟨fun h1 => (by rw [hB.1] at h1; cases h1), fun i hi => ?_⟩
    rw [hB.1] at hi
    have hik : i = k := by simpa using hi
    subst hik
    have hw : wpOp P ops (thenC C (!l.isEmpty) (tailC P ops Q C l) Q) i (wpList P ops (thenC C (!l.isEmpty) (tailC P ops Q C l) Q) []) a w := by
      unfold wpOp
      simp only [h0]
      exact h
    refine wpOp_mono (fun a' w' hk => ?_) (wpOp_thenC hw)
    obtain ⟨hC, hR⟩ : (((!l.isEmpty) = true → C w') ∧ tailC P ops Q C l a' w') := hk
    refine ⟨fun hne => hC ?_, anyG_tail l (i + 1) _ a' w' (fun j => by have := hl (j + 1); simpa [Nat.add_assoc, Nat.add_comm 1 j] using this) (by simp only [List.length_cons] at hL; omega) hB.2 hR⟩
    cases l with
    | nil => simp only [List.length_cons, List.length_nil] at hL; omega
    | cons _ _ => rfl
/-- Which regions: the first n may each come first, the others wait for one another, and the last one waits for the first. -/
def lastB (ops : Array Oper) (n : Nat) : Bool :=
  Region.noSelect ops && decide (n < ops.size) && ((List.range n).all fun i => Region.waitsFor .any ops (ops.size - 1) i) && Region.lexHead .any ops (ops.size - n) n 0 (Array.replicate ops.size false)
theorem anyG_heads {n : Nat} {w : World} (hsel : Region.noSelect ops = true) (hn : n < ops.size) (hQ : ∀ c a b w, Q (.panic c) a w → Q (.panic c) b w) (hwait : ∀ i, i < n → Region.waitsFor .any ops L i = true) (hC : C w) (hL : L + 1 = ops.size) {t : List Oper} (ht : ∀ j, t[j]? = ops[n + j]?) (htl : n + t.length = ops.size) :
    ∀ (l : List Oper) (k : Nat) (listed : Array Bool) (a : Act), (∀ j, j < l.length → l[j]? = ops[k + j]?) → k + l.length = n → Region.lexHead .any ops t.length l.length k listed = true →
      headsC P ops C (fun a' => tailC P ops Q C t a' w) l a → AnyG P ops Q L C (l.length + t.length) listed a w
  | [], k, listed, a, _, hk, hB, h => by
    have hkn : k = n := by simpa using hk
    subst hkn
    rw [List.length_nil, Nat.zero_add]
    exact anyG_tail t k listed a w ht (by omega) (by simpa [Region.lexHead] using hB) h
  | o :: l, k, listed, a, hl, hk, hB, h => by
    have h0 : ops[k]? = some o := by simpa using (hl 0 (by simp)).symm
    simp only [List.length_cons, Region.lexHead, Bool.and_eq_true] at hB
    obtain ⟨⟨hr, hf⟩, hB'⟩ := hB
    have hkn : k < n := by simp only [List.length_cons] at hk; omega
    obtain ⟨v, hy, hrest⟩ := h
    rw [List.length_cons, show l.length + 1 + t.length = l.length + t.length + 1 by omega]
    exact AnyG.first h0 hsel (fun c a w hq => hQ c _ _ w hq) (hwait k hkn) _ listed a w (Region.free_spec h0 hf) (by simpa using hr) hy hC
      (anyG_heads hsel hn hQ hwait hC hL ht htl l (k + 1) _ _ (fun j hj => by have := hl (j + 1) (by simp; omega); simpa [Nat.add_assoc, Nat.add_comm 1 j] using this) (by simp only [List.length_cons] at hk; omega) hB' hrest)
theorem wp_region_last {id : Nat} {a : Act} {w : World} {l : List Oper} (n : Nat) (C : World → Prop) (hm : P.follows .mixedOrders = true) (hB : lastB l.toArray n = true) (hC : C w.drew)
    (h : headsC P l.toArray C (fun a' => tailC P l.toArray (NoPanic Q) C (l.drop n) a' w.drew) (l.take n) a) : (Code.region id l.toArray true).wp P Q a w := by
  simp only [lastB, Bool.and_eq_true, decide_eq_true_eq] at hB
  obtain ⟨⟨⟨hsel, hn⟩, hw⟩, hlex⟩ := hB
  have hn' : n < l.length := by simpa using hn
  have htl : (l.take n).length = n := by simp; omega
  have hdl : (l.drop n).length = l.toArray.size - n := by simp
  refine wp_region_noPanic (wp_region_any hm ?_)
  have H := anyG_heads (L := l.toArray.size - 1) hsel hn (fun c a b w hq => hq.elim) (fun i hi => List.all_eq_true.1 hw i (List.mem_range.2 hi)) hC (by omega) (t := l.drop n) (fun j => by simp [List.getElem?_drop]) (by rw [hdl]; omega)
    (l.take n) 0 (Array.replicate l.toArray.size false) a (fun j hj => by
      have hj' : j < n := by rw [htl] at hj; exact hj
      simp [hj']) (by simpa using htl) (by rw [htl, hdl]; exact hlex) h
  rw [htl, hdl, show n + (l.toArray.size - n) = l.toArray.size by omega] at H
  exact H.any
end
section
variable {P : Program} {ops : Array Oper} {C : World → Prop} {K : Act → Prop} {r : List Oper} {a : Act}
theorem headsC_move (o : Oper) (x : Operand) (ho : o.op = .move x) (hg : o.guard = none) (h : headsC P ops C K r (a.put o.dst (a.eval x))) : headsC P ops C K (o :: r) a := by
  refine ⟨a.eval x, .inl ⟨by simp [Region.wanted, hg], fun w _ => ?_⟩, h⟩
  unfold execOp
  simp [ho]
theorem headsC_load (o : Oper) (ty : TypeId) (x : Operand) (ho : o.op = .load ty x) (hg : o.guard = none) (g : Nat) (hx : a.eval x = .pointer (some ⟨g, 0, none⟩)) (t : TypeId) (cs : Array Value) (fr : Nat × Nat) (d : TypeDesc) (hC : ∀ w, C w → w.heap[g]? = some (.cells cs t fr))
    (hu : P.underlying ty = some d) (hd : (match d with | .struct _ | .array _ _ => true | _ => false) = true) (hi : (P.info? ty).map (·.size) = some cs.size) (h : headsC P ops C K r (a.put o.dst (.agg cs))) : headsC P ops C K (o :: r) a := by
  refine ⟨.agg cs, .inl ⟨by simp [Region.wanted, hg], fun w hw => ?_⟩, h⟩
  unfold execOp
  simp only [ho, hx, Instr.loadAt, Instr.sureAddr, Sem.run_bind, Sem.run_pure, Result.andThen_ok, run_loadVar_row w g t ty cs fr d (hC w hw) hu hd hi]
theorem headsC_nil (h : K a) : headsC P ops C K [] a := h
end
end Go.Proofs.YtmmicnjiikiklaaDoor
