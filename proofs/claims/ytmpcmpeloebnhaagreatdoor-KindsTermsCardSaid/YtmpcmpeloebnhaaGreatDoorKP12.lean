/- Parts of the proof: RLast RpG. -/
import Derived.Test.YtmpcmpeloebnhaaGreatDoorKP00
import Derived.Test.YtmpcmpeloebnhaaGreatDoorRows
import Derived.Test.YtmpcmpeloebnhaaGreatDoorKP11
import Derived.WalkKit
import Derived.WalkLawsBesides
import Derived.WalkSpells
import Derived.ProofKit
import Derived.Outline
import Derived.Deep.QuietTactic
import Derived.BigQuiet
import Derived.Deep.Light
import Derived.Deep.CutBlock
import Derived.Deep.DeepCutAuto
import Derived.Deep.DeepFit
import Derived.Deep.LoopGhost
import Derived.Lib.Hide
import Derived.Lib.OthersKept
import Derived.IntWalk
import Derived.StillTailTactics
import Derived.Deep.RegionHeld3
import Derived.OrdersHeld
namespace Go.Proofs.YtmpcmpeloebnhaaGreatDoor
open Go.RowKit
section
variable {P : Program} {ops : Array Oper} {Q : Exit → Act → World → Prop} {C : World → Prop} {L : Nat}
def AnyG (P : Program) (ops : Array Oper) (Q : Exit → Act → World → Prop) (L : Nat) (C : World → Prop) : Nat → Array Bool → Act → World → Prop
 | 0, listed, a, w => Region.ready .any ops listed = [] ∧ Q .normal a w
 | f + 1, listed, a, w => (Region.ready .any ops listed = [] → Q .normal a w) ∧
   ∀ i ∈ Region.ready .any ops listed, wpOp P ops Q i (fun a' w' => (i ≠ L → C w') ∧ AnyG P ops Q L C f (listed.setIfInBounds i true) a' w') a w
theorem AnyG.any : ∀ (f : Nat) (listed : Array Bool) (a : Act) (w : World), AnyG P ops Q L C f listed a w → wpAny P .any ops Q f listed a w
 | 0, _, _, _, h => h
 | f + 1, _, _, _, h => ⟨h.1, fun i hi => wpOp_mono (fun _ _ hk => AnyG.any f _ _ _ hk.2) (h.2 i hi)⟩
theorem AnyG.first {i : Nat} {oi : Oper} {v : Value} (hi : ops[i]? = some oi) (hsel : Region.noSelect ops = true) (hQ : ∀ c a w, Q (.panic c) (a.put oi.dst v) w → Q (.panic c) a w) (hL : Region.waitsFor .any ops L i = true) :
  ∀ (f : Nat) (listed : Array Bool) (a : Act) (w : World), (∀ j oj, ops[j]? = some oj → j ≠ i → listed.getD j true = false → (∀ e ∈ oj.after, Region.binds .any e = true → e.on ≠ i) → oi.apart ops oj = true) →
   i ∈ Region.ready .any ops listed → YieldsIf P ops C oi v a → C w → AnyG P ops Q L C f (listed.setIfInBounds i true) (a.put oi.dst v) w → AnyG P ops Q L C (f + 1) listed a w := by
 intro f
 induction f with
 | zero =>
  intro listed a w _ hr hy hC H
  refine ⟨fun h => (by rw [h] at hr; cases hr), fun j hj => ?_⟩
  by_cases hji : j = i
  · subst hji
   exact hy.wpOp hi hC ⟨fun _ => hC, H⟩
  · have hm := ready_mono hj hji
   rw [H.1] at hm
   cases hm
 | succ f ih =>
  intro listed a w hfree hr hy hC H
  refine ⟨fun h => (by rw [h] at hr; cases hr), fun j hj => ?_⟩
  by_cases hji : j = i
  · subst hji
   exact hy.wpOp hi hC ⟨fun _ => hC, H⟩
  have h1 := H.2 j (ready_mono hj hji)
  obtain ⟨hjun, oj, hoj, hall⟩ := mem_ready.1 hj
  have hiun := (mem_ready.1 hr).1
  have hnot : ∀ e ∈ oj.after, Region.binds .any e = true → e.on ≠ i := by
   intro e he hb heq
   have hx := hall e he hb
   rw [heq, getD_both hiun] at hx
   cases hx
  have hjL : j ≠ L := by
   rintro rfl
   obtain ⟨o', ho', e, he, hb, hon⟩ := Region.waitsFor_spec hL
   have hoo : o' = oj := Option.some.inj (ho'.symm.trans hoj)
   subst hoo
   exact hnot e he hb hon
  have h2 := wpOp_putIf hoj (hfree j oj hoj hji hjun hnot) (fun cs b => Region.noSelect_spec hsel i oi cs b hi) (fun cs b => Region.noSelect_spec hsel j oj cs b hoj) hQ hy h1
  have hfree' : ∀ k ok, ops[k]? = some ok → k ≠ i → (listed.setIfInBounds j true).getD k true = false → (∀ e ∈ ok.after, Region.binds .any e = true → e.on ≠ i) → oi.apart ops ok = true := by
   intro k ok hk hki hun hno
   refine hfree k ok hk hki ?_ hno
   by_cases hjk : j = k
   · subst hjk; exact hjun
   · rw [getD_set_ne true hjk] at hun; exact hun
  refine wpOp_mono (fun a' w' h3 => ?_) h2
  obtain ⟨hy', hC', hG'⟩ := h3
  refine ⟨hC', ih (listed.setIfInBounds j true) a' w' hfree' (ready_mono hr (Ne.symm hji)) hy' (hC' hjL) ?_⟩
  rw [Array.setIfInBounds_comm _ _ hji]
  exact hG'
def headsC (P : Program) (ops : Array Oper) (C : World → Prop) (K : Act → Prop) : List Oper → Act → Prop
 | [], a => K a
 | o :: r, a => ∃ v, YieldsIf P ops C o v a ∧ headsC P ops C K r (a.put o.dst v)
def thenC (C : World → Prop) (more : Bool) (R : Act → World → Prop) (Q : Exit → Act → World → Prop) : Exit → Act → World → Prop
 | .normal, a, w => (more = true → C w) ∧ R a w
 | e, a, w => Q e a w
def tailC (P : Program) (ops : Array Oper) (Q : Exit → Act → World → Prop) (C : World → Prop) : List Oper → Act → World → Prop
 | [], a, w => Q .normal a w
 | o :: r, a, w => wpList P ops (thenC C (!r.isEmpty) (tailC P ops Q C r) Q) [o] a w
theorem wpOp_thenC {i : Nat} {more : Bool} {R K : Act → World → Prop} {a : Act} {w : World} (h : wpOp P ops (thenC C more R Q) i K a w) : wpOp P ops Q i K a w := by
 unfold wpOp at *
 split at h
 · exact h
 · rename_i o ho
  split
  · rename_i hw
   simp only [hw, if_true] at h
   rcases h with h | ⟨h1, a', w', h2⟩
   · refine .inl ?_
    unfold Oper.wp at *
    generalize (execOp a.eval o).run P w = r at *
    cases r with
    | ok n w' =>
     cases n <;> simp only [Oper.upon] at h ⊢
     case value u => exact h
     case skip => exact h
     case defer d => exact h
     case enter f args =>
      refine Calls.mono h fun e w'' he => ?_
      cases e with
      | returned u => exact he
      | panicked c => exact he
      | outgrown => obtain ⟨a', w', h2⟩ := he; exact ⟨a', w', h2⟩
     case row row args => exact h
    | halt x w' =>
     cases x <;> simp only [Oper.upon] at h ⊢
     case panic u => exact h
   · exact .inr ⟨h1, a', w', h2⟩
  · rename_i hw
   simp only [hw] at h
   exact h
theorem anyG_tail : ∀ (l : List Oper) (k : Nat) (listed : Array Bool) (a : Act) (w : World), (∀ j, l[j]? = ops[k + j]?) → k + l.length = L + 1 → Region.seqB .any ops l.length k listed = true → tailC P ops Q C l a w → AnyG P ops Q L C l.length listed a w
 | [], _, _, _, _, _, _, hB, h => ⟨by simpa [Region.seqB] using hB, h⟩
 | o :: l, k, listed, a, w, hl, hL, hB, h => by
  have h0 : ops[k]? = some o := by simpa using (hl 0).symm
  simp only [List.length_cons, Region.seqB, Bool.and_eq_true, decide_eq_true_eq] at hB
  refine ⟨fun h1 => (by rw [hB.1] at h1; cases h1), fun i hi => ?_⟩
  rw [hB.1] at hi
  have hik : i = k := by simpa using hi
  subst hik
  have hw : wpOp P ops (thenC C (!l.isEmpty) (tailC P ops Q C l) Q) i (wpList P ops (thenC C (!l.isEmpty) (tailC P ops Q C l) Q) []) a w := by
   unfold wpOp
   simp only [h0]
   exact h
  refine wpOp_mono (fun a' w' hk => ?_) (wpOp_thenC hw)
  obtain ⟨hC, hR⟩ : (((!l.isEmpty) = true → C w') ∧ tailC P ops Q C l a' w') := hk
  refine ⟨fun hne => hC ?_, anyG_tail l (i + 1) _ a' w' (fun j => by have := hl (j + 1); simpa [Nat.add_assoc, Nat.add_comm 1 j] using this) (by simp only [List.length_cons] at hL; omega) hB.2 hR⟩
  cases l with
  | nil => simp only [List.length_cons, List.length_nil] at hL; omega
  | cons _ _ => rfl
def lastB (ops : Array Oper) (n : Nat) : Bool :=
 Region.noSelect ops && decide (n < ops.size) && ((List.range n).all fun i => Region.waitsFor .any ops (ops.size - 1) i) && Region.lexHead .any ops (ops.size - n) n 0 (Array.replicate ops.size false)
theorem anyG_heads {n : Nat} {w : World} (hsel : Region.noSelect ops = true) (hn : n < ops.size) (hQ : ∀ c a b w, Q (.panic c) a w → Q (.panic c) b w) (hwait : ∀ i, i < n → Region.waitsFor .any ops L i = true) (hC : C w) (hL : L + 1 = ops.size) {t : List Oper} (ht : ∀ j, t[j]? = ops[n + j]?) (htl : n + t.length = ops.size) :
  ∀ (l : List Oper) (k : Nat) (listed : Array Bool) (a : Act), (∀ j, j < l.length → l[j]? = ops[k + j]?) → k + l.length = n → Region.lexHead .any ops t.length l.length k listed = true →
   headsC P ops C (fun a' => tailC P ops Q C t a' w) l a → AnyG P ops Q L C (l.length + t.length) listed a w
 | [], k, listed, a, _, hk, hB, h => by
  have hkn : k = n := by simpa using hk
  subst hkn
  rw [List.length_nil, Nat.zero_add]
  exact anyG_tail t k listed a w ht (by omega) (by simpa [Region.lexHead] using hB) h
 | o :: l, k, listed, a, hl, hk, hB, h => by
  have h0 : ops[k]? = some o := by simpa using (hl 0 (by simp)).symm
  simp only [List.length_cons, Region.lexHead, Bool.and_eq_true] at hB
  obtain ⟨⟨hr, hf⟩, hB'⟩ := hB
  have hkn : k < n := by simp only [List.length_cons] at hk; omega
  obtain ⟨v, hy, hrest⟩ := h
  rw [List.length_cons, show l.length + 1 + t.length = l.length + t.length + 1 by omega]
  exact AnyG.first h0 hsel (fun c a w hq => hQ c _ _ w hq) (hwait k hkn) _ listed a w (Region.free_spec h0 hf) (by simpa using hr) hy hC
   (anyG_heads hsel hn hQ hwait hC hL ht htl l (k + 1) _ _ (fun j hj => by have := hl (j + 1) (by simp; omega); simpa [Nat.add_assoc, Nat.add_comm 1 j] using this) (by simp only [List.length_cons] at hk; omega) hB' hrest)
theorem wp_region_last {id : Nat} {a : Act} {w : World} {l : List Oper} (n : Nat) (C : World → Prop) (hm : P.follows .mixedOrders = true) (hB : lastB l.toArray n = true) (hC : C w.drew)
  (h : headsC P l.toArray C (fun a' => tailC P l.toArray (NoPanic Q) C (l.drop n) a' w.drew) (l.take n) a) : (Code.region id l.toArray true).wp P Q a w := by
 simp only [lastB, Bool.and_eq_true, decide_eq_true_eq] at hB
 obtain ⟨⟨⟨hsel, hn⟩, hw⟩, hlex⟩ := hB
 have hn' : n < l.length := by simpa using hn
 have htl : (l.take n).length = n := by simp; omega
 have hdl : (l.drop n).length = l.toArray.size - n := by simp
 refine wp_region_noPanic (wp_region_any hm ?_)
 have H := anyG_heads (L := l.toArray.size - 1) hsel hn (fun c a b w hq => hq.elim) (fun i hi => List.all_eq_true.1 hw i (List.mem_range.2 hi)) hC (by omega) (t := l.drop n) (fun j => by simp [List.getElem?_drop]) (by rw [hdl]; omega)
  (l.take n) 0 (Array.replicate l.toArray.size false) a (fun j hj => by
   have hj' : j < n := by rw [htl] at hj; exact hj
   simp [hj']) (by simpa using htl) (by rw [htl, hdl]; exact hlex) h
 rw [htl, hdl, show n + (l.toArray.size - n) = l.toArray.size by omega] at H
 exact H.any
end
section
variable {P : Program} {ops : Array Oper} {C : World → Prop} {K : Act → Prop} {r : List Oper} {a : Act}
theorem headsC_move (o : Oper) (x : Operand) (ho : o.op = .move x) (hg : o.guard = none) (h : headsC P ops C K r (a.put o.dst (a.eval x))) : headsC P ops C K (o :: r) a := by
 refine ⟨a.eval x, .inl ⟨by simp [Region.wanted, hg], fun w _ => ?_⟩, h⟩
 unfold execOp
 simp [ho]
theorem headsC_load (o : Oper) (ty : TypeId) (x : Operand) (ho : o.op = .load ty x) (hg : o.guard = none) (g : Nat) (hx : a.eval x = .pointer (some ⟨g, 0, none⟩)) (t : TypeId) (cs : Array Value) (fr : Nat × Nat) (d : TypeDesc) (hC : ∀ w, C w → w.heap[g]? = some (.cells cs t fr))
  (hu : P.underlying ty = some d) (hd : (match d with | .struct _ | .array _ _ => true | _ => false) = true) (hi : (P.info? ty).map (·.size) = some cs.size) (h : headsC P ops C K r (a.put o.dst (.agg cs))) : headsC P ops C K (o :: r) a := by
 refine ⟨.agg cs, .inl ⟨by simp [Region.wanted, hg], fun w hw => ?_⟩, h⟩
 unfold execOp
 simp only [ho, hx, Instr.loadAt, Instr.sureAddr, Sem.run_bind, Sem.run_pure, Result.andThen_ok, run_loadVar_row w g t ty cs fr d (hC w hw) hu hd hi]
theorem headsC_val (o : Oper) (v : Value) (hg : o.guard = none) (hv : ∀ w, C w → (execOp a.eval o).run P w = .ok (.value v) w) (h : headsC P ops C K r (a.put o.dst v)) : headsC P ops C K (o :: r) a :=
 ⟨v, .inl ⟨by simp [Region.wanted, hg], hv⟩, h⟩
theorem headsC_nil (h : K a) : headsC P ops C K [] a := h
end
end Go.Proofs.YtmpcmpeloebnhaaGreatDoor
namespace Go.Proofs.YtmpcmpeloebnhaaGreatDoor
open Go.RowKit
def SayR (F need : Nat) (p : Nat → Nat → List Tok → Res Nd) (f : Nat) : Prop :=
 ∀ (l : List Tok) (w : World) (B d : Nat), need + 20 * l.length ≤ f → PrS w B (.good l) → Calls Tryz.prog F #[.pointer (some ⟨B, 0, none⟩), .int .i64 d] w (PostR B w (p f d l))
theorem psg_0 (x : ByteArray) : psg 0 x = if (x.toList == (⟨#[60, 61, 62]⟩ : ByteArray).toList) = true then ⟨#[105, 102, 102]⟩ else ⟨#[]⟩ := by
 rw [BEq.comm (a := x.toList)]; rfl
theorem psg_1 (x : ByteArray) : psg 1 x = if (x.toList == (⟨#[61, 62]⟩ : ByteArray).toList) = true then ⟨#[105, 109, 112]⟩ else ⟨#[]⟩ := by
 rw [BEq.comm (a := x.toList)]; rfl
theorem psg_2 (x : ByteArray) : psg 2 x = if (x.toList == (⟨#[124]⟩ : ByteArray).toList) = true then ⟨#[111, 114]⟩ else ⟨#[]⟩ := by
 rw [BEq.comm (a := x.toList)]; rfl
theorem psg_3 (x : ByteArray) : psg 3 x = if (x.toList == (⟨#[38]⟩ : ByteArray).toList) = true then ⟨#[97, 110, 100]⟩ else ⟨#[]⟩ := by
 rw [BEq.comm (a := x.toList)]; rfl
set_option maxRecDepth 100000 in
set_option maxHeartbeats 16000000 in
theorem rand_of (f : Nat) (ih : ∀ g, g ≤ f → SayR 152 3 pUn g) (s : St) (rk r : Res Nd) (w : World) (B d : Nat) (hS : PrS w B s)
  (hk : ∀ W, PrS W B s → Calls Tryz.prog 152 #[.pointer (some ⟨B, 0, none⟩), .int .i64 d] W (PostR B W rk))
  (hr : ∀ t l', rk = .ok t l' → r = pAndL f d t l' ∧ 3 + 20 * l'.length ≤ f) (hb : ∀ a e, rk = .bad a e → r = .bad a e) :
  Calls Tryz.prog 143 #[.pointer (some ⟨B, 0, none⟩), .int .i64 d] w (PostR B w r) := by
 have hc5 := cellsNode
 have hc4 := cellsTok
 have q3 := tok_f3
 have hB := hS.lt
 have HC := Lib.hid (hk (w.alloc (boxOf ⟨#[]⟩ ⟨#[]⟩ 0 0 none 0 0)) (hS.alloc _))
 have HR := Lib.hid hr
 have HBD := Lib.hid hb
 have HIH := Lib.hid ih
 clear hk hr hb hS ih
 go_enter Tryz.func143, Tryz.ntmps143
 go_wp2_with fail
 refine HC.out.mono ?_
 rintro e w1 ⟨T, rfl, hk1, ho1⟩
 have hz1 := hk1.size
 simp only [alloc_size] at hz1
 have HK1 := Lib.hid (Kp.trans ((Kp.refl B w).alloc _) hk1)
 have HB1 := Lib.hid (hk1.blk (new_at w _) (by omega))
 have HO1 := Lib.hid ho1
 clear hk1 ho1 HC
 go_wp2_with fail
 have HN1 := Lib.hid (new_at w1 (boxOf T.op T.name T.n T.pos T.a T.kids.len T.cap))
 go_loopg [] f (fun gf wx => ∃ (X : Nd), RowKit.Hid (wx.heap[w1.heap.size]? = some (boxOf X.op X.name X.n X.pos X.a X.kids.len X.cap)) ∧ RowKit.Hid (wx.heap[w.heap.size]? = some (boxOf ⟨#[]⟩ ⟨#[]⟩ 0 0 none 0 0)) ∧ RowKit.Hid (Kp B w wx) ∧
   ((∃ l, PrS wx B (.good l) ∧ (3 + 20 * l.length ≤ gf ∧ gf ≤ f) ∧ X.Good (fun b => w.heap.size + 1 ≤ b ∧ b ≠ w1.heap.size) wx ∧ RowKit.Hid (r = pAndL gf d X.strip l)) ∨ (∃ a e, PrS wx B (.bad a e) ∧ r = .bad a e)))
 case atStart =>
  refine ⟨T, HN1, Lib.hid ((Below.heap_alloc _ _ _ (by omega)).trans HB1.out), Lib.hid (HK1.out.alloc _), ?_⟩
  have ho := HO1.out
  cases rk with
  | ok t l' =>
   obtain ⟨h1, h2, h3⟩ := ho
   obtain ⟨r1, r3⟩ := HR.out t l' rfl
   refine .inl ⟨l', h1.alloc _, ⟨r3, Nat.le_refl _⟩, (h2.lt.from (From.alloc _ _ _)).mono (fun b hb => ?_), Lib.hid (by rw [h3]; exact r1)⟩
   have h4 := hb.1
   have h5 := hb.2
   (try simp only [alloc_size] at h4)
   exact ⟨by omega, by omega⟩
  | bad a e =>
   have ho : PrS w1 B (.bad a e) := ho
   exact .inr ⟨a, e, ho.alloc _, HBD.out a e rfl⟩
 case round =>
  clear HO1 HN1 HB1 HK1 HR HBD
  obtain ⟨X, HN, HB0, HK, hor⟩ := hrel
  rcases hor with ⟨l, hrd, ⟨hneed, hgf⟩, hgood, HE⟩ | ⟨a, e, hrd, hre⟩
  · obtain ⟨g', rfl⟩ : ∃ g', gk = g' + 1 := ⟨gk - 1, by omega⟩
   have HRD := Lib.hid hrd
   have HG := Lib.hid hgood
   clear hrd hgood
   by_cases hw : ((wrd l).toList == (⟨#[38]⟩ : ByteArray).toList) = true
   · have hop : psg 3 (wrd l) = ⟨#[97, 110, 100]⟩ := by rw [psg_3, if_pos hw]
    have hopn : ¬ ((psg 3 (wrd l)).toList == []) = true := by rw [hop]; decide +kernel
    have hkd := word_kind hw (by decide +kernel)
    have hne := ne_of_psg (by simpa using hopn)
    obtain ⟨rk', hq⟩ : ∃ rk', pUn g' d l.tail = rk' := ⟨_, rfl⟩
    have HOK : RowKit.Hid (∀ k l', rk' = .ok k l' → r = pAndL g' d (mkN ⟨#[97, 110, 100]⟩ emp0 0 (hd l).pos [X.strip, k]) l') := Lib.hid (fun k l' h => by rw [HE.out]; conv => { lhs; unfold pAndL }; rw [if_neg hopn, hq, h, hop])
    have HBAD : RowKit.Hid (∀ a e, rk' = .bad a e → r = .bad a e) := Lib.hid (fun a e h => by rw [HE.out]; unfold pAndL; rw [if_neg hopn, hq, h])
    have HSUF : RowKit.Hid (∀ k l', rk' = .ok k l' → Suf l' l) := Lib.hid (fun k l' h => ((suf_forms g').1 _ _ _ _ (hq.trans h)).trans (Suf.tail hne).e)
    have HKID := Lib.hid (fun W (hr : PrS W B (.good l.tail)) => HIH.out g' (by omega) l.tail W B d (by have := (Suf.tail hne).len; omega) hr)
    simp only [hq] at HKID
    have HCS := Lib.hid (ris_yes l ⟨#[38]⟩ wr B (by decide +kernel) hw HRD.out)
    have HTK := Lib.hid (fun W (hr : PrS W B (.good l)) => rnext_g l W B hkd hr)
    clear hw hop hopn hkd HE hq hne
    generalize hd l = tk at HTK HOK
    go_wp2_with fail
    refine HCS.out.mono ?_
    rintro x w2 ⟨rfl, hb2⟩
    have HC3 := Lib.hid (HTK.out w2 (HRD.out.below hb2))
    have HN2 := Lib.hid ((hb2.block _ (lt_heap HN.out)).trans HN.out)
    have HB2 := Lib.hid ((hb2.block _ (lt_heap HB0.out)).trans HB0.out)
    have HK2 := Lib.hid (HK.out.below hb2)
    have HG2 := Lib.hid (HG.out.from (From.below hb2))
    clear HCS hb2
    go_wp2_with fail
    refine HC3.out.mono ?_
    rintro x w3 ⟨rfl, hk3, hr3⟩
    have HN3' := Lib.hid (hk3.blk HN2.out (by omega))
    have hz3' := lt_heap HN3'.out
    have HN3 := Lib.hid ((Below.heap_alloc _ (tokBox tk.kind tk.text tk.n tk.pos) _ (lt_heap HN3'.out)).trans HN3'.out)
    have HB3' := Lib.hid (hk3.blk HB2.out (by omega))
    have HB3 := Lib.hid ((Below.heap_alloc _ (tokBox tk.kind tk.text tk.n tk.pos) _ (lt_heap HB3'.out)).trans HB3'.out)
    have HT3 := Lib.hid (new_at w3 (tokBox tk.kind tk.text tk.n tk.pos))
    have HK3 := Lib.hid ((HK2.out.trans hk3).alloc (tokBox tk.kind tk.text tk.n tk.pos))
    have HG3 := Lib.hid ((HG2.out.from (hk3.from (fun h => absurd h.1 (by omega)))).from (From.alloc _ _ (tokBox tk.kind tk.text tk.n tk.pos)))
    have HC4 := Lib.hid (HKID.out (w3.alloc (tokBox tk.kind tk.text tk.n tk.pos)).drew ((hr3.alloc (tokBox tk.kind tk.text tk.n tk.pos)).drew))
    clear hk3 hr3 HN2 HB2 HK2 HG2 HC3 HTK HKID HN3' HB3'
    go_wp2_with fail
    refine wp_region_last 5 (fun W => W.heap[w1.heap.size]? = some (.cells #[.string X.op, .string X.name, .int .i64 X.n, .int .i64 X.pos, .slice X.a X.kids.len X.cap] 26) ∧ W.heap[w3.heap.size]? = some (tokBox tk.kind tk.text tk.n tk.pos)) (by kernel_rfl) (by kernel_rfl) ⟨HN3.out, HT3.out⟩ ?_
    refine headsC_val _ (.pointer (some ⟨w3.heap.size, 3, none⟩)) rfl (fun W hW => by unfold execOp; simp [go_sem, Act.eval]) ?_
    refine headsC_val _ (.int .i64 tk.pos) rfl (fun W hW => by have h := tok_cells hW.2; unfold execOp; simp [go_sem, Act.eval, h]) ?_
    refine headsC_load _ _ _ rfl rfl w1.heap.size rfl _ _ _ _ (fun W h => h.1) Tryz.underlying26 rfl (by kernel_rfl) ?_
    refine headsC_move _ _ rfl rfl ?_
    refine headsC_move _ _ rfl rfl ?_
    refine headsC_nil ?_
    show wpList _ _ (thenC _ _ _ _) _ _ _
    go_wp2_with fail
    refine HC4.out.mono ?_
    rintro x w4 ⟨U, rfl, hk4, ho4⟩
    have HN4 := Lib.hid ((kp_drew hk4).blk HN3.out (by omega))
    have hz4 := lt_heap HN4.out
    have HT4 := Lib.hid ((kp_drew hk4).blk HT3.out (by omega))
    have hz5 := lt_heap HT4.out
    have HB4 := Lib.hid ((kp_drew hk4).blk HB3.out (by omega))
    have HK4 := Lib.hid (HK3.out.trans (kp_drew hk4))
    have HG4 := Lib.hid (HG3.out.from ((kp_drew hk4).from (fun h => absurd h.1 (by omega))))
    have HO4 := Lib.hid ho4
    have hz34 : w1.heap.size < (w3.alloc (tokBox tk.kind tk.text tk.n tk.pos)).drew.heap.size := lt_heap HN3.out
    have hz44 : (w3.alloc (tokBox tk.kind tk.text tk.n tk.pos)).drew.heap.size = w3.heap.size + 1 := alloc_size _ _
    have HZ34 := Lib.hid hz34
    clear hk4 ho4 HC4 HK3 HG3 HB3 HN3 hz34
    go_wp2_with fail
    refine ⟨fun _ => ⟨HN4.out, HT4.out⟩, ?_⟩
    show wpList _ _ (thenC _ _ _ _) _ _ _
    go_wp2_with fail
    refine ⟨fun _ => ⟨(Below.heap_alloc _ _ _ hz4).trans HN4.out, (Below.heap_alloc _ _ _ hz5).trans HT4.out⟩, ?_⟩
    show wpList _ _ (thenC _ _ _ _) _ _ _
    go_wp2_with fail
    refine ⟨fun _ => ⟨(Below.heap_alloc _ _ _ hz4).trans HN4.out, (Below.heap_alloc _ _ _ hz5).trans HT4.out⟩, ?_⟩
    show wpList _ _ (thenC _ _ _ _) _ _ _
    obtain ⟨n0, n1, n2, n3, n4⟩ := box_cells HN4.out
    obtain ⟨q0, q1, q2, q4, q5⟩ := box_frozen HN4.out
    go_wp2_with fail
    refine ⟨fun h => (by cases h), NoPanic.normal ?_⟩
    go_wp2_with fail
    go_roundg g'
    case rel =>
     refine ⟨⟨⟨#[97, 110, 100]⟩, ⟨#[]⟩, 0, tk.pos, some ⟨w4.heap.size, 0, none⟩, 2, .cons X.op X.name X.n X.pos X.a X.cap X.kids (.cons U.op U.name U.n U.pos U.a U.cap U.kids .nil)⟩, Lib.hid ((Below.heap_alloc _ _ _ (by simp; omega)).trans (node_set HN4.out _ _ _ _ _ _ _)), Lib.hid ((Below.heap_alloc _ _ _ (by simp; omega)).trans (node_set_other HB4.out (by omega) _ _ _ _ _)),
      Lib.hid (by repeat (with_reducible first | exact HK4.out | refine Kp.alloc ?_ _ | refine Kp.set ?_ (show w.heap.size ≤ w1.heap.size by omega) _)), ?_⟩
     cases rk' with
     | ok k l' =>
      obtain ⟨hr4, hg4, hs4⟩ := HO4.out
      have hsuf := HSUF.out k l' rfl
      have hfr : From (fun b => w.heap.size + 1 ≤ b ∧ b ≠ w1.heap.size) w4 (((((w4.setCell ⟨w1.heap.size, 0, none⟩ (.string ⟨#[97, 110, 100]⟩)).setCell ⟨w1.heap.size, 1, none⟩ (.string ⟨#[]⟩)).setCell ⟨w1.heap.size, 2, none⟩ (.int .i64 0)).setCell ⟨w1.heap.size, 3, none⟩ (.int .i64 tk.pos)).setCell ⟨w1.heap.size, 4, none⟩ (.slice (some ⟨w4.heap.size, 0, none⟩) 2 2)) :=
       ((((((From.refl _ _).trans (From.set _ (fun h => h.2 rfl) _)).trans (From.set _ (fun h => h.2 rfl) _)).trans (From.set _ (fun h => h.2 rfl) _)).trans (From.set _ (fun h => h.2 rfl) _)).trans (From.set _ (fun h => h.2 rfl) _))
      refine .inl ⟨l', (by repeat (with_reducible first | exact hr4 | refine PrS.alloc ?_ _ | refine PrS.set ?_ (show B < w1.heap.size by omega) _)), ⟨by have := hsuf.len; omega, by omega⟩, ?_, Lib.hid (by rw [HOK.out k l' rfl, ← hs4]; rfl)⟩
      refine good2 (G := w4.heap.size) ⟨by omega, by omega⟩ (by have h := new_at (((((w4.setCell ⟨w1.heap.size, 0, none⟩ (.string ⟨#[97, 110, 100]⟩)).setCell ⟨w1.heap.size, 1, none⟩ (.string ⟨#[]⟩)).setCell ⟨w1.heap.size, 2, none⟩ (.int .i64 0)).setCell ⟨w1.heap.size, 3, none⟩ (.int .i64 tk.pos)).setCell ⟨w1.heap.size, 4, none⟩ (.slice (some ⟨w4.heap.size, 0, none⟩) 2 2)) (.cells #[.string X.op, .string X.name, .int .i64 X.n, .int .i64 X.pos, .slice X.a X.kids.len X.cap, .string U.op, .string U.name, .int .i64 U.n, .int .i64 U.pos, .slice U.a U.kids.len U.cap] 26); rw [set5_size] at h; exact h)
       ((HG4.out.from hfr).from (From.alloc _ _ _)) (((hg4.mono (fun b hb => ?_)).from hfr).from (From.alloc _ _ _))
      have hz := HZ34.out
      exact ⟨by omega, by omega⟩
     | bad a e =>
      have hr4 : PrS w4 B (.bad a e) := HO4.out
      exact .inr ⟨a, e, (by repeat (with_reducible first | exact hr4 | refine PrS.alloc ?_ _ | refine PrS.set ?_ (show B < w1.heap.size by omega) _)), HBAD.out a e rfl⟩
    case measure => omega
   · have hw' : ((wrd l).toList == (⟨#[38]⟩ : ByteArray).toList) = false := by simpa using hw
    have HRE := Lib.hid (show r = .ok X.strip l from by rw [HE.out]; unfold pAndL; rw [psg_3, if_neg hw, if_pos (by decide +kernel)])
    have HCS := Lib.hid (ris_no l ⟨#[38]⟩ wr B hw' HRD.out)
    clear hw hw' HE
    go_wp2_with fail
    refine HCS.out.mono ?_
    rintro x w2 ⟨rfl, hb2⟩
    obtain ⟨n0, n1, n2, n3, n4⟩ := box_cells ((hb2.block _ (lt_heap HN.out)).trans HN.out)
    have hr0 := (hb2.block _ (lt_heap HB0.out)).trans HB0.out
    obtain ⟨r0, r1, r2, r3, r4⟩ := box_cells hr0
    obtain ⟨q0, q1, q2, q3, q4⟩ := box_frozen hr0
    have HR0 := Lib.hid hr0
    have HB2 := Lib.hid hb2
    clear hr0 hb2 HCS
    go_wp2_with fail
    refine ret_node (B := w.heap.size) X.op X.name X.n X.pos X.a X.kids.len X.cap Tryz.results143 rfl rfl (node_set HR0.out _ _ _ _ _ _ _) ⟨X, rfl, ?_, ?_⟩
    · exact (by repeat (with_reducible first | exact HK.out.below HB2.out | refine Kp.set ?_ (Nat.le_refl _) _))
    · rw [HRE.out]
     refine ⟨(by repeat (with_reducible first | exact HRD.out.below HB2.out | refine PrS.set ?_ hB _)), ?_, rfl⟩
     have hg2 := HG.out.from (From.below HB2.out)
     refine Nd.Good.mono (S := fun b => w.heap.size + 1 ≤ b ∧ b ≠ w1.heap.size) ?_ (fun b hb => by omega)
     exact hg2.from ((((((From.refl _ _).trans (From.set _ (fun h => absurd h.1 (by simp)) _)).trans (From.set _ (fun h => absurd h.1 (by simp)) _)).trans (From.set _ (fun h => absurd h.1 (by simp)) _)).trans (From.set _ (fun h => absurd h.1 (by simp)) _)).trans (From.set _ (fun h => absurd h.1 (by simp)) _))
  · have HCS := Lib.hid (ris_b ⟨#[38]⟩ wr B a e hrd)
   have HRE := Lib.hid hre
   have HRD := Lib.hid hrd
   clear hre hrd
   go_wp2_with fail
   refine HCS.out.mono ?_
   rintro x w2 ⟨rfl, hb2⟩
   obtain ⟨n0, n1, n2, n3, n4⟩ := box_cells ((hb2.block _ (lt_heap HN.out)).trans HN.out)
   have hr0 := (hb2.block _ (lt_heap HB0.out)).trans HB0.out
   obtain ⟨r0, r1, r2, r3, r4⟩ := box_cells hr0
   obtain ⟨q0, q1, q2, q3, q4⟩ := box_frozen hr0
   have HR0 := Lib.hid hr0
   have HB2 := Lib.hid hb2
   clear hr0 hb2 HCS
   go_wp2_with fail
   refine ret_node (B := w.heap.size) X.op X.name X.n X.pos X.a X.kids.len X.cap Tryz.results143 rfl rfl (node_set HR0.out _ _ _ _ _ _ _) ⟨X, rfl, ?_, ?_⟩
   · exact (by repeat (with_reducible first | exact HK.out.below HB2.out | refine Kp.set ?_ (Nat.le_refl _) _))
   · rw [HRE.out]
    show PrS _ B (.bad a e)
    exact (by repeat (with_reducible first | exact HRD.out.below HB2.out | refine PrS.set ?_ hB _))
set_option maxRecDepth 100000 in
set_option maxHeartbeats 16000000 in
theorem ror_of (f : Nat) (ih : ∀ g, g ≤ f → SayR 143 4 pAnd g) (s : St) (rk r : Res Nd) (w : World) (B d : Nat) (hS : PrS w B s)
  (hk : ∀ W, PrS W B s → Calls Tryz.prog 143 #[.pointer (some ⟨B, 0, none⟩), .int .i64 d] W (PostR B W rk))
  (hr : ∀ t l', rk = .ok t l' → r = pOrL f d t l' ∧ 4 + 20 * l'.length ≤ f) (hb : ∀ a e, rk = .bad a e → r = .bad a e) :
  Calls Tryz.prog 121 #[.pointer (some ⟨B, 0, none⟩), .int .i64 d] w (PostR B w r) := by
 have hc5 := cellsNode
 have hc4 := cellsTok
 have q3 := tok_f3
 have hB := hS.lt
 have HC := Lib.hid (hk (w.alloc (boxOf ⟨#[]⟩ ⟨#[]⟩ 0 0 none 0 0)) (hS.alloc _))
 have HR := Lib.hid hr
 have HBD := Lib.hid hb
 have HIH := Lib.hid ih
 clear hk hr hb hS ih
 go_enter Tryz.func121, Tryz.ntmps121
 go_wp2_with fail
 refine HC.out.mono ?_
 rintro e w1 ⟨T, rfl, hk1, ho1⟩
 have hz1 := hk1.size
 simp only [alloc_size] at hz1
 have HK1 := Lib.hid (Kp.trans ((Kp.refl B w).alloc _) hk1)
 have HB1 := Lib.hid (hk1.blk (new_at w _) (by omega))
 have HO1 := Lib.hid ho1
 clear hk1 ho1 HC
 go_wp2_with fail
 have HN1 := Lib.hid (new_at w1 (boxOf T.op T.name T.n T.pos T.a T.kids.len T.cap))
 go_loopg [] f (fun gf wx => ∃ (X : Nd), RowKit.Hid (wx.heap[w1.heap.size]? = some (boxOf X.op X.name X.n X.pos X.a X.kids.len X.cap)) ∧ RowKit.Hid (wx.heap[w.heap.size]? = some (boxOf ⟨#[]⟩ ⟨#[]⟩ 0 0 none 0 0)) ∧ RowKit.Hid (Kp B w wx) ∧
   ((∃ l, PrS wx B (.good l) ∧ (4 + 20 * l.length ≤ gf ∧ gf ≤ f) ∧ X.Good (fun b => w.heap.size + 1 ≤ b ∧ b ≠ w1.heap.size) wx ∧ RowKit.Hid (r = pOrL gf d X.strip l)) ∨ (∃ a e, PrS wx B (.bad a e) ∧ r = .bad a e)))
 case atStart =>
  refine ⟨T, HN1, Lib.hid ((Below.heap_alloc _ _ _ (by omega)).trans HB1.out), Lib.hid (HK1.out.alloc _), ?_⟩
  have ho := HO1.out
  cases rk with
  | ok t l' =>
   obtain ⟨h1, h2, h3⟩ := ho
   obtain ⟨r1, r3⟩ := HR.out t l' rfl
   refine .inl ⟨l', h1.alloc _, ⟨r3, Nat.le_refl _⟩, (h2.lt.from (From.alloc _ _ _)).mono (fun b hb => ?_), Lib.hid (by rw [h3]; exact r1)⟩
   have h4 := hb.1
   have h5 := hb.2
   (try simp only [alloc_size] at h4)
   exact ⟨by omega, by omega⟩
  | bad a e =>
   have ho : PrS w1 B (.bad a e) := ho
   exact .inr ⟨a, e, ho.alloc _, HBD.out a e rfl⟩
 case round =>
  clear HO1 HN1 HB1 HK1 HR HBD
  obtain ⟨X, HN, HB0, HK, hor⟩ := hrel
  rcases hor with ⟨l, hrd, ⟨hneed, hgf⟩, hgood, HE⟩ | ⟨a, e, hrd, hre⟩
  · obtain ⟨g', rfl⟩ : ∃ g', gk = g' + 1 := ⟨gk - 1, by omega⟩
   have HRD := Lib.hid hrd
   have HG := Lib.hid hgood
   clear hrd hgood
   by_cases hw : ((wrd l).toList == (⟨#[124]⟩ : ByteArray).toList) = true
   · have hop : psg 2 (wrd l) = ⟨#[111, 114]⟩ := by rw [psg_2, if_pos hw]
    have hopn : ¬ ((psg 2 (wrd l)).toList == []) = true := by rw [hop]; decide +kernel
    have hkd := word_kind hw (by decide +kernel)
    have hne := ne_of_psg (by simpa using hopn)
    obtain ⟨rk', hq⟩ : ∃ rk', pAnd g' d l.tail = rk' := ⟨_, rfl⟩
    have HOK : RowKit.Hid (∀ k l', rk' = .ok k l' → r = pOrL g' d (mkN ⟨#[111, 114]⟩ emp0 0 (hd l).pos [X.strip, k]) l') := Lib.hid (fun k l' h => by rw [HE.out]; conv => { lhs; unfold pOrL }; rw [if_neg hopn, hq, h, hop])
    have HBAD : RowKit.Hid (∀ a e, rk' = .bad a e → r = .bad a e) := Lib.hid (fun a e h => by rw [HE.out]; unfold pOrL; rw [if_neg hopn, hq, h])
    have HSUF : RowKit.Hid (∀ k l', rk' = .ok k l' → Suf l' l) := Lib.hid (fun k l' h => ((suf_forms g').2.2.1 _ _ _ _ (hq.trans h)).trans (Suf.tail hne).e)
    have HKID := Lib.hid (fun W (hr : PrS W B (.good l.tail)) => HIH.out g' (by omega) l.tail W B d (by have := (Suf.tail hne).len; omega) hr)
    simp only [hq] at HKID
    have HCS := Lib.hid (ris_yes l ⟨#[124]⟩ wr B (by decide +kernel) hw HRD.out)
    have HTK := Lib.hid (fun W (hr : PrS W B (.good l)) => rnext_g l W B hkd hr)
    clear hw hop hopn hkd HE hq hne
    generalize hd l = tk at HTK HOK
    go_wp2_with fail
    refine HCS.out.mono ?_
    rintro x w2 ⟨rfl, hb2⟩
    have HC3 := Lib.hid (HTK.out w2 (HRD.out.below hb2))
    have HN2 := Lib.hid ((hb2.block _ (lt_heap HN.out)).trans HN.out)
    have HB2 := Lib.hid ((hb2.block _ (lt_heap HB0.out)).trans HB0.out)
    have HK2 := Lib.hid (HK.out.below hb2)
    have HG2 := Lib.hid (HG.out.from (From.below hb2))
    clear HCS hb2
    go_wp2_with fail
    refine HC3.out.mono ?_
    rintro x w3 ⟨rfl, hk3, hr3⟩
    have HN3' := Lib.hid (hk3.blk HN2.out (by omega))
    have hz3' := lt_heap HN3'.out
    have HN3 := Lib.hid ((Below.heap_alloc _ (tokBox tk.kind tk.text tk.n tk.pos) _ (lt_heap HN3'.out)).trans HN3'.out)
    have HB3' := Lib.hid (hk3.blk HB2.out (by omega))
    have HB3 := Lib.hid ((Below.heap_alloc _ (tokBox tk.kind tk.text tk.n tk.pos) _ (lt_heap HB3'.out)).trans HB3'.out)
    have HT3 := Lib.hid (new_at w3 (tokBox tk.kind tk.text tk.n tk.pos))
    have HK3 := Lib.hid ((HK2.out.trans hk3).alloc (tokBox tk.kind tk.text tk.n tk.pos))
    have HG3 := Lib.hid ((HG2.out.from (hk3.from (fun h => absurd h.1 (by omega)))).from (From.alloc _ _ (tokBox tk.kind tk.text tk.n tk.pos)))
    have HC4 := Lib.hid (HKID.out (w3.alloc (tokBox tk.kind tk.text tk.n tk.pos)).drew ((hr3.alloc (tokBox tk.kind tk.text tk.n tk.pos)).drew))
    clear hk3 hr3 HN2 HB2 HK2 HG2 HC3 HTK HKID HN3' HB3'
    go_wp2_with fail
    refine wp_region_last 5 (fun W => W.heap[w1.heap.size]? = some (.cells #[.string X.op, .string X.name, .int .i64 X.n, .int .i64 X.pos, .slice X.a X.kids.len X.cap] 26) ∧ W.heap[w3.heap.size]? = some (tokBox tk.kind tk.text tk.n tk.pos)) (by kernel_rfl) (by kernel_rfl) ⟨HN3.out, HT3.out⟩ ?_
    refine headsC_val _ (.pointer (some ⟨w3.heap.size, 3, none⟩)) rfl (fun W hW => by unfold execOp; simp [go_sem, Act.eval]) ?_
    refine headsC_val _ (.int .i64 tk.pos) rfl (fun W hW => by have h := tok_cells hW.2; unfold execOp; simp [go_sem, Act.eval, h]) ?_
    refine headsC_load _ _ _ rfl rfl w1.heap.size rfl _ _ _ _ (fun W h => h.1) Tryz.underlying26 rfl (by kernel_rfl) ?_
    refine headsC_move _ _ rfl rfl ?_
    refine headsC_move _ _ rfl rfl ?_
    refine headsC_nil ?_
    show wpList _ _ (thenC _ _ _ _) _ _ _
    go_wp2_with fail
    refine HC4.out.mono ?_
    rintro x w4 ⟨U, rfl, hk4, ho4⟩
    have HN4 := Lib.hid ((kp_drew hk4).blk HN3.out (by omega))
    have hz4 := lt_heap HN4.out
    have HT4 := Lib.hid ((kp_drew hk4).blk HT3.out (by omega))
    have hz5 := lt_heap HT4.out
    have HB4 := Lib.hid ((kp_drew hk4).blk HB3.out (by omega))
    have HK4 := Lib.hid (HK3.out.trans (kp_drew hk4))
    have HG4 := Lib.hid (HG3.out.from ((kp_drew hk4).from (fun h => absurd h.1 (by omega))))
    have HO4 := Lib.hid ho4
    have hz34 : w1.heap.size < (w3.alloc (tokBox tk.kind tk.text tk.n tk.pos)).drew.heap.size := lt_heap HN3.out
    have hz44 : (w3.alloc (tokBox tk.kind tk.text tk.n tk.pos)).drew.heap.size = w3.heap.size + 1 := alloc_size _ _
    have HZ34 := Lib.hid hz34
    clear hk4 ho4 HC4 HK3 HG3 HB3 HN3 hz34
    go_wp2_with fail
    refine ⟨fun _ => ⟨HN4.out, HT4.out⟩, ?_⟩
    show wpList _ _ (thenC _ _ _ _) _ _ _
    go_wp2_with fail
    refine ⟨fun _ => ⟨(Below.heap_alloc _ _ _ hz4).trans HN4.out, (Below.heap_alloc _ _ _ hz5).trans HT4.out⟩, ?_⟩
    show wpList _ _ (thenC _ _ _ _) _ _ _
    go_wp2_with fail
    refine ⟨fun _ => ⟨(Below.heap_alloc _ _ _ hz4).trans HN4.out, (Below.heap_alloc _ _ _ hz5).trans HT4.out⟩, ?_⟩
    show wpList _ _ (thenC _ _ _ _) _ _ _
    obtain ⟨n0, n1, n2, n3, n4⟩ := box_cells HN4.out
    obtain ⟨q0, q1, q2, q4, q5⟩ := box_frozen HN4.out
    go_wp2_with fail
    refine ⟨fun h => (by cases h), NoPanic.normal ?_⟩
    go_wp2_with fail
    go_roundg g'
    case rel =>
     refine ⟨⟨⟨#[111, 114]⟩, ⟨#[]⟩, 0, tk.pos, some ⟨w4.heap.size, 0, none⟩, 2, .cons X.op X.name X.n X.pos X.a X.cap X.kids (.cons U.op U.name U.n U.pos U.a U.cap U.kids .nil)⟩, Lib.hid ((Below.heap_alloc _ _ _ (by simp; omega)).trans (node_set HN4.out _ _ _ _ _ _ _)), Lib.hid ((Below.heap_alloc _ _ _ (by simp; omega)).trans (node_set_other HB4.out (by omega) _ _ _ _ _)),
      Lib.hid (by repeat (with_reducible first | exact HK4.out | refine Kp.alloc ?_ _ | refine Kp.set ?_ (show w.heap.size ≤ w1.heap.size by omega) _)), ?_⟩
     cases rk' with
     | ok k l' =>
      obtain ⟨hr4, hg4, hs4⟩ := HO4.out
      have hsuf := HSUF.out k l' rfl
      have hfr : From (fun b => w.heap.size + 1 ≤ b ∧ b ≠ w1.heap.size) w4 (((((w4.setCell ⟨w1.heap.size, 0, none⟩ (.string ⟨#[111, 114]⟩)).setCell ⟨w1.heap.size, 1, none⟩ (.string ⟨#[]⟩)).setCell ⟨w1.heap.size, 2, none⟩ (.int .i64 0)).setCell ⟨w1.heap.size, 3, none⟩ (.int .i64 tk.pos)).setCell ⟨w1.heap.size, 4, none⟩ (.slice (some ⟨w4.heap.size, 0, none⟩) 2 2)) :=
       ((((((From.refl _ _).trans (From.set _ (fun h => h.2 rfl) _)).trans (From.set _ (fun h => h.2 rfl) _)).trans (From.set _ (fun h => h.2 rfl) _)).trans (From.set _ (fun h => h.2 rfl) _)).trans (From.set _ (fun h => h.2 rfl) _))
      refine .inl ⟨l', (by repeat (with_reducible first | exact hr4 | refine PrS.alloc ?_ _ | refine PrS.set ?_ (show B < w1.heap.size by omega) _)), ⟨by have := hsuf.len; omega, by omega⟩, ?_, Lib.hid (by rw [HOK.out k l' rfl, ← hs4]; rfl)⟩
      refine good2 (G := w4.heap.size) ⟨by omega, by omega⟩ (by have h := new_at (((((w4.setCell ⟨w1.heap.size, 0, none⟩ (.string ⟨#[111, 114]⟩)).setCell ⟨w1.heap.size, 1, none⟩ (.string ⟨#[]⟩)).setCell ⟨w1.heap.size, 2, none⟩ (.int .i64 0)).setCell ⟨w1.heap.size, 3, none⟩ (.int .i64 tk.pos)).setCell ⟨w1.heap.size, 4, none⟩ (.slice (some ⟨w4.heap.size, 0, none⟩) 2 2)) (.cells #[.string X.op, .string X.name, .int .i64 X.n, .int .i64 X.pos, .slice X.a X.kids.len X.cap, .string U.op, .string U.name, .int .i64 U.n, .int .i64 U.pos, .slice U.a U.kids.len U.cap] 26); rw [set5_size] at h; exact h)
       ((HG4.out.from hfr).from (From.alloc _ _ _)) (((hg4.mono (fun b hb => ?_)).from hfr).from (From.alloc _ _ _))
      have hz := HZ34.out
      exact ⟨by omega, by omega⟩
     | bad a e =>
      have hr4 : PrS w4 B (.bad a e) := HO4.out
      exact .inr ⟨a, e, (by repeat (with_reducible first | exact hr4 | refine PrS.alloc ?_ _ | refine PrS.set ?_ (show B < w1.heap.size by omega) _)), HBAD.out a e rfl⟩
    case measure => omega
   · have hw' : ((wrd l).toList == (⟨#[124]⟩ : ByteArray).toList) = false := by simpa using hw
    have HRE := Lib.hid (show r = .ok X.strip l from by rw [HE.out]; unfold pOrL; rw [psg_2, if_neg hw, if_pos (by decide +kernel)])
    have HCS := Lib.hid (ris_no l ⟨#[124]⟩ wr B hw' HRD.out)
    clear hw hw' HE
    go_wp2_with fail
    refine HCS.out.mono ?_
    rintro x w2 ⟨rfl, hb2⟩
    obtain ⟨n0, n1, n2, n3, n4⟩ := box_cells ((hb2.block _ (lt_heap HN.out)).trans HN.out)
    have hr0 := (hb2.block _ (lt_heap HB0.out)).trans HB0.out
    obtain ⟨r0, r1, r2, r3, r4⟩ := box_cells hr0
    obtain ⟨q0, q1, q2, q3, q4⟩ := box_frozen hr0
    have HR0 := Lib.hid hr0
    have HB2 := Lib.hid hb2
    clear hr0 hb2 HCS
    go_wp2_with fail
    refine ret_node (B := w.heap.size) X.op X.name X.n X.pos X.a X.kids.len X.cap Tryz.results121 rfl rfl (node_set HR0.out _ _ _ _ _ _ _) ⟨X, rfl, ?_, ?_⟩
    · exact (by repeat (with_reducible first | exact HK.out.below HB2.out | refine Kp.set ?_ (Nat.le_refl _) _))
    · rw [HRE.out]
     refine ⟨(by repeat (with_reducible first | exact HRD.out.below HB2.out | refine PrS.set ?_ hB _)), ?_, rfl⟩
     have hg2 := HG.out.from (From.below HB2.out)
     refine Nd.Good.mono (S := fun b => w.heap.size + 1 ≤ b ∧ b ≠ w1.heap.size) ?_ (fun b hb => by omega)
     exact hg2.from ((((((From.refl _ _).trans (From.set _ (fun h => absurd h.1 (by simp)) _)).trans (From.set _ (fun h => absurd h.1 (by simp)) _)).trans (From.set _ (fun h => absurd h.1 (by simp)) _)).trans (From.set _ (fun h => absurd h.1 (by simp)) _)).trans (From.set _ (fun h => absurd h.1 (by simp)) _))
  · have HCS := Lib.hid (ris_b ⟨#[124]⟩ wr B a e hrd)
   have HRE := Lib.hid hre
   have HRD := Lib.hid hrd
   clear hre hrd
   go_wp2_with fail
   refine HCS.out.mono ?_
   rintro x w2 ⟨rfl, hb2⟩
   obtain ⟨n0, n1, n2, n3, n4⟩ := box_cells ((hb2.block _ (lt_heap HN.out)).trans HN.out)
   have hr0 := (hb2.block _ (lt_heap HB0.out)).trans HB0.out
   obtain ⟨r0, r1, r2, r3, r4⟩ := box_cells hr0
   obtain ⟨q0, q1, q2, q3, q4⟩ := box_frozen hr0
   have HR0 := Lib.hid hr0
   have HB2 := Lib.hid hb2
   clear hr0 hb2 HCS
   go_wp2_with fail
   refine ret_node (B := w.heap.size) X.op X.name X.n X.pos X.a X.kids.len X.cap Tryz.results121 rfl rfl (node_set HR0.out _ _ _ _ _ _ _) ⟨X, rfl, ?_, ?_⟩
   · exact (by repeat (with_reducible first | exact HK.out.below HB2.out | refine Kp.set ?_ (Nat.le_refl _) _))
   · rw [HRE.out]
    show PrS _ B (.bad a e)
    exact (by repeat (with_reducible first | exact HRD.out.below HB2.out | refine PrS.set ?_ hB _))
set_option maxRecDepth 100000 in
set_option maxHeartbeats 16000000 in
theorem rformula_of (f : Nat) (ih : ∀ g, g ≤ f → SayR 74 6 pImp g) (s : St) (rk r : Res Nd) (w : World) (B d : Nat) (hent : ∀ W, PrS W B s → Calls Tryz.prog 73 #[.pointer (some ⟨B, 0, none⟩), .int .i64 d] W fun e w' => e = .returned (.bool true) ∧ Kp B W w' ∧ PrS w' B s) (hS : PrS w B s)
  (hk : ∀ W, PrS W B s → Calls Tryz.prog 74 #[.pointer (some ⟨B, 0, none⟩), .int .i64 d] W (PostR B W rk))
  (hr : ∀ t l', rk = .ok t l' → r = pFormL f d t l' ∧ 6 + 20 * l'.length ≤ f) (hb : ∀ a e, rk = .bad a e → r = .bad a e) :
  Calls Tryz.prog 30 #[.pointer (some ⟨B, 0, none⟩), .int .i64 d] w (PostR B w r) := by
 have hc5 := cellsNode
 have hc4 := cellsTok
 have q3 := tok_f3
 have hB := hS.lt
 have HEN := Lib.hid (hent (w.alloc (boxOf ⟨#[]⟩ ⟨#[]⟩ 0 0 none 0 0)) (hS.alloc _))
 have HKK := Lib.hid hk
 have HR := Lib.hid hr
 have HBD := Lib.hid hb
 have HIH := Lib.hid ih
 clear hk hr hb hS ih
 go_enter Tryz.func30, Tryz.ntmps30
 go_wp2_with fail
 refine HEN.out.mono ?_
 rintro e w0 ⟨rfl, hk0, hs0⟩
 have HC := Lib.hid (HKK.out w0 hs0)
 have HB00 := Lib.hid (hk0.blk (new_at w (boxOf ⟨#[]⟩ ⟨#[]⟩ 0 0 none 0 0)) (by omega))
 have hz0 := lt_heap HB00.out
 have HK0 := Lib.hid (Kp.trans ((Kp.refl B w).alloc _) hk0)
 clear hk0 hs0 HEN HKK
 go_wp2_with fail
 refine HC.out.mono ?_
 rintro e w1 ⟨T, rfl, hk1, ho1⟩
 have hz1 := hk1.size
 have HK1 := Lib.hid (Kp.trans HK0.out hk1)
 have HB1 := Lib.hid (hk1.blk HB00.out (by omega))
 have HO1 := Lib.hid ho1
 clear hk1 ho1 HC
 go_wp2_with fail
 have HN1 := Lib.hid (new_at w1 (boxOf T.op T.name T.n T.pos T.a T.kids.len T.cap))
 go_loopg [] f (fun gf wx => ∃ (X : Nd), RowKit.Hid (wx.heap[w1.heap.size]? = some (boxOf X.op X.name X.n X.pos X.a X.kids.len X.cap)) ∧ RowKit.Hid (wx.heap[w.heap.size]? = some (boxOf ⟨#[]⟩ ⟨#[]⟩ 0 0 none 0 0)) ∧ RowKit.Hid (Kp B w wx) ∧
   ((∃ l, PrS wx B (.good l) ∧ (6 + 20 * l.length ≤ gf ∧ gf ≤ f) ∧ X.Good (fun b => w.heap.size + 1 ≤ b ∧ b ≠ w1.heap.size) wx ∧ RowKit.Hid (r = pFormL gf d X.strip l)) ∨ (∃ a e, PrS wx B (.bad a e) ∧ r = .bad a e)))
 case atStart =>
  refine ⟨T, HN1, Lib.hid ((Below.heap_alloc _ _ _ (by omega)).trans HB1.out), Lib.hid (HK1.out.alloc _), ?_⟩
  have ho := HO1.out
  cases rk with
  | ok t l' =>
   obtain ⟨h1, h2, h3⟩ := ho
   obtain ⟨r1, r3⟩ := HR.out t l' rfl
   refine .inl ⟨l', h1.alloc _, ⟨r3, Nat.le_refl _⟩, (h2.lt.from (From.alloc _ _ _)).mono (fun b hb => ?_), Lib.hid (by rw [h3]; exact r1)⟩
   have h4 := hb.1
   have h5 := hb.2
   (try simp only [alloc_size] at h4)
   exact ⟨by omega, by omega⟩
  | bad a e =>
   have ho : PrS w1 B (.bad a e) := ho
   exact .inr ⟨a, e, ho.alloc _, HBD.out a e rfl⟩
 case round =>
  clear HO1 HN1 HB1 HK1 HR HBD
  obtain ⟨X, HN, HB0, HK, hor⟩ := hrel
  rcases hor with ⟨l, hrd, ⟨hneed, hgf⟩, hgood, HE⟩ | ⟨a, e, hrd, hre⟩
  · obtain ⟨g', rfl⟩ : ∃ g', gk = g' + 1 := ⟨gk - 1, by omega⟩
   have HRD := Lib.hid hrd
   have HG := Lib.hid hgood
   clear hrd hgood
   by_cases hw : ((wrd l).toList == (⟨#[60, 61, 62]⟩ : ByteArray).toList) = true
   · have hop : psg 0 (wrd l) = ⟨#[105, 102, 102]⟩ := by rw [psg_0, if_pos hw]
    have hopn : ¬ ((psg 0 (wrd l)).toList == []) = true := by rw [hop]; decide +kernel
    have hkd := word_kind hw (by decide +kernel)
    have hne := ne_of_psg (by simpa using hopn)
    obtain ⟨rk', hq⟩ : ∃ rk', pImp g' d l.tail = rk' := ⟨_, rfl⟩
    have HOK : RowKit.Hid (∀ k l', rk' = .ok k l' → r = pFormL g' d (mkN ⟨#[105, 102, 102]⟩ emp0 0 (hd l).pos [X.strip, k]) l') := Lib.hid (fun k l' h => by rw [HE.out]; conv => { lhs; unfold pFormL }; rw [if_neg hopn, hq, h, hop])
    have HBAD : RowKit.Hid (∀ a e, rk' = .bad a e → r = .bad a e) := Lib.hid (fun a e h => by rw [HE.out]; unfold pFormL; rw [if_neg hopn, hq, h])
    have HSUF : RowKit.Hid (∀ k l', rk' = .ok k l' → Suf l' l) := Lib.hid (fun k l' h => ((suf_forms g').2.2.2.2.2.2.2.2 _ _ _ _ (hq.trans h)).trans (Suf.tail hne).e)
    have HKID := Lib.hid (fun W (hr : PrS W B (.good l.tail)) => HIH.out g' (by omega) l.tail W B d (by have := (Suf.tail hne).len; omega) hr)
    simp only [hq] at HKID
    have HCS := Lib.hid (ris_yes l ⟨#[60, 61, 62]⟩ wr B (by decide +kernel) hw HRD.out)
    have HTK := Lib.hid (fun W (hr : PrS W B (.good l)) => rnext_g l W B hkd hr)
    clear hw hop hopn hkd HE hq hne
    generalize hd l = tk at HTK HOK
    go_wp2_with fail
    refine HCS.out.mono ?_
    rintro x w2 ⟨rfl, hb2⟩
    have HC3 := Lib.hid (HTK.out w2 (HRD.out.below hb2))
    have HN2 := Lib.hid ((hb2.block _ (lt_heap HN.out)).trans HN.out)
    have HB2 := Lib.hid ((hb2.block _ (lt_heap HB0.out)).trans HB0.out)
    have HK2 := Lib.hid (HK.out.below hb2)
    have HG2 := Lib.hid (HG.out.from (From.below hb2))
    clear HCS hb2
    go_wp2_with fail
    refine HC3.out.mono ?_
    rintro x w3 ⟨rfl, hk3, hr3⟩
    have HN3' := Lib.hid (hk3.blk HN2.out (by omega))
    have hz3' := lt_heap HN3'.out
    have HN3 := Lib.hid ((Below.heap_alloc _ (tokBox tk.kind tk.text tk.n tk.pos) _ (lt_heap HN3'.out)).trans HN3'.out)
    have HB3' := Lib.hid (hk3.blk HB2.out (by omega))
    have HB3 := Lib.hid ((Below.heap_alloc _ (tokBox tk.kind tk.text tk.n tk.pos) _ (lt_heap HB3'.out)).trans HB3'.out)
    have HT3 := Lib.hid (new_at w3 (tokBox tk.kind tk.text tk.n tk.pos))
    have HK3 := Lib.hid ((HK2.out.trans hk3).alloc (tokBox tk.kind tk.text tk.n tk.pos))
    have HG3 := Lib.hid ((HG2.out.from (hk3.from (fun h => absurd h.1 (by omega)))).from (From.alloc _ _ (tokBox tk.kind tk.text tk.n tk.pos)))
    have HC4 := Lib.hid (HKID.out (w3.alloc (tokBox tk.kind tk.text tk.n tk.pos)).drew ((hr3.alloc (tokBox tk.kind tk.text tk.n tk.pos)).drew))
    clear hk3 hr3 HN2 HB2 HK2 HG2 HC3 HTK HKID HN3' HB3'
    go_wp2_with fail
    refine wp_region_last 5 (fun W => W.heap[w1.heap.size]? = some (.cells #[.string X.op, .string X.name, .int .i64 X.n, .int .i64 X.pos, .slice X.a X.kids.len X.cap] 26) ∧ W.heap[w3.heap.size]? = some (tokBox tk.kind tk.text tk.n tk.pos)) (by kernel_rfl) (by kernel_rfl) ⟨HN3.out, HT3.out⟩ ?_
    refine headsC_val _ (.pointer (some ⟨w3.heap.size, 3, none⟩)) rfl (fun W hW => by unfold execOp; simp [go_sem, Act.eval]) ?_
    refine headsC_val _ (.int .i64 tk.pos) rfl (fun W hW => by have h := tok_cells hW.2; unfold execOp; simp [go_sem, Act.eval, h]) ?_
    refine headsC_load _ _ _ rfl rfl w1.heap.size rfl _ _ _ _ (fun W h => h.1) Tryz.underlying26 rfl (by kernel_rfl) ?_
    refine headsC_move _ _ rfl rfl ?_
    refine headsC_move _ _ rfl rfl ?_
    refine headsC_nil ?_
    show wpList _ _ (thenC _ _ _ _) _ _ _
    go_wp2_with fail
    refine HC4.out.mono ?_
    rintro x w4 ⟨U, rfl, hk4, ho4⟩
    have HN4 := Lib.hid ((kp_drew hk4).blk HN3.out (by omega))
    have hz4 := lt_heap HN4.out
    have HT4 := Lib.hid ((kp_drew hk4).blk HT3.out (by omega))
    have hz5 := lt_heap HT4.out
    have HB4 := Lib.hid ((kp_drew hk4).blk HB3.out (by omega))
    have HK4 := Lib.hid (HK3.out.trans (kp_drew hk4))
    have HG4 := Lib.hid (HG3.out.from ((kp_drew hk4).from (fun h => absurd h.1 (by omega))))
    have HO4 := Lib.hid ho4
    have hz34 : w1.heap.size < (w3.alloc (tokBox tk.kind tk.text tk.n tk.pos)).drew.heap.size := lt_heap HN3.out
    have hz44 : (w3.alloc (tokBox tk.kind tk.text tk.n tk.pos)).drew.heap.size = w3.heap.size + 1 := alloc_size _ _
    have HZ34 := Lib.hid hz34
    clear hk4 ho4 HC4 HK3 HG3 HB3 HN3 hz34
    go_wp2_with fail
    refine ⟨fun _ => ⟨HN4.out, HT4.out⟩, ?_⟩
    show wpList _ _ (thenC _ _ _ _) _ _ _
    go_wp2_with fail
    refine ⟨fun _ => ⟨(Below.heap_alloc _ _ _ hz4).trans HN4.out, (Below.heap_alloc _ _ _ hz5).trans HT4.out⟩, ?_⟩
    show wpList _ _ (thenC _ _ _ _) _ _ _
    go_wp2_with fail
    refine ⟨fun _ => ⟨(Below.heap_alloc _ _ _ hz4).trans HN4.out, (Below.heap_alloc _ _ _ hz5).trans HT4.out⟩, ?_⟩
    show wpList _ _ (thenC _ _ _ _) _ _ _
    obtain ⟨n0, n1, n2, n3, n4⟩ := box_cells HN4.out
    obtain ⟨q0, q1, q2, q4, q5⟩ := box_frozen HN4.out
    go_wp2_with fail
    refine ⟨fun h => (by cases h), NoPanic.normal ?_⟩
    go_wp2_with fail
    go_roundg g'
    case rel =>
     refine ⟨⟨⟨#[105, 102, 102]⟩, ⟨#[]⟩, 0, tk.pos, some ⟨w4.heap.size, 0, none⟩, 2, .cons X.op X.name X.n X.pos X.a X.cap X.kids (.cons U.op U.name U.n U.pos U.a U.cap U.kids .nil)⟩, Lib.hid ((Below.heap_alloc _ _ _ (by simp; omega)).trans (node_set HN4.out _ _ _ _ _ _ _)), Lib.hid ((Below.heap_alloc _ _ _ (by simp; omega)).trans (node_set_other HB4.out (by omega) _ _ _ _ _)),
      Lib.hid (by repeat (with_reducible first | exact HK4.out | refine Kp.alloc ?_ _ | refine Kp.set ?_ (show w.heap.size ≤ w1.heap.size by omega) _)), ?_⟩
     cases rk' with
     | ok k l' =>
      obtain ⟨hr4, hg4, hs4⟩ := HO4.out
      have hsuf := HSUF.out k l' rfl
      have hfr : From (fun b => w.heap.size + 1 ≤ b ∧ b ≠ w1.heap.size) w4 (((((w4.setCell ⟨w1.heap.size, 0, none⟩ (.string ⟨#[105, 102, 102]⟩)).setCell ⟨w1.heap.size, 1, none⟩ (.string ⟨#[]⟩)).setCell ⟨w1.heap.size, 2, none⟩ (.int .i64 0)).setCell ⟨w1.heap.size, 3, none⟩ (.int .i64 tk.pos)).setCell ⟨w1.heap.size, 4, none⟩ (.slice (some ⟨w4.heap.size, 0, none⟩) 2 2)) :=
       ((((((From.refl _ _).trans (From.set _ (fun h => h.2 rfl) _)).trans (From.set _ (fun h => h.2 rfl) _)).trans (From.set _ (fun h => h.2 rfl) _)).trans (From.set _ (fun h => h.2 rfl) _)).trans (From.set _ (fun h => h.2 rfl) _))
      refine .inl ⟨l', (by repeat (with_reducible first | exact hr4 | refine PrS.alloc ?_ _ | refine PrS.set ?_ (show B < w1.heap.size by omega) _)), ⟨by have := hsuf.len; omega, by omega⟩, ?_, Lib.hid (by rw [HOK.out k l' rfl, ← hs4]; rfl)⟩
      refine good2 (G := w4.heap.size) ⟨by omega, by omega⟩ (by have h := new_at (((((w4.setCell ⟨w1.heap.size, 0, none⟩ (.string ⟨#[105, 102, 102]⟩)).setCell ⟨w1.heap.size, 1, none⟩ (.string ⟨#[]⟩)).setCell ⟨w1.heap.size, 2, none⟩ (.int .i64 0)).setCell ⟨w1.heap.size, 3, none⟩ (.int .i64 tk.pos)).setCell ⟨w1.heap.size, 4, none⟩ (.slice (some ⟨w4.heap.size, 0, none⟩) 2 2)) (.cells #[.string X.op, .string X.name, .int .i64 X.n, .int .i64 X.pos, .slice X.a X.kids.len X.cap, .string U.op, .string U.name, .int .i64 U.n, .int .i64 U.pos, .slice U.a U.kids.len U.cap] 26); rw [set5_size] at h; exact h)
       ((HG4.out.from hfr).from (From.alloc _ _ _)) (((hg4.mono (fun b hb => ?_)).from hfr).from (From.alloc _ _ _))
      have hz := HZ34.out
      exact ⟨by omega, by omega⟩
     | bad a e =>
      have hr4 : PrS w4 B (.bad a e) := HO4.out
      exact .inr ⟨a, e, (by repeat (with_reducible first | exact hr4 | refine PrS.alloc ?_ _ | refine PrS.set ?_ (show B < w1.heap.size by omega) _)), HBAD.out a e rfl⟩
    case measure => omega
   · have hw' : ((wrd l).toList == (⟨#[60, 61, 62]⟩ : ByteArray).toList) = false := by simpa using hw
    have HRE := Lib.hid (show r = .ok X.strip l from by rw [HE.out]; unfold pFormL; rw [psg_0, if_neg hw, if_pos (by decide +kernel)])
    have HCS := Lib.hid (ris_no l ⟨#[60, 61, 62]⟩ wr B hw' HRD.out)
    clear hw hw' HE
    go_wp2_with fail
    refine HCS.out.mono ?_
    rintro x w2 ⟨rfl, hb2⟩
    obtain ⟨n0, n1, n2, n3, n4⟩ := box_cells ((hb2.block _ (lt_heap HN.out)).trans HN.out)
    have hr0 := (hb2.block _ (lt_heap HB0.out)).trans HB0.out
    obtain ⟨r0, r1, r2, r3, r4⟩ := box_cells hr0
    obtain ⟨q0, q1, q2, q3, q4⟩ := box_frozen hr0
    have HR0 := Lib.hid hr0
    have HB2 := Lib.hid hb2
    clear hr0 hb2 HCS
    go_wp2_with fail
    refine ret_node (B := w.heap.size) X.op X.name X.n X.pos X.a X.kids.len X.cap Tryz.results30 rfl rfl (node_set HR0.out _ _ _ _ _ _ _) ⟨X, rfl, ?_, ?_⟩
    · exact (by repeat (with_reducible first | exact HK.out.below HB2.out | refine Kp.set ?_ (Nat.le_refl _) _))
    · rw [HRE.out]
     refine ⟨(by repeat (with_reducible first | exact HRD.out.below HB2.out | refine PrS.set ?_ hB _)), ?_, rfl⟩
     have hg2 := HG.out.from (From.below HB2.out)
     refine Nd.Good.mono (S := fun b => w.heap.size + 1 ≤ b ∧ b ≠ w1.heap.size) ?_ (fun b hb => by omega)
     exact hg2.from ((((((From.refl _ _).trans (From.set _ (fun h => absurd h.1 (by simp)) _)).trans (From.set _ (fun h => absurd h.1 (by simp)) _)).trans (From.set _ (fun h => absurd h.1 (by simp)) _)).trans (From.set _ (fun h => absurd h.1 (by simp)) _)).trans (From.set _ (fun h => absurd h.1 (by simp)) _))
  · have HCS := Lib.hid (ris_b ⟨#[60, 61, 62]⟩ wr B a e hrd)
   have HRE := Lib.hid hre
   have HRD := Lib.hid hrd
   clear hre hrd
   go_wp2_with fail
   refine HCS.out.mono ?_
   rintro x w2 ⟨rfl, hb2⟩
   obtain ⟨n0, n1, n2, n3, n4⟩ := box_cells ((hb2.block _ (lt_heap HN.out)).trans HN.out)
   have hr0 := (hb2.block _ (lt_heap HB0.out)).trans HB0.out
   obtain ⟨r0, r1, r2, r3, r4⟩ := box_cells hr0
   obtain ⟨q0, q1, q2, q3, q4⟩ := box_frozen hr0
   have HR0 := Lib.hid hr0
   have HB2 := Lib.hid hb2
   clear hr0 hb2 HCS
   go_wp2_with fail
   refine ret_node (B := w.heap.size) X.op X.name X.n X.pos X.a X.kids.len X.cap Tryz.results30 rfl rfl (node_set HR0.out _ _ _ _ _ _ _) ⟨X, rfl, ?_, ?_⟩
   · exact (by repeat (with_reducible first | exact HK.out.below HB2.out | refine Kp.set ?_ (Nat.le_refl _) _))
   · rw [HRE.out]
    show PrS _ B (.bad a e)
    exact (by repeat (with_reducible first | exact HRD.out.below HB2.out | refine PrS.set ?_ hB _))
end Go.Proofs.YtmpcmpeloebnhaaGreatDoor
