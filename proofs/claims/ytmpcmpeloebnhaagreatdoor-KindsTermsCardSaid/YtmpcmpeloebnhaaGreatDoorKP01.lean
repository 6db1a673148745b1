/- Parts of the proof: LexCR GPure Open KPure KA KB KC PPure. -/
import Derived.Test.YtmpcmpeloebnhaaGreatDoorKP00
import Derived.Test.YtmpcmpeloebnhaaGreatDoorRows
import Derived.WalkKit
import Derived.WalkLawsBesides
import Derived.WalkSpells
import Derived.ProofKit
import Derived.Outline
import Derived.Deep.QuietTactic
import Derived.BigQuiet
import Derived.Deep.Light
import Derived.Deep.CutBlock
import Derived.Deep.DeepCutAuto
import Derived.Deep.DeepFit
import Derived.Deep.LoopGhost
import Derived.Lib.Hide
import Derived.Lib.OthersKept
import Derived.IntWalk
import Derived.StillTailTactics
import Derived.ChangeArms
import Derived.WideShapes
import Derived.SizedLaws
import Derived.ChangeReads
import Derived.Maps.OwnSet
import Derived.Maps.OwnOps
import Derived.Deep.RegionHeld3
import Derived.OrdersHeld
import Derived.RegionTactic
import Derived.BigRegion
namespace Go.Proofs.YtmpcmpeloebnhaaGreatDoor
open Go.RowKit
def tokV : Option Tok → Value
 | none => .agg #[.int .i64 0, .string ⟨#[]⟩, .int .i64 0, .int .i64 0]
 | some t => .agg #[.int .i64 t.kind, .string t.text, .int .i64 t.n, .int .i64 t.pos]
def FirstOut (u : ByteArray) (e : Ending) : Prop :=
 match stepL u u.size (each u).1 with
 | none => ∃ (a : Int) (b : ByteArray) (c d n : Int), e = .returned (.tuple #[.agg #[.int .i64 a, .string b, .int .i64 c, .int .i64 d], .int .i64 n, .bool false])
 | some (t, k) => e = .returned (.tuple #[tokV t, .int .i64 (posOf u.size ((each u).1.drop k)), .bool true])
def FirstPost (u : ByteArray) (w : World) (e : Ending) (w' : World) : Prop := FirstOut u e ∧ Below w.heap.size w w'
theorem FirstOut.no {u : ByteArray} {a : Int} {b : ByteArray} {c d n : Int} (h : stepL u u.size (each u).1 = none) : FirstOut u (.returned (.tuple #[.agg #[.int .i64 a, .string b, .int .i64 c, .int .i64 d], .int .i64 n, .bool false])) := by
 unfold FirstOut; rw [h]; exact ⟨a, b, c, d, n, rfl⟩
theorem FirstOut.yes {u : ByteArray} {t : Option Tok} {k : Nat} {v : Value} {n : Int} (h : stepL u u.size (each u).1 = some (t, k)) (hv : v = tokV t) (hn : n = posOf u.size ((each u).1.drop k)) : FirstOut u (.returned (.tuple #[v, .int .i64 n, .bool true])) := by
 unfold FirstOut; rw [h, hv, hn]
theorem Blk4.set {w : World} {B : Nat} {a b c d : Value} (h : Blk4 w B a b c d) (a' b' c' d' : Value) : Blk4 ((((w.setCell ⟨B, 0, none⟩ a').setCell ⟨B, 1, none⟩ b').setCell ⟨B, 2, none⟩ c').setCell ⟨B, 3, none⟩ d') B a' b' c' d' := by
 unfold Blk4 at *
 have h0 := heap_setCell_same w B 0 _ _ a' h
 have h1 := heap_setCell_same _ B 1 _ _ b' h0
 have h2 := heap_setCell_same _ B 2 _ _ c' h1
 have h3 := heap_setCell_same _ B 3 _ _ d' h2
 exact h3
theorem head_at {u : ByteArray} {q : Int × Int} {M : RL} (h : (each u).1 = q :: M) : q.2 = 0 ∧ 1 ≤ u.size ∧ q.1 = (Utf8.decode u 0).1 := by
 unfold each at h
 by_cases hp : 0 < u.size
 ·obtain ⟨b, hb⟩ : ∃ b, u.size = b + 1 := ⟨u.size - 1, by omega⟩
  rw [hb] at h
  by_cases hbad : badAt u 0
  ·rw [eachF_bad _ _ _ hp hbad] at h; cases h
  ·rw [eachF_one _ _ _ hp hbad] at h
   simp only [List.cons.injEq] at h
   rw [← h.1]
   exact ⟨rfl, hp, rfl⟩
 ·rw [eachF_end _ _ _ hp] at h; cases h
theorem sig_end (u : ByteArray) : ∀ (x : List UInt8), (∀ c ∈ x, c.toNat < 128) → ∀ (b pos : Nat), u.size ≤ pos + b → pos ≤ u.size → (eachF u b pos).2 = -1 → rpre x (eachF u b pos).1 = true → posOf (u.size : Int) ((eachF u b pos).1.drop x.length) = pos + x.length := by
 intro x
 induction x with
 | nil =>
  intro _ b pos hb hs h2 _
  simp only [List.length_nil, List.drop_zero, Int.natCast_zero, Int.add_zero]
  by_cases hp : pos < u.size
  ·obtain ⟨b, rfl⟩ : ∃ g, b = g + 1 := ⟨b - 1, by omega⟩
   have hbad : ¬ badAt u pos := by
    intro hbad
    rw [eachF_bad _ _ _ hp hbad] at h2; simp only [] at h2; omega
   rw [eachF_one _ _ _ hp hbad]; rfl
  ·rw [eachF_end _ _ _ hp]; simp only [posOf]; omega
 | cons c x ih =>
  intro hx b pos hb hs h2 hr
  have hc := hx c (List.mem_cons_self ..)
  by_cases hp : pos < u.size
  ·obtain ⟨b, rfl⟩ : ∃ g, b = g + 1 := ⟨b - 1, by omega⟩
   have hbad : ¬ badAt u pos := by
    intro hbad
    rw [eachF_bad _ _ _ hp hbad] at h2; simp only [] at h2; omega
   rw [eachF_one _ _ _ hp hbad] at h2 hr ⊢
   simp only [rpre, Bool.and_eq_true, beq_iff_eq] at hr
   have h1 := ascii_one u pos (by omega)
   rw [h1.2] at h2 hr ⊢
   have := ih (fun a ha => hx a (List.mem_cons_of_mem _ ha)) b (pos + 1) (by omega) (by omega) h2 hr.2
   simp only [List.length_cons, List.drop_succ_cons]
   rw [this]
   omega
  ·rw [eachF_end _ _ _ hp] at hr; simp [rpre] at hr
def sndP (s : ByteArray) : ByteArray := s.extract 0 (endOf s (each s).2).toNat
theorem snd_end (s : ByteArray) : ((endOf s (each s).2).toNat : Int) = endOf s (each s).2 ∧ (endOf s (each s).2).toNat ≤ s.size := by
 have h := endOf_ge s s.size 0 (by omega)
 have e : eachF s s.size 0 = each s := rfl
 rw [e] at h
 omega
theorem snd_size (s : ByteArray) : (sndP s).size = (endOf s (each s).2).toNat := ext_size s _ (snd_end s).2
theorem snd_each (s : ByteArray) : each (sndP s) = ((each s).1, -1) := each_sound s _ (snd_end s).1
theorem snd_all (s : ByteArray) (h : (each s).2 = -1) : sndP s = s := by
 unfold sndP endOf
 rw [if_pos h]
 simp
theorem snd_bad (s : ByteArray) (h : ¬ (each s).2 = -1) : sndP s = s.extract 0 (each s).2.toNat := by
 unfold sndP endOf
 rw [if_neg h]
theorem bad_range (s : ByteArray) : (each s).2 = -1 ∨ (0 ≤ (each s).2 ∧ (each s).2 < s.size) := by
 have := eachF_bad_ge s s.size 0
 exact this
theorem tokL_snd (s : ByteArray) (e : Nat) : ∀ (L : RL), srt e L → tokL s e L = tokL (s.extract 0 e) e L := by
 intro L hs
 cases L with
 | nil => rfl
 | cons q L =>
  have hup : ∀ M : RL, srt (e : Int) M → posOf (e : Int) M ≤ (e : Int) := by
   intro M
   induction M with
   | nil => intro _; exact Int.le_refl _
   | cons a M ih => intro h; have := ih h.2; have := h.1; simp only [posOf] at *; omega
  have hle := hup _ (srt_drop _ (q :: L) (cnt nmB (q :: L)) hs)
  have ex : (s.extract 0 e).extract q.2.toNat (posOf (e : Int) ((q :: L).drop (cnt nmB (q :: L)))).toNat = s.extract q.2.toNat (posOf (e : Int) ((q :: L).drop (cnt nmB (q :: L)))).toNat := by
   apply ByteArray.ext
   apply Array.ext'
   rw [Lib.extract_data, Lib.extract_data, Lib.extract_data]
   rw [Nat.sub_zero, List.drop_zero, List.drop_take, List.take_take]
   congr 1
   omega
  unfold tokL
  simp only [ex]
theorem stepL_snd (s : ByteArray) (e : Nat) (L : RL) (hs : srt e L) : stepL s e L = stepL (s.extract 0 e) e L := by
 cases L with
 | nil => rfl
 | cons q L => rw [stepL, stepL, tokL_snd s e (q :: L) hs]
theorem lexL_snd (s : ByteArray) (e : Nat) : ∀ (L : RL) (b : Int), srt e L → lexL s e L b = lexL (s.extract 0 e) e L b := by
 intro L
 induction L with
 | nil => intro b _; rfl
 | cons q L ih =>
  intro b hs
  rw [lexL, lexL, stepL_snd s e (q :: L) hs, ih b hs.2]
  rcases stepL (s.extract 0 e) e (q :: L) with _ | ⟨t, k⟩
  ·rfl
  ·simp only []
   rw [ih _ hs.2]
theorem lexT_snd (s : ByteArray) : lexT s = lexL (sndP s) ((sndP s).size : Int) (each (sndP s)).1 0 := by
 have h := snd_end s
 unfold lexT
 rw [snd_size, snd_each, h.1]
 have := lexL_snd s (endOf s (each s).2).toNat (each s).1 0 (by rw [h.1]; exact eachF_srt s s.size 0 (by omega))
 rw [h.1] at this
 exact this
def flatT : List Tok → List Value
 | [] => []
 | t :: l => .int .i64 t.kind :: .string t.text :: .int .i64 t.n :: .int .i64 t.pos :: flatT l
theorem flatT_snoc (l : List Tok) (t : Tok) : flatT (l ++ [t]) = flatT l ++ [.int .i64 t.kind, .string t.text, .int .i64 t.n, .int .i64 t.pos] := by
 induction l with
 | nil => rfl
 | cons q l ih => simp [flatT, ih]
def lexAt (t : ByteArray) (b pos : Nat) (acc : List Tok) (bh : Int) : Prop :=
 (eachF t b pos).2 = -1 ∧ acc ++ (lexL t t.size (eachF t b pos).1 bh).1 = (lexL t t.size (each t).1 0).1 ∧ (lexL t t.size (eachF t b pos).1 bh).2 = (lexL t t.size (each t).1 0).2
theorem lexAt_start (t : ByteArray) (h : (each t).2 = -1) : lexAt t t.size 0 [] 0 := ⟨h, rfl, rfl⟩
theorem lexAt_cons {t : ByteArray} {b pos : Nat} {acc : List Tok} {bh : Int} (h : lexAt t (b + 1) pos acc bh) (hp : pos < t.size) :
  (eachF t (b + 1) pos).1 = (((Utf8.decode t pos).1 : Int), (pos : Int)) :: (eachF t b (pos + (Utf8.decode t pos).2)).1 ∧ (eachF t b (pos + (Utf8.decode t pos).2)).2 = -1 := by
 have hb : ¬ badAt t pos := by
  intro hb
  have := h.1
  rw [eachF_bad _ _ _ hp hb] at this; simp only [] at this; omega
 have h1 := h.1
 rw [eachF_one _ _ _ hp hb] at h1 ⊢
 exact ⟨rfl, h1⟩
theorem lexAt_pass {t : ByteArray} {b pos : Nat} {acc : List Tok} {bh : Int} (h : lexAt t (b + 1) pos acc bh) (hp : pos < t.size) (hlt : (pos : Int) < bh) : lexAt t b (pos + (Utf8.decode t pos).2) acc bh := by
 have hc := lexAt_cons h hp
 obtain ⟨_, h2, h3⟩ := h
 rw [hc.1, lexL, if_pos hlt] at h2 h3
 exact ⟨hc.2, h2, h3⟩
theorem lexAt_none {t : ByteArray} {b pos : Nat} {acc : List Tok} {bh : Int} (h : lexAt t (b + 1) pos acc bh) (hp : pos < t.size) (hlt : ¬ (pos : Int) < bh) (hs : stepL t t.size (eachF t (b + 1) pos).1 = none) :
  (lexL t t.size (each t).1 0).2 = some (pos : Int) := by
 have hc := lexAt_cons h hp
 obtain ⟨_, h2, h3⟩ := h
 rw [hc.1] at hs
 rw [hc.1, lexL, if_neg hlt, hs] at h3
 exact h3.symm
theorem lexAt_some {t : ByteArray} {b pos : Nat} {acc : List Tok} {bh : Int} {x : Option Tok} {k : Nat} (h : lexAt t (b + 1) pos acc bh) (hp : pos < t.size) (hlt : ¬ (pos : Int) < bh) (hs : stepL t t.size (eachF t (b + 1) pos).1 = some (x, k)) :
  lexAt t b (pos + (Utf8.decode t pos).2) (acc ++ x.toList) (posOf t.size ((eachF t (b + 1) pos).1.drop k)) := by
 have hc := lexAt_cons h hp
 obtain ⟨_, h2, h3⟩ := h
 rw [hc.1] at hs ⊢
 rw [hc.1, lexL, if_neg hlt, hs] at h2 h3
 refine ⟨hc.2, ?_, h3⟩
 rw [List.append_assoc]
 exact h2
theorem lexAt_end {t : ByteArray} {b pos : Nat} {acc : List Tok} {bh : Int} (h : lexAt t b pos acc bh) (hp : ¬ pos < t.size) : acc = (lexL t t.size (each t).1 0).1 ∧ (lexL t t.size (each t).1 0).2 = none := by
 obtain ⟨_, h2, h3⟩ := h
 rw [eachF_end _ _ _ hp, lexL] at h2 h3
 exact ⟨by rw [← h2]; simp, h3.symm⟩
theorem tokL_pos {s : ByteArray} {e : Int} {q : Int × Int} {L : RL} {t : Tok} {k : Nat} (h : tokL s e (q :: L) = some (t, k)) : t.pos = q.2 ∧ 1 ≤ t.kind ∧ t.kind ≤ 3 := by
 rw [tokL] at h
 split at h
 ·split at h
  ·simp only [Option.some.injEq, Prod.mk.injEq] at h
   rw [← h.1]
   refine ⟨rfl, ?_⟩
   simp only []
   split <;> omega
  ·cases h
 ·split at h
  ·split at h
   ·simp only [Option.some.injEq, Prod.mk.injEq] at h
    rw [← h.1]; exact ⟨rfl, by simp⟩
   ·cases h
  ·split at h
   ·simp only [Option.some.injEq, Prod.mk.injEq] at h
    rw [← h.1]; exact ⟨rfl, by simp⟩
   ·cases h
theorem stepL_pos {s : ByteArray} {e : Int} {q : Int × Int} {L : RL} {t : Tok} {k : Nat} (h : stepL s e (q :: L) = some (some t, k)) : t.pos = q.2 ∧ 1 ≤ t.kind ∧ t.kind ≤ 3 := by
 rw [stepL] at h
 split at h
 ·cases h
 ·split at h
  ·cases h
  ·rcases ht : tokL s e (q :: L) with _ | ⟨t', k'⟩
   ·rw [ht] at h; cases h
   ·rw [ht] at h
    simp only [Option.map_some, Option.some.injEq, Prod.mk.injEq] at h
    rw [← h.1]
    exact tokL_pos ht
theorem rest_step {t : ByteArray} {b pos : Nat} {acc : List Tok} {bh : Int} (h : lexAt t (b + 1) pos acc bh) (hp : pos < t.size) (hb : t.size ≤ pos + (b + 1)) :
  (each (t.extract pos t.size)).2 = -1 ∧ (∃ M, (each (t.extract pos t.size)).1 = (((Utf8.decode t pos).1 : Int), 0) :: M) ∧
  stepL t t.size (eachF t (b + 1) pos).1 = (stepL (t.extract pos t.size) (t.extract pos t.size).size (each (t.extract pos t.size)).1).map (fun x => (x.1.map (Tok.sh pos), x.2)) ∧
  ∀ k, posOf (t.size : Int) ((eachF t (b + 1) pos).1.drop k) = pos + posOf ((t.extract pos t.size).size : Int) ((each (t.extract pos t.size)).1.drop k) := by
 have h1 := step_rest t (b + 1) pos hp hb h.1
 have hc := lexAt_cons h hp
 refine ⟨h1.1, ?_, h1.2.2, ?_⟩
 ·rcases hL : (each (t.extract pos t.size)).1 with _ | ⟨q, M⟩
  ·have := h1.2.1
   rw [hL, hc.1] at this
   cases this
  ·have := h1.2.1
   rw [hL, hc.1] at this
   simp only [shf, List.map_cons, List.cons.injEq, Prod.mk.injEq] at this
   refine ⟨M, ?_⟩
   congr 1
   exact Prod.ext this.1.1 (by have := this.1.2; simp only []; omega)
 ·intro k
  rw [← h1.2.1, shf_drop]
  have := shf_pos pos ((t.extract pos t.size).size : Int) ((each (t.extract pos t.size)).1.drop k)
  rw [Lib.tail_size] at this ⊢
  rw [show ((t.size - pos : Nat) : Int) + pos = t.size by omega] at this
  rw [this]
  omega
def TokensPost (s : ByteArray) (w : World) (e : Ending) (w' : World) : Prop :=
 ∃ v, e = .returned (.tuple #[v, .int .i64 (toks s).2.1, .int .i64 (toks s).2.2]) ∧ w'.ownsRow w.heap.size 70 4 v (toks s).1.length (flatT (toks s).1) ∧ Below w.heap.size w w'
theorem toks_long {s : ByteArray} (h : 2000 < s.size) : toks s = ([], 0, 3) := by unfold toks; rw [if_neg (by omega)]
theorem toks_fault {s : ByteArray} {i : Int} (h : s.size ≤ 2000) (h2 : (lexT s).2 = some i) : toks s = ([], i, 2) := by
 unfold toks; rw [if_pos h, h2]
theorem toks_bad {s : ByteArray} (h : s.size ≤ 2000) (h2 : (lexT s).2 = none) (hb : ¬ (each s).2 = -1) : toks s = ([], (each s).2, 2) := by
 unfold toks; rw [if_pos h, h2]; simp only []; rw [if_neg hb]
theorem toks_ok {s : ByteArray} {acc : List Tok} (h : s.size ≤ 2000) (h2 : (lexT s).2 = none) (hb : (each s).2 = -1) (ha : acc = (lexT s).1) : toks s = (acc ++ [⟨4, ⟨#[]⟩, 0, (s.size : Int)⟩], (s.size : Int), 0) := by
 unfold toks; rw [if_pos h, h2]; simp only []; rw [if_pos hb, ha]
theorem TokensPost.err {s : ByteArray} {w w' : World} {at' err : Int} (h : toks s = ([], at', err)) (hb : Below w.heap.size w w') : TokensPost s w (.returned (.tuple #[.slice none 0 0, .int .i64 at', .int .i64 err])) w' := by
 refine ⟨.slice none 0 0, by rw [h], ?_, hb⟩
 rw [h]
 exact World.ownsRow_nil _ _ _ _
theorem Tryz.infoTok : (Tryz.prog.info? 70).map (fun i => (i.zero, i.size, i.bytes)) = some (some (.agg #[.int .i64 0, .string ⟨#[]⟩, .int .i64 0, .int .i64 0]), 4, 40) := by kernel_rfl
theorem cell_four_new (w : World) (a b c d : Value) (t : TypeId) (n : Nat) (hn : n = w.heap.size) : ∀ j u, [a, b, c, d][j]? = some u → (w.alloc (.cells #[a, b, c, d] t)).cell? ((⟨n, 0, none⟩ : Addr).add j) = some u := by
 intro j u hj
 subst hn
 match j, hj with
 | 0, hj => simp at hj; subst hj; simp [Addr.add]
 | 1, hj => simp at hj; subst hj; simp [Addr.add]
 | 2, hj => simp at hj; subst hj; simp [Addr.add]
 | 3, hj => simp at hj; subst hj; simp [Addr.add]
 | j + 4, hj => simp at hj
theorem below_drewN {B : Nat} {a w : World} (h : Below B a w) (n : Nat) : Below B a (w.drewN n) := h.trans ⟨rfl, rfl, rfl, Nat.le_refl _, fun _ _ => rfl⟩
theorem cellsTok : Tryz.prog.cellsOf 70 = 4 := by kernel_rfl
theorem flatT_get (l : List Tok) (i : Nat) (h : i < l.length) : (flatT l)[i * 4]? = some (.int .i64 (l[i]'h).kind) ∧ (flatT l)[i * 4 + 1]? = some (.string (l[i]'h).text) ∧ (flatT l)[i * 4 + 2]? = some (.int .i64 (l[i]'h).n) ∧ (flatT l)[i * 4 + 3]? = some (.int .i64 (l[i]'h).pos) := by
 induction l generalizing i with
 | nil => simp at h
 | cons q l ih =>
  cases i with
  | zero => exact ⟨rfl, rfl, rfl, rfl⟩
  | succ i =>
   have := ih i (by simpa using h)
   simp only [Nat.succ_mul]
   simpa [flatT] using this
theorem tok_slice {w : World} {B : Nat} {v : Value} {l : List Tok} (h : w.ownsRow B 70 4 v l.length (flatT l)) : ∃ a cap, v = .slice a l.length cap ∧ (l ≠ [] → ∃ g, a = some ⟨g, 0, none⟩) := by
 rcases h.2 with ⟨rfl, h0⟩ | ⟨g, cap, cur, rfl, _⟩
 ·exact ⟨none, 0, by rw [h0], fun hn => (hn (List.eq_nil_of_length_eq_zero h0)).elim⟩
 ·exact ⟨_, cap, rfl, fun _ => ⟨g, rfl⟩⟩
end Go.Proofs.YtmpcmpeloebnhaaGreatDoor
namespace Go.Proofs.YtmpcmpeloebnhaaGreatDoor
open Go.RowKit
def oneName (s : ByteArray) : List Tok → Bool
 | [t, _] => decide (t.kind = 1) && (t.text.toList == s.toList)
 | _ => false
def nameB (s : ByteArray) : Bool := decide ((toks s).2.2 = 0) && oneName s (toks s).1
theorem toks_big (s : ByteArray) (h : ¬ s.size ≤ 2000) : toks s = ([], 0, 3) := by unfold toks; rw [if_neg h]
theorem nameB_big (s : ByteArray) (h : ¬ s.size ≤ 2000) : nameB s = false := by unfold nameB; rw [toks_big s h]; rfl
def isJoin (op : ByteArray) : Bool := op.toList == [117, 110, 105, 111, 110] || op.toList == [105, 110, 116, 101, 114] || op.toList == [109, 105, 110, 117, 115]
def fitB (named : Bool) (name : ByteArray) (ln mn n lk mk : Int) (len : Nat) (all : Bool) : Bool :=
 (if named then nameB name else name.toList == []) && (decide (ln ≤ n) && decide (n ≤ mn) && decide (lk ≤ (len : Int)) && decide ((len : Int) ≤ mk)) && all
def opF0 (op : ByteArray) : Bool := op.toList == [116, 114, 117, 101] || op.toList == [102, 97, 108, 115, 101]
def opF2 (op : ByteArray) : Bool := op.toList == [97, 110, 100] || op.toList == [111, 114] || op.toList == [105, 109, 112] || op.toList == [105, 102, 102]
def opFq (op : ByteArray) : Bool := op.toList == [101, 120] || op.toList == [97, 108, 108]
def opFr (op : ByteArray) : Bool := op.toList == [101, 113] || op.toList == [110, 101] || op.toList == [108, 116] || op.toList == [108, 101] || op.toList == [105, 110] || op.toList == [110, 111, 116, 105, 110] || op.toList == [115, 117, 98]
def stepF (op name : ByteArray) (n : Int) (len : Nat) (kf kt : Bool) : Bool :=
 if opF0 op then fitB false name 0 0 n 0 0 len true
 else if op.toList == [110, 111, 116] then fitB false name 0 0 n 1 1 len kf
 else if opF2 op then fitB false name 0 0 n 2 2 len kf
 else if opFq op then fitB true name 0 2 n 1 1 len kf
 else if op.toList == [105, 115] then fitB true name 0 0 n 0 0 len true
 else if opFr op then fitB false name 0 0 n 2 2 len kt
 else if op.toList == [99, 97, 108, 108] then fitB true name 0 0 n 0 6 len kt
 else false
def stepT (op name : ByteArray) (n : Int) (len : Nat) (kt kv kn second : Bool) : Bool :=
 if op.toList == [118, 97, 114] then fitB true name 0 0 n 0 0 len true
 else if op.toList == [110, 117, 109] then fitB false name 0 99 n 0 0 len true
 else if op.toList == [112, 108, 117, 115] then fitB false name 1 99 n 1 1 len kv
 else if op.toList == [115, 101, 116] then fitB false name 0 0 n 0 6 len kn
 else isJoin op && fitB false name 0 0 n 2 2 len kt && !second
def Fo.second : Fo → Bool
 | .cons _ _ _ _ _ _ _ (.cons op _ _ _ _ _ _ _) => isJoin op
 | _ => false
structure Sorts where
 f : Bool
 t : Bool
 v : Bool
 n : Bool
def Fo.sorts : Fo → Sorts
 | .nil => ⟨true, true, true, true⟩
 | .cons op name n _ _ _ kids rest =>
  let T := stepT op name n kids.len kids.sorts.t kids.sorts.v kids.sorts.n kids.second
  ⟨stepF op name n kids.len kids.sorts.f kids.sorts.t && rest.sorts.f, T && rest.sorts.t, (op.toList == [118, 97, 114] && T) && rest.sorts.v, (!(op.toList == [115, 101, 116]) && !isJoin op && T) && rest.sorts.n⟩
def Nd.okF (T : Nd) : Bool := stepF T.op T.name T.n T.kids.len T.kids.sorts.f T.kids.sorts.t
def Nd.okT (T : Nd) : Bool := stepT T.op T.name T.n T.kids.len T.kids.sorts.t T.kids.sorts.v T.kids.sorts.n T.kids.second
def Nd.okV (T : Nd) : Bool := T.op.toList == [118, 97, 114] && T.okT
def Nd.okN (T : Nd) : Bool := !(T.op.toList == [115, 101, 116]) && !isJoin T.op && T.okT
def Fo.allB (p : Nd → Bool) : Fo → Bool
 | .nil => true
 | .cons op name n pos a cap kids rest => p ⟨op, name, n, pos, a, cap, kids⟩ && rest.allB p
theorem sorts_f (F : Fo) : F.sorts.f = F.allB Nd.okF := by
 induction F with
 | nil => rfl
 | cons op name n pos a cap kids rest ihk ihr => show (_ && rest.sorts.f) = (_ && rest.allB Nd.okF); rw [ihr]; rfl
theorem sorts_t (F : Fo) : F.sorts.t = F.allB Nd.okT := by
 induction F with
 | nil => rfl
 | cons op name n pos a cap kids rest ihk ihr => show (_ && rest.sorts.t) = (_ && rest.allB Nd.okT); rw [ihr]; rfl
theorem sorts_v (F : Fo) : F.sorts.v = F.allB Nd.okV := by
 induction F with
 | nil => rfl
 | cons op name n pos a cap kids rest ihk ihr => show (_ && rest.sorts.v) = (_ && rest.allB Nd.okV); rw [ihr]; rfl
theorem sorts_n (F : Fo) : F.sorts.n = F.allB Nd.okN := by
 induction F with
 | nil => rfl
 | cons op name n pos a cap kids rest ihk ihr => show (_ && rest.sorts.n) = (_ && rest.allB Nd.okN); rw [ihr]; rfl
end Go.Proofs.YtmpcmpeloebnhaaGreatDoor
namespace Go.Proofs.YtmpcmpeloebnhaaGreatDoor
open Go.RowKit
structure Dc where
 name : ByteArray
 order : Int
 pos : Int
def DcAt (w : World) (b o : Nat) (d : Dc) : Prop := w.cell? ⟨b, o, none⟩ = some (.string d.name) ∧ w.cell? ⟨b, o + 1, none⟩ = some (.int .i64 d.order) ∧ w.cell? ⟨b, o + 2, none⟩ = some (.int .i64 d.pos)
theorem DcAt.below {w w' : World} (hb : Below w.heap.size w w') {b o : Nat} {d : Dc} (h : DcAt w b o d) : DcAt w' b o d := ⟨cell_below hb h.1, cell_below hb h.2.1, cell_below hb h.2.2⟩
def DcsIn (w : World) (a : Option Addr) (l : List Dc) : Prop := l = [] ∨ ∃ b o, a = some ⟨b, o, none⟩ ∧ l.length ≤ 140737488351232 ∧ (∀ i d, l[i]? = some d → DcAt w b (o + i * 3) d) ∧ ∀ d ∈ l, d.name.size ≤ 140737488351232
theorem DcsIn.below {w w' : World} (hb : Below w.heap.size w w') {a : Option Addr} {l : List Dc} (h : DcsIn w a l) : DcsIn w' a l := by
 rcases h with h | ⟨b, o, h1, h2, h3, h4⟩
 ·exact .inl h
 ·exact .inr ⟨b, o, h1, h2, fun i d hd => (h3 i d hd).below hb, h4⟩
theorem cellsDecl : Tryz.prog.cellsOf 109 = 3 := by kernel_rfl
structure Pd where
 name : ByteArray
 params : List Dc
 pa : Option Addr
 pcap : Nat
 body : Nd
 pos : Int
abbrev pdCells (nm : ByteArray) (pa : Option Addr) (pl pc : Nat) (op name : ByteArray) (n pos : Int) (a : Option Addr) (k cap : Nat) (at' : Int) : Array Value := #[.string nm, .slice pa pl pc, .string op, .string name, .int .i64 n, .int .i64 pos, .slice a k cap, .int .i64 at']
def PdAt (w : World) (b o : Nat) (p : Pd) : Prop := w.cell? ⟨b, o, none⟩ = some (.string p.name) ∧ w.cell? ⟨b, o + 1, none⟩ = some (.slice p.pa p.params.length p.pcap) ∧
 w.cell? ⟨b, o + 2, none⟩ = some (.string p.body.op) ∧ w.cell? ⟨b, o + 3, none⟩ = some (.string p.body.name) ∧ w.cell? ⟨b, o + 4, none⟩ = some (.int .i64 p.body.n) ∧ w.cell? ⟨b, o + 5, none⟩ = some (.int .i64 p.body.pos) ∧ w.cell? ⟨b, o + 6, none⟩ = some (.slice p.body.a p.body.kids.len p.body.cap) ∧ w.cell? ⟨b, o + 7, none⟩ = some (.int .i64 p.pos)
theorem PdAt.below {w w' : World} (hb : Below w.heap.size w w') {b o : Nat} {p : Pd} (h : PdAt w b o p) : PdAt w' b o p :=
 ⟨cell_below hb h.1, cell_below hb h.2.1, cell_below hb h.2.2.1, cell_below hb h.2.2.2.1, cell_below hb h.2.2.2.2.1, cell_below hb h.2.2.2.2.2.1, cell_below hb h.2.2.2.2.2.2.1, cell_below hb h.2.2.2.2.2.2.2⟩
theorem cellsPred : Tryz.prog.cellsOf 64 = 8 := by kernel_rfl
theorem pd_cells {w : World} {B : Nat} {nm : ByteArray} {pa : Option Addr} {pl pc : Nat} {op name : ByteArray} {n pos : Int} {a : Option Addr} {k cap : Nat} {at' : Int} (h : w.heap[B]? = some (.cells (pdCells nm pa pl pc op name n pos a k cap at') 64)) :
  w.cell? ⟨B, 0, none⟩ = some (.string nm) ∧ w.cell? ⟨B, 1, none⟩ = some (.slice pa pl pc) ∧ w.cell? ⟨B, 2, none⟩ = some (.string op) ∧ w.cell? ⟨B, 3, none⟩ = some (.string name) ∧ w.cell? ⟨B, 4, none⟩ = some (.int .i64 n) ∧ w.cell? ⟨B, 5, none⟩ = some (.int .i64 pos) ∧ w.cell? ⟨B, 6, none⟩ = some (.slice a k cap) := by
 refine ⟨?_, ?_, ?_, ?_, ?_, ?_, ?_⟩ <;> (rw [cell_of_row _ _ _ _ _ _ h]; rfl)
abbrev pgCells (da : Option Addr) (dlen dc : Nat) (pa : Option Addr) (pl pc : Nat) (op name : ByteArray) (n pos : Int) (a : Option Addr) (k cap : Nat) : Array Value := #[.slice da dlen dc, .slice pa pl pc, .string op, .string name, .int .i64 n, .int .i64 pos, .slice a k cap]
theorem pg_cells {w : World} {B : Nat} {da : Option Addr} {dlen dc : Nat} {pa : Option Addr} {pl pc : Nat} {op name : ByteArray} {n pos : Int} {a : Option Addr} {k cap : Nat} (h : w.heap[B]? = some (.cells (pgCells da dlen dc pa pl pc op name n pos a k cap) 28)) :
  w.cell? ⟨B, 0, none⟩ = some (.slice da dlen dc) ∧ w.cell? ⟨B, 1, none⟩ = some (.slice pa pl pc) ∧ w.cell? ⟨B, 2, none⟩ = some (.string op) ∧ w.cell? ⟨B, 3, none⟩ = some (.string name) ∧ w.cell? ⟨B, 4, none⟩ = some (.int .i64 n) ∧ w.cell? ⟨B, 5, none⟩ = some (.int .i64 pos) ∧ w.cell? ⟨B, 6, none⟩ = some (.slice a k cap) := by
 refine ⟨?_, ?_, ?_, ?_, ?_, ?_, ?_⟩ <;> (rw [cell_of_row _ _ _ _ _ _ h]; rfl)
open Go.ChangeShapes Go.WideShapes
theorem mem_weightsAll {H : Type} {P : Program} {e : TypeId} {n : Nat} : ∀ {l : List (DataW H)} {d : DataW H}, d ∈ l → n ∈ d.weights P e → n ∈ DataW.weightsAll P e l
 | d0 :: l, d, hd, hn => by
  simp only [DataW.weightsAll, List.mem_append]
  rcases List.mem_cons.1 hd with rfl | hd
  ·exact .inl hn
  ·exact .inr (mem_weightsAll hd hn)
def Nd.list (T : Nd) : List Value := [.string T.op, .string T.name, .int .i64 T.n, .int .i64 T.pos, .slice T.a T.kids.len T.cap]
structure NodeT (P : Program) (tn ts tstr tint : TypeId) : Prop where
 node : ∃ f0 f1 f2 f3 f4 : Field, P.underlying tn = some (.struct #[f0, f1, f2, f3, f4]) ∧ f0.type = tstr ∧ f1.type = tstr ∧ f2.type = tint ∧ f3.type = tint ∧ f4.type = ts ∧ f0.offset = 0 ∧ f1.offset = 1 ∧ f2.offset = 2 ∧ f3.offset = 3 ∧ f4.offset = 4
 slice : P.underlying ts = some (.slice tn)
 string : P.underlying tstr = some .string
 int : P.underlying tint = some (.int .i64)
 cn : P.cellsOf tn = 5
 cs : P.cellsOf ts = 1
 cstr : P.cellsOf tstr = 1
 cint : P.cellsOf tint = 1
 bytes : 0 < P.bytesOf tn
theorem reach_val : reachBytes = 140737488351232 := by decide
theorem build_row {w : World} {b o : Nat} : ∀ (m k : Nat), (∀ i, k ≤ i → i < k + m → ∃ T : Nd, NodeAt w b (o + i * 5) T.op T.name T.n T.pos T.a T.kids.len T.cap ∧ T.In w ∧ T.sized) → ∃ F : Fo, F.len = m ∧ F.In w b (o + k * 5) ∧ F.sized := by
 intro m
 induction m with
 | zero => intro k _; exact ⟨.nil, rfl, trivial, trivial⟩
 | succ m ih =>
  intro k h
  obtain ⟨T, h1, h2, h3⟩ := h k (Nat.le_refl _) (by omega)
  obtain ⟨F, hl, hin, hs⟩ := ih (k + 1) (fun i hi hi2 => h i (by omega) (by omega))
  refine ⟨.cons T.op T.name T.n T.pos T.a T.cap T.kids F, ?_, ⟨h1, h2, ?_⟩, ⟨h3.1, h3.2, hs⟩⟩
  ·show F.len + 1 = m + 1
   rw [hl]
  ·rw [show o + k * 5 + 5 = o + (k + 1) * 5 by omega]
   exact hin
section
variable {H : Type} {enc : TypeId × Value → H} {P : Program} {tn ts tstr tint : TypeId} {w : World}
theorem open_node (N : NodeT P tn ts tstr tint) : ∀ (fuel : Nat) (cs : List Value) (x : DataW H × List MemPlace), DataW.trod enc P w 0 (fun _ => true) true fuel tn cs = some x → (∀ n ∈ x.1.weights P tn, n ≤ reachBytes) → w.noneFrozen x.2 →
  ∃ T : Nd, cs = T.list ∧ T.In w ∧ T.sized := by
 intro fuel
 induction fuel using Nat.strongRecOn with
 | _ fuel ih =>
  intro cs x h hw hf
  obtain ⟨f0, f1, f2, f3, f4, hs, t0, t1, t2, t3, t4, o0, o1, o2, o3, o4⟩ := N.node
  obtain ⟨xs, m, rfl, rfl, hl, hlen, hfd⟩ := DataW.trod_struct hs h
  rw [N.cn] at hl
  match xs, hlen, cs, hl with
  | [y0, y1, y2, y3, y4], _, [v0, v1, v2, v3, v4], _ =>
   have g0 := hfd 0 f0 rfl
   have g1 := hfd 1 f1 rfl
   have g2 := hfd 2 f2 rfl
   have g3 := hfd 3 f3 rfl
   have g4 := hfd 4 f4 rfl
   simp [t0, t1, t2, t3, t4, o0, o1, o2, o3, o4, N.cs, N.cstr, N.cint] at g0 g1 g2 g3 g4
   obtain ⟨op, e0, rfl, _⟩ := DataW.trod_string N.string g0
   obtain ⟨name, e1, rfl, _⟩ := DataW.trod_string N.string g1
   obtain ⟨n, e2, rfl, _⟩ := DataW.trod_int N.int g2
   obtain ⟨pos, e3, rfl, _⟩ := DataW.trod_int N.int g3
   simp only [List.cons.injEq, and_true] at e0 e1 e2 e3
   subst e0 e1 e2 e3
   have hname : name.size ≤ 140737488351232 := by
    have := hw name.data.toList.length (by simp [DataW.weights, hs, DataW.weightsEach])
    rw [reach_val, ← Lib.size_eq] at this
    exact this
   rcases DataW.trod_slice N.slice g4 with ⟨e4, rfl⟩ | ⟨a, len, cap, elems, rest, m', rfl, e4, rfl, _, hlc, hcm, hel, he, hrest, _⟩
   ·simp only [List.cons.injEq, and_true] at e4
    subst e4
    exact ⟨⟨op, name, n, pos, none, 0, .nil⟩, rfl, .inl rfl, hname, trivial⟩
   ·simp only [List.cons.injEq, and_true] at e4
    subst e4
    rw [N.cn] at he hf
    rcases Nat.eq_zero_or_pos len with h0 | h0
    ·subst h0
     exact ⟨⟨op, name, n, pos, some a, cap, .nil⟩, rfl, .inl rfl, hname, trivial⟩
    have hbytes : len ≤ 140737488351232 := by
     have h1 := hw ((elems.length + rest.length) * P.bytesOf tn) (by simp [DataW.weights, hs, DataW.weightsEach, t4, N.slice])
     rw [reach_val, hel] at h1
     have h2 : len * 1 ≤ (len + rest.length) * P.bytesOf tn := Nat.mul_le_mul (by omega) N.bytes
     omega
    have hone : ∀ i, i < len → ∃ T : Nd, (∀ j, j < 5 → w.cell? ((a.add (i * 5)).add j) = T.list[j]?) ∧ T.In w ∧ T.sized := by
     intro i hi
     have h1 := he i hi
     obtain ⟨y, hy⟩ : ∃ y, elems[i]? = some y := ⟨_, List.getElem?_eq_getElem (by omega)⟩
     rw [hy, Option.bind_eq_some_iff] at h1
     obtain ⟨cs', hcells, ht⟩ := h1
     have hym : y ∈ elems := List.mem_of_getElem? hy
     obtain ⟨T, rfl, hin, hsz⟩ := ih m' (by omega) cs' y ht
      (fun n hn => hw n (by
       simp only [DataW.weights, hs, DataW.weightsEach, List.mem_append, List.map_cons, t4, N.slice, List.mem_cons]
       right; right; right; right; left; right; left
       exact mem_weightsAll (List.mem_map_of_mem hym) hn))
      (fun b' off hp => hf b' off (by
       simp only [List.flatMap_cons, List.mem_append]
       right; right; right; right; left; right
       exact List.mem_flatMap.2 ⟨y, List.mem_append_left _ hym, hp⟩))
     obtain ⟨_, _, hcell⟩ := World.cells?_some hcells
     exact ⟨T, hcell, hin, hsz⟩
    obtain ⟨b, o, spot⟩ := a
    obtain ⟨T0, hc0, _, _⟩ := hone 0 h0
    have hspot : spot = none := by
     have := hc0 0 (by omega)
     have := World.cell?_spot this
     simpa [Addr.add] using this
    subst hspot
    have hfr : w.frozen? ⟨b, o, none⟩ = false := hf b o (by
     simp only [List.flatMap_cons, List.mem_append]
     right; right; right; right; left; left
     refine MemPlace.mem_row.2 ⟨0, ?_, rfl⟩
     rw [hel]
     omega)
    obtain ⟨F, hFl, hFin, hFs⟩ := build_row (w := w) (b := b) (o := o) len 0 (by
     intro i _ hi
     obtain ⟨T, hc, hin, hsz⟩ := hone i (by omega)
     refine ⟨T, ⟨?_, ?_, ?_, ?_, ?_⟩, hin, hsz⟩
     ·have := hc 0 (by omega); rw [add_plain, add_plain] at this; exact this
     ·have := hc 1 (by omega); rw [add_plain, add_plain] at this; exact this
     ·have := hc 2 (by omega); rw [add_plain, add_plain] at this; exact this
     ·have := hc 3 (by omega); rw [add_plain, add_plain] at this; exact this
     ·have := hc 4 (by omega); rw [add_plain, add_plain] at this; exact this)
    rw [Nat.zero_mul, Nat.add_zero] at hFin
    refine ⟨⟨op, name, n, pos, some ⟨b, o, none⟩, cap, F⟩, ?_, .inr ⟨b, o, rfl, ?_, ⟨?_, hfr⟩, hFin⟩, hname, hFs⟩
    ·show _ = [_, _, _, _, Value.slice _ F.len _]
     rw [hFl]
    ·show F.len ≤ _
     rw [hFl]; exact hbytes
    ·show 0 < F.len
     rw [hFl]; exact h0
end
section
variable {H : Type} {enc : TypeId × Value → H} {P : Program} {w : World}
theorem open_slice_of {ts te : TypeId} {c : Nat} {Q : List Value → Prop} (hs : P.underlying ts = some (.slice te)) (hc : P.cellsOf te = c) (hc0 : 0 < c) (hb0 : 0 < P.bytesOf te)
  (hQl : ∀ l, Q l → 0 < l.length)
  (op : ∀ (fuel : Nat) (cs : List Value) (x : DataW H × List MemPlace), DataW.trod enc P w 0 (fun _ => true) true fuel te cs = some x → (∀ n ∈ x.1.weights P te, n ≤ reachBytes) → w.noneFrozen x.2 → Q cs)
  {fuel : Nat} {cs : List Value} {x : DataW H × List MemPlace} (h : DataW.trod enc P w 0 (fun _ => true) true fuel ts cs = some x) (hw : ∀ n ∈ x.1.weights P ts, n ≤ reachBytes) (hf : w.noneFrozen x.2) :
  ∃ (a : Option Addr) (len cap : Nat), cs = [.slice a len cap] ∧ (len = 0 ∨ ∃ b o, a = some ⟨b, o, none⟩ ∧ len ≤ 140737488351232 ∧ w.frozen? ⟨b, o, none⟩ = false ∧ ∀ i, i < len → ∃ l, Q l ∧ ∀ j, j < c → w.cell? ⟨b, o + i * c + j, none⟩ = l[j]?) := by
 rcases DataW.trod_slice hs h with ⟨e4, rfl⟩ | ⟨a, len, cap, elems, rest, m', rfl, e4, rfl, _, hlc, hcm, hel, he, hrest, _⟩
 ·exact ⟨none, 0, 0, e4, .inl rfl⟩
 refine ⟨some a, len, cap, e4, ?_⟩
 rcases Nat.eq_zero_or_pos len with h0 | h0
 ·exact .inl h0
 right
 rw [hc] at he hf
 have hbytes : len ≤ 140737488351232 := by
  have h1 := hw ((elems.length + rest.length) * P.bytesOf te) (by simp [DataW.weights, hs])
  rw [reach_val, hel] at h1
  have h2 : len * 1 ≤ (len + rest.length) * P.bytesOf te := Nat.mul_le_mul (by omega) hb0
  omega
 have hone : ∀ i, i < len → ∃ l, Q l ∧ ∀ j, j < c → w.cell? ((a.add (i * c)).add j) = l[j]? := by
  intro i hi
  have h1 := he i hi
  obtain ⟨y, hy⟩ : ∃ y, elems[i]? = some y := ⟨_, List.getElem?_eq_getElem (by omega)⟩
  rw [hy, Option.bind_eq_some_iff] at h1
  obtain ⟨cs', hcells, ht⟩ := h1
  have hym : y ∈ elems := List.mem_of_getElem? hy
  have hq := op m' cs' y ht
   (fun n hn => hw n (by
    simp only [DataW.weights, hs, List.mem_append, List.mem_cons]
    right; left
    exact mem_weightsAll (List.mem_map_of_mem hym) hn))
   (fun b' off hp => hf b' off (by
    simp only [List.mem_append]
    right
    exact List.mem_flatMap.2 ⟨y, List.mem_append_left _ hym, hp⟩))
  obtain ⟨_, _, hcell⟩ := World.cells?_some hcells
  exact ⟨cs', hq, hcell⟩
 obtain ⟨b, o, spot⟩ := a
 obtain ⟨l0, hq0, hc00⟩ := hone 0 h0
 have hspot : spot = none := by
  have h1 := hc00 0 hc0
  obtain ⟨v, hv⟩ : ∃ v, l0[0]? = some v := ⟨_, List.getElem?_eq_getElem (hQl _ hq0)⟩
  rw [hv] at h1
  have := World.cell?_spot h1
  simpa [Addr.add] using this
 subst hspot
 have hfr : w.frozen? ⟨b, o, none⟩ = false := hf b o (by
  simp only [List.mem_append]
  left
  refine MemPlace.mem_row.2 ⟨0, ?_, rfl⟩
  rw [hel]
  exact Nat.mul_pos (by omega) hc0)
 refine ⟨b, o, rfl, hbytes, hfr, fun i hi => ?_⟩
 obtain ⟨l, hq, hcl⟩ := hone i hi
 refine ⟨l, hq, fun j hj => ?_⟩
 have := hcl j hj
 rw [add_plain, add_plain] at this
 exact this
structure DeclT (P : Program) (td tds tstr tint : TypeId) : Prop where
 decl : ∃ f0 f1 f2 : Field, P.underlying td = some (.struct #[f0, f1, f2]) ∧ f0.type = tstr ∧ f1.type = tint ∧ f2.type = tint ∧ f0.offset = 0 ∧ f1.offset = 1 ∧ f2.offset = 2
 slice : P.underlying tds = some (.slice td)
 string : P.underlying tstr = some .string
 int : P.underlying tint = some (.int .i64)
 cd : P.cellsOf td = 3
 cs : P.cellsOf tds = 1
 cstr : P.cellsOf tstr = 1
 cint : P.cellsOf tint = 1
 bytes : 0 < P.bytesOf td
theorem open_dc {td tds tstr tint : TypeId} (N : DeclT P td tds tstr tint) (fuel : Nat) (cs : List Value) (x : DataW H × List MemPlace) (h : DataW.trod enc P w 0 (fun _ => true) true fuel td cs = some x) (hw : ∀ n ∈ x.1.weights P td, n ≤ reachBytes) (_ : w.noneFrozen x.2) :
  ∃ d : Dc, cs = [.string d.name, .int .i64 d.order, .int .i64 d.pos] ∧ d.name.size ≤ 140737488351232 := by
 obtain ⟨f0, f1, f2, hs, t0, t1, t2, o0, o1, o2⟩ := N.decl
 obtain ⟨xs, m, rfl, rfl, hl, hlen, hfd⟩ := DataW.trod_struct hs h
 rw [N.cd] at hl
 match xs, hlen, cs, hl with
 | [y0, y1, y2], _, [v0, v1, v2], _ =>
  have g0 := hfd 0 f0 rfl
  have g1 := hfd 1 f1 rfl
  have g2 := hfd 2 f2 rfl
  simp [t0, t1, t2, o0, o1, o2, N.cstr, N.cint] at g0 g1 g2
  obtain ⟨name, e0, rfl, _⟩ := DataW.trod_string N.string g0
  obtain ⟨n, e1, rfl, _⟩ := DataW.trod_int N.int g1
  obtain ⟨pos, e2, rfl, _⟩ := DataW.trod_int N.int g2
  simp only [List.cons.injEq, and_true] at e0 e1 e2
  subst e0 e1 e2
  have hname : name.size ≤ 140737488351232 := by
   have := hw name.data.toList.length (by simp [DataW.weights, hs, DataW.weightsEach])
   rw [reach_val, ← Lib.size_eq] at this
   exact this
  exact ⟨⟨name, n, pos⟩, rfl, hname⟩
theorem list_of {α : Type} {p : Nat → α → Prop} : ∀ (n : Nat), (∀ i, i < n → ∃ x, p i x) → ∃ l : List α, l.length = n ∧ ∀ i x, l[i]? = some x → p i x := by
 intro n
 induction n with
 | zero => intro _; exact ⟨[], rfl, fun i x h => by simp at h⟩
 | succ n ih =>
  intro h
  obtain ⟨l, hl, hp⟩ := ih fun i hi => h i (by omega)
  obtain ⟨x, hx⟩ := h n (by omega)
  refine ⟨l ++ [x], by simp [hl], fun i y hy => ?_⟩
  rcases Nat.lt_or_ge i n with hi | hi
  ·rw [List.getElem?_append_left (by omega)] at hy
   exact hp i y hy
  ·rw [List.getElem?_append_right (by omega)] at hy
   have : i - l.length = 0 := by
    rcases Nat.eq_zero_or_pos (i - l.length) with h0 | h0
    ·exact h0
    ·rw [List.getElem?_eq_none (by simp; omega)] at hy
     cases hy
   rw [this] at hy
   simp at hy
   subst hy
   have : i = n := by omega
   subst this
   exact hx
theorem open_dcs {td tds tstr tint : TypeId} (N : DeclT P td tds tstr tint) {fuel : Nat} {cs : List Value} {x : DataW H × List MemPlace} (h : DataW.trod enc P w 0 (fun _ => true) true fuel tds cs = some x) (hw : ∀ n ∈ x.1.weights P tds, n ≤ reachBytes) (hf : w.noneFrozen x.2) :
  ∃ (a : Option Addr) (l : List Dc) (cap : Nat), cs = [.slice a l.length cap] ∧ DcsIn w a l := by
 obtain ⟨a, len, cap, rfl, h1⟩ := open_slice_of (Q := fun cs => ∃ d : Dc, cs = [.string d.name, .int .i64 d.order, .int .i64 d.pos] ∧ d.name.size ≤ 140737488351232) N.slice N.cd (by omega) N.bytes (fun l ⟨d, hd, _⟩ => by subst hd; simp) (open_dc N) h hw hf
 rcases h1 with rfl | ⟨b, o, rfl, hlim, _, hat⟩
 ·exact ⟨a, [], cap, rfl, .inl rfl⟩
 ·obtain ⟨l, rfl, hp⟩ := list_of (p := fun i (d : Dc) => DcAt w b (o + i * 3) d ∧ d.name.size ≤ 140737488351232) len (by
   intro i hi
   obtain ⟨l, ⟨d, rfl, hd⟩, hc⟩ := hat i hi
   exact ⟨d, ⟨hc 0 (by omega), hc 1 (by omega), hc 2 (by omega)⟩, hd⟩)
  refine ⟨_, l, cap, rfl, .inr ⟨b, o, rfl, hlim, fun i d hd => (hp i d hd).1, fun d hd => ?_⟩⟩
  obtain ⟨i, hi⟩ := List.getElem?_of_mem hd
  exact (hp i d hi).2
end
theorem nodeT : NodeT Tryz.prog 26 24 9 3 where
 node := ⟨_, _, _, _, _, Tryz.underlying26, rfl, rfl, rfl, rfl, rfl, rfl, rfl, rfl, rfl, rfl⟩
 slice := Tryz.underlying24
 string := Tryz.underlying9
 int := Tryz.underlying3
 cn := by kernel_rfl
 cs := by kernel_rfl
 cstr := by kernel_rfl
 cint := by kernel_rfl
 bytes := by decide +kernel
theorem declT : DeclT Tryz.prog 109 22 9 3 where
 decl := ⟨_, _, _, Tryz.underlying109, rfl, rfl, rfl, rfl, rfl, rfl⟩
 slice := Tryz.underlying22
 string := Tryz.underlying9
 int := Tryz.underlying3
 cd := by kernel_rfl
 cs := by kernel_rfl
 cstr := by kernel_rfl
 cint := by kernel_rfl
 bytes := by decide +kernel
end Go.Proofs.YtmpcmpeloebnhaaGreatDoor
namespace Go.Proofs.YtmpcmpeloebnhaaGreatDoor
open Go.RowKit
structure KR where
 k : Int
 pos : Int
 e : Int
structure KS where
 n1 : Int × Int
 n2 : Int × Int
 h : KR
def stepK (O : ByteArray → Int) (op name : ByteArray) (pos : Int) (ks : KS) : KR :=
 if op.toList == [118, 97, 114] then (if O name < 0 then ⟨0, pos, 5⟩ else ⟨O name, 0, 0⟩)
 else if op.toList == [110, 117, 109] then ⟨1, 0, 0⟩
 else if op.toList == [112, 108, 117, 115] then (if ks.h.e = 0 then (if ks.h.k = 1 then ⟨1, 0, 0⟩ else ⟨0, pos, 7⟩) else ⟨0, ks.h.pos, ks.h.e⟩)
 else if op.toList == [115, 101, 116] then (if ks.n1.2 = 0 then ⟨2, 0, 0⟩ else ⟨0, ks.n1.1, ks.n1.2⟩)
 else (if ks.n2.2 = 0 then ⟨2, 0, 0⟩ else ⟨0, ks.n2.1, ks.n2.2⟩)
def mustK (want : Int) (r : KR) (pos : Int) (q : Int × Int) : Int × Int := if r.e = 0 then (if r.k = want then q else (pos, 7)) else (r.pos, r.e)
def Fo.ks (O : ByteArray → Int) : Fo → KS
 | .nil => ⟨(0, 0), (0, 0), ⟨0, 0, 0⟩⟩
 | .cons op name _ pos _ _ kids rest => ⟨mustK 1 (stepK O op name pos (kids.ks O)) pos (rest.ks O).n1, mustK 2 (stepK O op name pos (kids.ks O)) pos (rest.ks O).n2, stepK O op name pos (kids.ks O)⟩
def Nd.kd (O : ByteArray → Int) (T : Nd) : KR := stepK O T.op T.name T.pos (T.kids.ks O)
def Fo.rest : Fo → Fo
 | .nil => .nil
 | .cons _ _ _ _ _ _ _ r => r
def relOk (op : ByteArray) (a b : Int) : Bool :=
 if op.toList == [101, 113] || op.toList == [110, 101] then decide (a = b) && !decide (a = 0)
 else if op.toList == [108, 116] || op.toList == [108, 101] then decide (a = 1) && decide (b = 1)
 else if op.toList == [105, 110] || op.toList == [110, 111, 116, 105, 110] then decide (a = 1) && decide (b = 2)
 else decide (a = 2) && decide (b = 2)
def relK (op : ByteArray) (pos : Int) (x y : KR) : Int × Int :=
 if x.e = 0 then (if y.e = 0 then (if relOk op x.k y.k then (0, 0) else (pos, 7)) else (y.pos, y.e)) else (x.pos, x.e)
def callK (O : ByteArray → Int) (pos : Int) : Fo → List Dc → Int × Int
 | .cons op name _ p _ _ kids rest, d :: ds => if (stepK O op name p (kids.ks O)).e = 0 then (if (stepK O op name p (kids.ks O)).k = d.order then callK O pos rest ds else (pos, 7)) else ((stepK O op name p (kids.ks O)).pos, (stepK O op name p (kids.ks O)).e)
 | _, _ => (0, 0)
def updO (O : ByteArray → Int) (x : ByteArray) (k : Int) : ByteArray → Int := fun y => if y = x then k else O y
def stepFK (O : ByteArray → Int) (Q : ByteArray → Option (List Dc)) (op name : ByteArray) (n pos : Int) (kids : Fo) (kf : (ByteArray → Int) → Int × Int) : Int × Int :=
 if op.toList == [101, 120] || op.toList == [97, 108, 108] then kf (updO O name n)
 else if op.toList == [105, 115] then (if O name < 0 then (pos, 5) else if O name = 0 then (0, 0) else (pos, 7))
 else if opFr op then relK op pos (kids.ks O).h (kids.rest.ks O).h
 else if op.toList == [99, 97, 108, 108] then (match Q name with | none => (pos, 5) | some ds => if kids.len = ds.length then callK O pos kids ds else (pos, 7))
 else kf O
def Fo.fs (Q : ByteArray → Option (List Dc)) : Fo → (ByteArray → Int) → Int × Int
 | .nil, _ => (0, 0)
 | .cons op name n pos _ _ kids rest, O => if (stepFK O Q op name n pos kids (kids.fs Q)).2 = 0 then rest.fs Q O else stepFK O Q op name n pos kids (kids.fs Q)
def Nd.fk (Q : ByteArray → Option (List Dc)) (O : ByteArray → Int) (T : Nd) : Int × Int := stepFK O Q T.op T.name T.n T.pos T.kids (T.kids.fs Q)
def ordD (l : List Dc) : ByteArray → Int := l.foldl (fun O d => updO O d.name d.order) (fun _ => -1)
theorem ordD_snoc (l : List Dc) (d : Dc) : ordD (l ++ [d]) = updO (ordD l) d.name d.order := by
 unfold ordD
 rw [List.foldl_append]
 rfl
def predsK (l : List Pd) (x : ByteArray) : Option (List Dc) := (l.find? fun p => decide (p.name = x)).map Pd.params
end Go.Proofs.YtmpcmpeloebnhaaGreatDoor
namespace Go.Proofs.YtmpcmpeloebnhaaGreatDoor
open Go.RowKit
open Go.Maps
abbrev scV (M : Nat) (pv : Value) : Value := .agg #[.map (some M), pv]
abbrev scBox (M : Nat) (pv : Value) : Obj := .cells #[.map (some M), pv] 83
theorem cellsScope : Tryz.prog.cellsOf 83 = 2 := by kernel_rfl
theorem sc_cells {w : World} {B M : Nat} {pv : Value} (h : w.heap[B]? = some (scBox M pv)) : w.cell? ⟨B, 0, none⟩ = some (.map (some M)) ∧ w.cell? ⟨B, 1, none⟩ = some pv := by
 refine ⟨?_, ?_⟩ <;> (rw [cell_of_row _ _ _ _ _ _ h]; rfl)
def OrdIs (w : World) (M n : Nat) (O : ByteArray → Int) : Prop := ∃ f : ByteArray → Option Value, SMap Tryz.prog 9 w M n f ∧ ∀ s, (f s = none ∧ O s = -1) ∨ f s = some (.int .i64 (O s))
theorem OrdIs.same {w w' : World} {M n : Nat} {O : ByteArray → Int} (h : OrdIs w M n O) (hs : w'.heap[M]? = w.heap[M]?) : OrdIs w' M n O := by
 obtain ⟨f, h1, h2⟩ := h
 exact ⟨f, h1.same hs, h2⟩
theorem OrdIs.lt {w : World} {M n : Nat} {O : ByteArray → Int} (h : OrdIs w M n O) : M < w.heap.size := by
 obtain ⟨f, h1, h2⟩ := h
 exact h1.lt
theorem OrdIs.below {w w' : World} {M n : Nat} {O : ByteArray → Int} (h : OrdIs w M n O) (hb : Below w.heap.size w w') : OrdIs w' M n O := h.same (hb.block M h.lt)
theorem OrdIs.drew {w : World} {M n : Nat} {O : ByteArray → Int} (h : OrdIs w M n O) : OrdIs w.drew M n O := h.same rfl
theorem zeroInt (w : World) : (zeroValue 3).run Tryz.prog w = .ok (.int .i64 0) w := by kernel_rfl
set_option maxRecDepth 100000 in
set_option maxHeartbeats 8000000 in
theorem korder_any (M n : Nat) (pv : Value) (O : ByteArray → Int) (name : ByteArray) (w : World) (h : OrdIs w M n O) (hs : name.size ≤ 140737488351232) :
  Calls Tryz.prog 93 #[scV M pv, .string name] w fun e w' => e = .returned (.int .i64 (O name)) ∧ Below w.heap.size w w' := by
 obtain ⟨f, h1, h2⟩ := h
 have hc2 := cellsScope
 have HM := Lib.hid (h1.same (show (w.alloc (scBox M pv)).heap[M]? = w.heap[M]? from Below.heap_alloc _ _ _ h1.lt))
 obtain ⟨k0, k1⟩ := sc_cells (new_at w (scBox M pv))
 have hsz : name.size ≤ maxLen := by unfold maxLen; omega
 rcases h2 name with ⟨hn, hO⟩ | hn
 ·rw [hO]
  clear h2 h1 hO
  have HN := Lib.hid hn
  clear hn
  go_enter Tryz.func93, Tryz.ntmps93
  go_wp2_with (at_lookup; refine wpList_lookup_smap _ rfl _ _ 81 rfl 9 3 Tryz.underlying9 Tryz.underlying81 (zeroInt _) M n f rfl HM.out name rfl hsz ?_; rw [HN.out])
  go_wp2_with fail
  go_ret
  exact ⟨rfl, below_box _ _⟩
 ·generalize O name = k at hn ⊢
  clear h2 h1
  have HN := Lib.hid hn
  clear hn
  go_enter Tryz.func93, Tryz.ntmps93
  go_wp2_with (at_lookup; refine wpList_lookup_smap _ rfl _ _ 81 rfl 9 3 Tryz.underlying9 Tryz.underlying81 (zeroInt _) M n f rfl HM.out name rfl hsz ?_; rw [HN.out])
  go_wp2_with fail
  go_ret
  exact ⟨rfl, below_box _ _⟩
theorem fitB_len {nm : Bool} {name : ByteArray} {ln mn n lk mk : Int} {len : Nat} {all : Bool} (h : fitB nm name ln mn n lk mk len all = true) : lk ≤ (len : Int) ∧ (len : Int) ≤ mk ∧ all = true := by
 unfold fitB at h
 simp only [Bool.and_eq_true, decide_eq_true_eq] at h
 exact ⟨h.1.2.1.2, h.1.2.2, h.2⟩
theorem allB_imp {p q : Nd → Bool} (h : ∀ T, p T = true → q T = true) : ∀ {F : Fo}, F.allB p = true → F.allB q = true := by
 intro F
 induction F with
 | nil => intro _; rfl
 | cons op name n pos a cap kids rest ihk ihr =>
  intro h1
  have h2 : (p ⟨op, name, n, pos, a, cap, kids⟩ && rest.allB p) = true := h1
  rw [Bool.and_eq_true] at h2
  show (q ⟨op, name, n, pos, a, cap, kids⟩ && rest.allB q) = true
  rw [h _ h2.1, ihr h2.2]
  rfl
theorem nil_of_len {F : Fo} (h : F.len = 0) : F = .nil := by
 cases F with
 | nil => rfl
 | cons op name n pos a cap kids rest => cases h
theorem kids_okT {T : Nd} (h : T.okT = true) : T.kids.allB Nd.okT = true ∧ ((T.op.toList == [112, 108, 117, 115]) = true → T.kids.len = 1) := by
 have h0 : stepT T.op T.name T.n T.kids.len T.kids.sorts.t T.kids.sorts.v T.kids.sorts.n T.kids.second = true := h
 unfold stepT at h0
 split at h0
 ·rename_i h1
  have h2 := fitB_len h0
  have h3 := nil_of_len (F := T.kids) (by omega)
  refine ⟨by rw [h3]; rfl, fun h4 => ?_⟩
  rw [beq_iff_eq] at h1 h4
  rw [h1] at h4
  cases h4
 ·split at h0
  ·rename_i h1
   have h2 := fitB_len h0
   have h3 := nil_of_len (F := T.kids) (by omega)
   refine ⟨by rw [h3]; rfl, fun h4 => ?_⟩
   rw [beq_iff_eq] at h1 h4
   rw [h1] at h4
   cases h4
  ·split at h0
   ·have h2 := fitB_len h0
    refine ⟨?_, fun _ => by omega⟩
    have h3 := h2.2.2
    rw [sorts_v] at h3
    exact allB_imp (fun T hT => by unfold Nd.okV at hT; rw [Bool.and_eq_true] at hT; exact hT.2) h3
   ·rename_i h9
    split at h0
    ·have h2 := fitB_len h0
     have h3 := h2.2.2
     rw [sorts_n] at h3
     exact ⟨allB_imp (fun T hT => by unfold Nd.okN at hT; rw [Bool.and_eq_true] at hT; exact hT.2) h3, fun h4 => absurd h4 h9⟩
    ·rw [Bool.and_eq_true, Bool.and_eq_true] at h0
     have h3 := (fitB_len h0.1.2).2.2
     rw [sorts_t] at h3
     exact ⟨h3, fun h4 => absurd h4 h9⟩
def Fo.al (O : ByteArray → Int) (want : Int) : Fo → Int × Int
 | .nil => (0, 0)
 | .cons op name n pos a cap kids rest => mustK want (Nd.kd O ⟨op, name, n, pos, a, cap, kids⟩) pos (rest.al O want)
theorem al_1 (O : ByteArray → Int) (F : Fo) : (F.ks O).n1 = F.al O 1 := by
 induction F with
 | nil => rfl
 | cons op name n pos a cap kids rest ihk ihr => show mustK 1 _ pos (rest.ks O).n1 = mustK 1 _ pos (rest.al O 1); rw [ihr]; rfl
theorem al_2 (O : ByteArray → Int) (F : Fo) : (F.ks O).n2 = F.al O 2 := by
 induction F with
 | nil => rfl
 | cons op name n pos a cap kids rest ihk ihr => show mustK 2 _ pos (rest.ks O).n2 = mustK 2 _ pos (rest.al O 2); rw [ihr]; rfl
def SayKd (T : Nd) : Prop := ∀ (w : World) (M n : Nat) (pv : Value) (O : ByteArray → Int), OrdIs w M n O → T.In w → T.sized → T.okT = true → Calls Tryz.prog 55 #[scV M pv, T.val] w fun e w' => e = .returned (.tuple #[.int .i64 (T.kd O).k, .int .i64 (T.kd O).pos, .int .i64 (T.kd O).e]) ∧ Below w.heap.size w w'
theorem stepK_pos (O : ByteArray → Int) (op name : ByteArray) (pos : Int) (ks : KS) (h : (stepK O op name pos ks).e = 0) : (stepK O op name pos ks).pos = 0 := by
 revert h
 unfold stepK
 repeat' split
 all_goals first | (intro _; rfl) | (intro h; exact absurd h (by first | assumption | simp))
set_option maxRecDepth 100000 in
set_option maxHeartbeats 8000000 in
theorem kmust_of (T : Nd) (hT : SayKd T) (w : World) (M n : Nat) (pv : Value) (O : ByteArray → Int) (want place : Int) (ho : OrdIs w M n O) (hin : T.In w) (hsz : T.sized) (hok : T.okT = true) :
  Calls Tryz.prog 94 #[scV M pv, .int .i64 want, T.val, .int .i64 place] w fun e w' => e = .returned (.tuple #[.int .i64 (mustK want (T.kd O) place (0, 0)).1, .int .i64 (mustK want (T.kd O) place (0, 0)).2]) ∧ Below w.heap.size w w' := by
 have hc2 := cellsScope
 have hc5 := cellsNode
 have hW := two_boxes w (scBox M pv) (boxOf T.op T.name T.n T.pos T.a T.kids.len T.cap)
 have HC := hT _ M n pv O (ho.below hW) (hin.below hW) hsz hok
 have hps : (T.kd O).e = 0 → (T.kd O).pos = 0 := stepK_pos O T.op T.name T.pos (T.kids.ks O)
 generalize T.kd O = r at HC hps ⊢
 obtain ⟨rk, rp, re⟩ := r
 simp only [] at HC hps ⊢
 rw [Nd.val_def] at HC ⊢
 have HC := Lib.hid HC
 have HW := Lib.hid hW
 clear hW hT ho hin
 have hx : w.heap.size < (w.alloc (scBox M pv)).heap.size := by simp
 obtain ⟨k0, k1⟩ := sc_cells ((Below.heap_alloc (w.alloc (scBox M pv)) (boxOf T.op T.name T.n T.pos T.a T.kids.len T.cap) _ hx).trans (new_at w (scBox M pv)))
 obtain ⟨b0, b1, b2, b3, b4⟩ := box_cells (show ((w.alloc (scBox M pv)).alloc (boxOf T.op T.name T.n T.pos T.a T.kids.len T.cap)).heap[w.heap.size + 1]? = some (boxOf T.op T.name T.n T.pos T.a T.kids.len T.cap) from by have h := new_at (w.alloc (scBox M pv)) (boxOf T.op T.name T.n T.pos T.a T.kids.len T.cap); rw [alloc_size] at h; exact h)
 by_cases he : re = 0
 ·subst he
  obtain rfl := hps rfl
  by_cases hk : rk = want
  ·subst hk
   have hm : mustK rk ⟨rk, 0, 0⟩ place (0, 0) = (0, 0) := by unfold mustK; simp
   rw [hm]
   have hkb : (rk != rk) = false := by simp
   clear hm
   go_enter Tryz.func94, Tryz.ntmps94
   go_wp2_with fail
   refine HC.out.mono ?_
   rintro e w2 ⟨rfl, hb2⟩
   have hbb := HW.out.trans (hb2.mono HW.out.size)
   clear hb2 HC
   go_wp2_with fail
   go_ret2
   exact ⟨rfl, hbb⟩
  ·have hm : mustK want ⟨rk, 0, 0⟩ place (0, 0) = (place, 7) := by unfold mustK; simp [hk]
   rw [hm]
   have hkb : (rk != want) = true := by simp [hk]
   clear hm hk
   go_enter Tryz.func94, Tryz.ntmps94
   go_wp2_with fail
   refine HC.out.mono ?_
   rintro e w2 ⟨rfl, hb2⟩
   have hbb := HW.out.trans (hb2.mono HW.out.size)
   clear hb2 HC
   go_wp2_with fail
   go_ret2
   exact ⟨rfl, hbb⟩
 ·have hm : mustK want ⟨rk, rp, re⟩ place (0, 0) = (rp, re) := by unfold mustK; simp [he]
  rw [hm]
  have heb : (re == 0) = false := by simp [he]
  clear hm he hps
  go_enter Tryz.func94, Tryz.ntmps94
  go_wp2_with fail
  refine HC.out.mono ?_
  rintro e w2 ⟨rfl, hb2⟩
  have hbb := HW.out.trans (hb2.mono HW.out.size)
  clear hb2 HC
  go_wp2_with fail
  go_ret2
  exact ⟨rfl, hbb⟩
end Go.Proofs.YtmpcmpeloebnhaaGreatDoor
namespace Go.Proofs.YtmpcmpeloebnhaaGreatDoor
open Go.RowKit
open Go.Maps
theorem mustK_go {want : Int} {r : KR} {p : Int} {q : Int × Int} (h : (mustK want r p (0, 0)).2 = 0) : mustK want r p q = q := by
 unfold mustK at h ⊢
 by_cases he : r.e = 0
 ·rw [if_pos he] at h ⊢
  by_cases hk : r.k = want
  ·rw [if_pos hk]
  ·rw [if_neg hk] at h
   cases h
 ·rw [if_neg he] at h
  exact absurd h he
theorem mustK_stop {want : Int} {r : KR} {p : Int} {q : Int × Int} (h : ¬ (mustK want r p (0, 0)).2 = 0) : mustK want r p q = mustK want r p (0, 0) := by
 unfold mustK at h ⊢
 by_cases he : r.e = 0
 ·rw [if_pos he] at h ⊢
  by_cases hk : r.k = want
  ·rw [if_pos hk] at h
   exact absurd rfl h
  ·rw [if_neg hk, if_pos he, if_neg hk]
 ·rw [if_neg he, if_neg he]
def KidsIn (w : World) (a : Option Addr) (F : Fo) : Prop := F = .nil ∨ ∃ b o, a = some ⟨b, o, none⟩ ∧ F.len ≤ 140737488351232 ∧ (0 < F.len ∧ w.frozen? ⟨b, o, none⟩ = false) ∧ F.In w b o
set_option maxRecDepth 100000 in
set_option maxHeartbeats 16000000 in
theorem kall_of (F : Fo) (a : Option Addr) (cap : Nat) (w : World) (M n : Nat) (pv : Value) (O : ByteArray → Int) (want : Int) (ho : OrdIs w M n O) (hin : KidsIn w a F) (hs : F.sized) (hok : F.allB Nd.okT = true) (hk : Fo.All SayKd F) :
  Calls Tryz.prog 95 #[scV M pv, .int .i64 want, .slice a F.len cap] w fun e w' => e = .returned (.tuple #[.int .i64 (F.al O want).1, .int .i64 (F.al O want).2]) ∧ Below w.heap.size w w' := by
 have hc2 := cellsScope
 have hc5 := cellsNode
 have HO := Lib.hid ho
 have HS := Lib.hid (new_at w (scBox M pv))
 have HOK := Lib.hid hok
 have HSZ := Lib.hid hs
 clear ho hok hs
 rcases hin with rfl | ⟨kb, ko, rfl, hlim, hpos, hkin⟩
 ·have hz0 : ((Fo.nil.len : Nat) : Int) = 0 := rfl
  show Calls _ _ _ w fun e w' => e = .returned (.tuple #[.int .i64 0, .int .i64 0]) ∧ _
  go_enter Tryz.func95, Tryz.ntmps95
  go_wp2_with fail
  go_loopw [14] (fun i wr => i = .int .i64 0 ∧ Below w.heap.size w wr) (fun _ _ => 0)
  case atStart => exact ⟨rfl, below_box _ _⟩
  case round =>
   obtain ⟨rfl, hbx⟩ := hrel
   go_wp2_with fail
   go_ret2
   exact ⟨rfl, hbx⟩
 ·have HST := Lib.hid (Tail.start hkin hk)
  obtain ⟨q0, hq0⟩ : ∃ q0, F.al O want = q0 := ⟨_, rfl⟩
  rw [hq0]
  have HQ0 := Lib.hid hq0.symm
  clear hkin hpos hq0
  go_enter Tryz.func95, Tryz.ntmps95
  go_wp2_with fail
  go_loopw [14] (fun i wr => ∃ (k : Nat) (R : Fo), i = .int .i64 k ∧ RowKit.Hid (Tail wr SayKd F R kb ko k) ∧ RowKit.Hid (q0 = R.al O want) ∧ RowKit.Hid (R.allB Nd.okT = true) ∧ RowKit.Hid R.sized ∧ RowKit.Hid (wr.heap[w.heap.size]? = some (scBox M pv)) ∧ Below w.heap.size w wr) (fun i _ => F.len - (intOf i).toNat)
  case atStart => exact ⟨0, F, rfl, Lib.hid (HST.out.below (below_box _ _)), HQ0, HOK, HSZ, HS, below_box _ _⟩
  case round =>
   obtain ⟨k, R, rfl, HTL, HAL, HKO, HRS, HX, hbx⟩ := hrel
   obtain ⟨s0, s1⟩ := sc_cells HX.out
   cases R with
   | nil =>
    have hkl : k = F.len := by have := HTL.out.len; simpa [Fo.len] using this
    subst hkl
    have hz : q0 = (0, 0) := HAL.out
    subst hz
    go_wp2_with fail
    go_ret2
    exact ⟨rfl, hbx⟩
   | cons op1 name1 n1 pos1 a1 cap1 kids1 rest =>
    obtain ⟨hnode, hin1, hP, hkl, hnext⟩ := HTL.out.next
    have hkl2 : (k : Int) < F.len := by omega
    obtain ⟨c0, c1, c2, c3, c4⟩ := hnode
    have HN1 := Lib.hid hnext
    have hok2 : (Nd.okT ⟨op1, name1, n1, pos1, a1, cap1, kids1⟩ && rest.allB Nd.okT) = true := HKO.out
    rw [Bool.and_eq_true] at hok2
    have hcall := kmust_of ⟨op1, name1, n1, pos1, a1, cap1, kids1⟩ hP (wr.alloc (boxOf op1 name1 n1 pos1 a1 kids1.len cap1)) M n pv O want pos1 (HO.out.below (hbx.alloc hbx.size _)) (hin1.below (below_box _ _)) ⟨HRS.out.1, HRS.out.2.1⟩ hok2.1
    rw [Nd.val_def] at hcall
    have hal : q0 = mustK want (Nd.kd O ⟨op1, name1, n1, pos1, a1, cap1, kids1⟩) pos1 (rest.al O want) := HAL.out
    have hgo := @mustK_go want (Nd.kd O ⟨op1, name1, n1, pos1, a1, cap1, kids1⟩) pos1 (rest.al O want)
    have hstop := @mustK_stop want (Nd.kd O ⟨op1, name1, n1, pos1, a1, cap1, kids1⟩) pos1 (rest.al O want)
    generalize mustK want (Nd.kd O ⟨op1, name1, n1, pos1, a1, cap1, kids1⟩) pos1 (0, 0) = q at hcall hgo hstop
    obtain ⟨qp, qe⟩ := q
    simp only [] at hcall hgo hstop
    have HCL := Lib.hid hcall
    have HR2 := Lib.hid HRS.out.2.2
    have HK2 := Lib.hid hok2.2
    have HBX := Lib.hid (new_at wr (boxOf op1 name1 n1 pos1 a1 kids1.len cap1))
    obtain ⟨b0, b1, b2, b3, b4⟩ := box_cells HBX.out
    have hxs := lt_heap HX.out
    obtain ⟨r0, r1⟩ := sc_cells ((Below.heap_alloc wr (boxOf op1 name1 n1 pos1 a1 kids1.len cap1) _ hxs).trans HX.out)
    clear hnext hin1 hP hcall HTL hok2
    by_cases he : qe = 0
    ·have HA2 := Lib.hid (show q0 = rest.al O want from by rw [hal, hgo he])
     clear hal hgo hstop HAL
     subst he
     go_wp2_with fail
     refine HCL.out.mono ?_
     rintro e w3 ⟨rfl, hb3⟩
     have hbx2 := hbx.trans ((box_then hb3).mono hbx.size)
     have HX2 := Lib.hid (((box_then hb3).block _ (lt_heap HX.out)).trans HX.out)
     have HN2 := Lib.hid (HN1.out.below (box_then hb3))
     clear hb3 HN1 HX HCL b0 b1 b2 b3 b4 c0 c1 c2 c3 c4 s0 s1 r0 r1
     go_wp2_with fail
     go_roundw
     case rel => exact ⟨k + 1, rest, by go_num, HN2, HA2, HK2, HR2, HX2, hbx2⟩
     case measure => (try simp [intOf]); omega
    ·have HA2 := Lib.hid (show q0 = (qp, qe) from by rw [hal, hstop he])
     have heb : (qe != 0) = true := by simp [he]
     clear hal hgo hstop HAL he
     go_wp2_with fail
     refine HCL.out.mono ?_
     rintro e w3 ⟨rfl, hb3⟩
     have hbx2 := hbx.trans ((box_then hb3).mono hbx.size)
     clear hb3 HN1 HX HCL b0 b1 b2 b3 b4 c0 c1 c2 c3 c4 s0 s1 r0 r1
     go_wp2_with fail
     go_ret2
     rw [HA2.out]
     exact ⟨rfl, hbx2⟩
end Go.Proofs.YtmpcmpeloebnhaaGreatDoor
namespace Go.Proofs.YtmpcmpeloebnhaaGreatDoor
open Go.RowKit
open Go.Maps
set_option maxRecDepth 100000 in
set_option maxHeartbeats 16000000 in
theorem kd_var_no (op name : ByteArray) (n pos : Int) (a : Option Addr) (cap : Nat) (kids : Fo) (w : World) (M m : Nat) (pv : Value) (O : ByteArray → Int) (ho : OrdIs w M m O) (h0 : (op.toList == [118, 97, 114]) = true) (hs : name.size ≤ 140737488351232) (hn : O name < 0) :
  Calls Tryz.prog 55 #[scV M pv, .agg #[.string op, .string name, .int .i64 n, .int .i64 pos, .slice a kids.len cap]] w fun e w' => e = .returned (.tuple #[.int .i64 0, .int .i64 pos, .int .i64 5]) ∧ Below w.heap.size w w' := by
 have hc2 := cellsScope
 have hc5 := cellsNode
 have HW := Lib.hid (two_boxes w (scBox M pv) (boxOf op name n pos a kids.len cap))
 have hx : w.heap.size < (w.alloc (scBox M pv)).heap.size := by simp
 have HS := Lib.hid ((Below.heap_alloc (w.alloc (scBox M pv)) (boxOf op name n pos a kids.len cap) _ hx).trans (new_at w (scBox M pv)))
 have HB := Lib.hid (show ((w.alloc (scBox M pv)).alloc (boxOf op name n pos a kids.len cap)).heap[w.heap.size + 1]? = some (boxOf op name n pos a kids.len cap) from by have h := new_at (w.alloc (scBox M pv)) (boxOf op name n pos a kids.len cap); rw [alloc_size] at h; exact h)
 obtain ⟨k0, k1⟩ := sc_cells HS.out
 obtain ⟨b0, b1, b2, b3, b4⟩ := box_cells HB.out
 have HC := Lib.hid (korder_any M m pv O name _ (ho.below HW.out) hs)
 generalize O name = k at HC hn
 clear ho hs
 go_enter Tryz.func55, Tryz.ntmps55
 go_wp2_with fail
 refine HC.out.mono ?_
 rintro e w2 ⟨rfl, hb2⟩
 have hbb := HW.out.trans (hb2.mono HW.out.size)
 obtain ⟨b0, b1, b2, b3, b4⟩ := box_cells ((hb2.block _ (lt_heap HB.out)).trans HB.out)
 clear hb2 HC
 go_wp2_with fail
 go_region
 all_goals
  go_wp2_with fail
  go_ret3
  exact ⟨rfl, (by repeat (with_reducible first | exact hbb | refine Below.drew ?_))⟩
set_option maxRecDepth 100000 in
set_option maxHeartbeats 16000000 in
theorem kd_var_yes (op name : ByteArray) (n pos : Int) (a : Option Addr) (cap : Nat) (kids : Fo) (w : World) (M m : Nat) (pv : Value) (O : ByteArray → Int) (ho : OrdIs w M m O) (h0 : (op.toList == [118, 97, 114]) = true) (hs : name.size ≤ 140737488351232) (hn : ¬ O name < 0) :
  Calls Tryz.prog 55 #[scV M pv, .agg #[.string op, .string name, .int .i64 n, .int .i64 pos, .slice a kids.len cap]] w fun e w' => e = .returned (.tuple #[.int .i64 (O name), .int .i64 0, .int .i64 0]) ∧ Below w.heap.size w w' := by
 have hc2 := cellsScope
 have hc5 := cellsNode
 have HW := Lib.hid (two_boxes w (scBox M pv) (boxOf op name n pos a kids.len cap))
 have hx : w.heap.size < (w.alloc (scBox M pv)).heap.size := by simp
 have HS := Lib.hid ((Below.heap_alloc (w.alloc (scBox M pv)) (boxOf op name n pos a kids.len cap) _ hx).trans (new_at w (scBox M pv)))
 have HB := Lib.hid (show ((w.alloc (scBox M pv)).alloc (boxOf op name n pos a kids.len cap)).heap[w.heap.size + 1]? = some (boxOf op name n pos a kids.len cap) from by have h := new_at (w.alloc (scBox M pv)) (boxOf op name n pos a kids.len cap); rw [alloc_size] at h; exact h)
 obtain ⟨k0, k1⟩ := sc_cells HS.out
 obtain ⟨b0, b1, b2, b3, b4⟩ := box_cells HB.out
 have HC := Lib.hid (korder_any M m pv O name _ (ho.below HW.out) hs)
 generalize O name = k at HC hn ⊢
 clear ho hs
 go_enter Tryz.func55, Tryz.ntmps55
 go_wp2_with fail
 refine HC.out.mono ?_
 rintro e w2 ⟨rfl, hb2⟩
 have hbb := HW.out.trans (hb2.mono HW.out.size)
 obtain ⟨b0, b1, b2, b3, b4⟩ := box_cells ((hb2.block _ (lt_heap HB.out)).trans HB.out)
 clear hb2 HC
 go_wp2_with fail
 go_ret3
 exact ⟨rfl, hbb⟩
set_option maxRecDepth 100000 in
set_option maxHeartbeats 16000000 in
theorem kd_num (op name : ByteArray) (n pos : Int) (a : Option Addr) (cap : Nat) (kids : Fo) (w : World) (M m : Nat) (pv : Value) (O : ByteArray → Int) (ho : OrdIs w M m O) (h0 : (op.toList == [118, 97, 114]) = false) (h1 : (op.toList == [110, 117, 109]) = true) :
  Calls Tryz.prog 55 #[scV M pv, .agg #[.string op, .string name, .int .i64 n, .int .i64 pos, .slice a kids.len cap]] w fun e w' => e = .returned (.tuple #[.int .i64 1, .int .i64 0, .int .i64 0]) ∧ Below w.heap.size w w' := by
 have hc2 := cellsScope
 have hc5 := cellsNode
 have HW := Lib.hid (two_boxes w (scBox M pv) (boxOf op name n pos a kids.len cap))
 have hx : w.heap.size < (w.alloc (scBox M pv)).heap.size := by simp
 have HS := Lib.hid ((Below.heap_alloc (w.alloc (scBox M pv)) (boxOf op name n pos a kids.len cap) _ hx).trans (new_at w (scBox M pv)))
 have HB := Lib.hid (show ((w.alloc (scBox M pv)).alloc (boxOf op name n pos a kids.len cap)).heap[w.heap.size + 1]? = some (boxOf op name n pos a kids.len cap) from by have h := new_at (w.alloc (scBox M pv)) (boxOf op name n pos a kids.len cap); rw [alloc_size] at h; exact h)
 obtain ⟨k0, k1⟩ := sc_cells HS.out
 obtain ⟨b0, b1, b2, b3, b4⟩ := box_cells HB.out
 have _ := ho
 go_enter Tryz.func55, Tryz.ntmps55
 go_wp2_with fail
 go_ret3
 exact ⟨rfl, HW.out⟩
set_option maxRecDepth 100000 in
set_option maxHeartbeats 16000000 in
theorem kd_set_ok (op name : ByteArray) (n pos : Int) (a : Option Addr) (cap : Nat) (kids : Fo) (w : World) (M m : Nat) (pv : Value) (O : ByteArray → Int) (ho : OrdIs w M m O) (h0 : (op.toList == [118, 97, 114]) = false) (h1 : (op.toList == [110, 117, 109]) = false) (h2 : (op.toList == [112, 108, 117, 115]) = false) (h3 : (op.toList == [115, 101, 116]) = true) (q1 q2 : Int) (hq : q2 = 0) (hc : ∀ W, OrdIs W M m O → Below w.heap.size w W → Calls Tryz.prog 95 #[scV M pv, .int .i64 1, .slice a kids.len cap] W fun e w' => e = .returned (.tuple #[.int .i64 q1, .int .i64 q2]) ∧ Below W.heap.size W w') :
  Calls Tryz.prog 55 #[scV M pv, .agg #[.string op, .string name, .int .i64 n, .int .i64 pos, .slice a kids.len cap]] w fun e w' => e = .returned (.tuple #[.int .i64 2, .int .i64 0, .int .i64 0]) ∧ Below w.heap.size w w' := by
 have hc2 := cellsScope
 have hc5 := cellsNode
 have HW := Lib.hid (two_boxes w (scBox M pv) (boxOf op name n pos a kids.len cap))
 have hx : w.heap.size < (w.alloc (scBox M pv)).heap.size := by simp
 have HS := Lib.hid ((Below.heap_alloc (w.alloc (scBox M pv)) (boxOf op name n pos a kids.len cap) _ hx).trans (new_at w (scBox M pv)))
 have HB := Lib.hid (show ((w.alloc (scBox M pv)).alloc (boxOf op name n pos a kids.len cap)).heap[w.heap.size + 1]? = some (boxOf op name n pos a kids.len cap) from by have h := new_at (w.alloc (scBox M pv)) (boxOf op name n pos a kids.len cap); rw [alloc_size] at h; exact h)
 obtain ⟨k0, k1⟩ := sc_cells HS.out
 obtain ⟨b0, b1, b2, b3, b4⟩ := box_cells HB.out
 have HC := Lib.hid (hc _ (ho.below HW.out) HW.out)
 clear ho hc
 subst hq
 go_enter Tryz.func55, Tryz.ntmps55
 go_wp2_with fail
 refine HC.out.mono ?_
 rintro e w2 ⟨rfl, hb2⟩
 have hbb := HW.out.trans (hb2.mono HW.out.size)
 clear hb2 HC
 go_wp2_with fail
 go_ret3
 exact ⟨rfl, hbb⟩
set_option maxRecDepth 100000 in
set_option maxHeartbeats 16000000 in
theorem kd_set_bad (op name : ByteArray) (n pos : Int) (a : Option Addr) (cap : Nat) (kids : Fo) (w : World) (M m : Nat) (pv : Value) (O : ByteArray → Int) (ho : OrdIs w M m O) (h0 : (op.toList == [118, 97, 114]) = false) (h1 : (op.toList == [110, 117, 109]) = false) (h2 : (op.toList == [112, 108, 117, 115]) = false) (h3 : (op.toList == [115, 101, 116]) = true) (q1 q2 : Int) (hq : ¬ q2 = 0) (hc : ∀ W, OrdIs W M m O → Below w.heap.size w W → Calls Tryz.prog 95 #[scV M pv, .int .i64 1, .slice a kids.len cap] W fun e w' => e = .returned (.tuple #[.int .i64 q1, .int .i64 q2]) ∧ Below W.heap.size W w') :
  Calls Tryz.prog 55 #[scV M pv, .agg #[.string op, .string name, .int .i64 n, .int .i64 pos, .slice a kids.len cap]] w fun e w' => e = .returned (.tuple #[.int .i64 0, .int .i64 q1, .int .i64 q2]) ∧ Below w.heap.size w w' := by
 have hc2 := cellsScope
 have hc5 := cellsNode
 have HW := Lib.hid (two_boxes w (scBox M pv) (boxOf op name n pos a kids.len cap))
 have hx : w.heap.size < (w.alloc (scBox M pv)).heap.size := by simp
 have HS := Lib.hid ((Below.heap_alloc (w.alloc (scBox M pv)) (boxOf op name n pos a kids.len cap) _ hx).trans (new_at w (scBox M pv)))
 have HB := Lib.hid (show ((w.alloc (scBox M pv)).alloc (boxOf op name n pos a kids.len cap)).heap[w.heap.size + 1]? = some (boxOf op name n pos a kids.len cap) from by have h := new_at (w.alloc (scBox M pv)) (boxOf op name n pos a kids.len cap); rw [alloc_size] at h; exact h)
 obtain ⟨k0, k1⟩ := sc_cells HS.out
 obtain ⟨b0, b1, b2, b3, b4⟩ := box_cells HB.out
 have HC := Lib.hid (hc _ (ho.below HW.out) HW.out)
 clear ho hc
 have hqb : (q2 != 0) = true := by simp [hq]
 clear hq
 go_enter Tryz.func55, Tryz.ntmps55
 go_wp2_with fail
 refine HC.out.mono ?_
 rintro e w2 ⟨rfl, hb2⟩
 have hbb := HW.out.trans (hb2.mono HW.out.size)
 clear hb2 HC
 go_wp2_with fail
 go_ret3
 exact ⟨rfl, hbb⟩
set_option maxRecDepth 100000 in
set_option maxHeartbeats 16000000 in
theorem kd_join_ok (op name : ByteArray) (n pos : Int) (a : Option Addr) (cap : Nat) (kids : Fo) (w : World) (M m : Nat) (pv : Value) (O : ByteArray → Int) (ho : OrdIs w M m O) (h0 : (op.toList == [118, 97, 114]) = false) (h1 : (op.toList == [110, 117, 109]) = false) (h2 : (op.toList == [112, 108, 117, 115]) = false) (h3 : (op.toList == [115, 101, 116]) = false) (q1 q2 : Int) (hq : q2 = 0) (hc : ∀ W, OrdIs W M m O → Below w.heap.size w W → Calls Tryz.prog 95 #[scV M pv, .int .i64 2, .slice a kids.len cap] W fun e w' => e = .returned (.tuple #[.int .i64 q1, .int .i64 q2]) ∧ Below W.heap.size W w') :
  Calls Tryz.prog 55 #[scV M pv, .agg #[.string op, .string name, .int .i64 n, .int .i64 pos, .slice a kids.len cap]] w fun e w' => e = .returned (.tuple #[.int .i64 2, .int .i64 0, .int .i64 0]) ∧ Below w.heap.size w w' := by
 have hc2 := cellsScope
 have hc5 := cellsNode
 have HW := Lib.hid (two_boxes w (scBox M pv) (boxOf op name n pos a kids.len cap))
 have hx : w.heap.size < (w.alloc (scBox M pv)).heap.size := by simp
 have HS := Lib.hid ((Below.heap_alloc (w.alloc (scBox M pv)) (boxOf op name n pos a kids.len cap) _ hx).trans (new_at w (scBox M pv)))
 have HB := Lib.hid (show ((w.alloc (scBox M pv)).alloc (boxOf op name n pos a kids.len cap)).heap[w.heap.size + 1]? = some (boxOf op name n pos a kids.len cap) from by have h := new_at (w.alloc (scBox M pv)) (boxOf op name n pos a kids.len cap); rw [alloc_size] at h; exact h)
 obtain ⟨k0, k1⟩ := sc_cells HS.out
 obtain ⟨b0, b1, b2, b3, b4⟩ := box_cells HB.out
 have HC := Lib.hid (hc _ (ho.below HW.out) HW.out)
 clear ho hc
 subst hq
 go_enter Tryz.func55, Tryz.ntmps55
 go_wp2_with fail
 refine HC.out.mono ?_
 rintro e w2 ⟨rfl, hb2⟩
 have hbb := HW.out.trans (hb2.mono HW.out.size)
 clear hb2 HC
 go_wp2_with fail
 go_ret3
 exact ⟨rfl, hbb⟩
set_option maxRecDepth 100000 in
set_option maxHeartbeats 16000000 in
theorem kd_join_bad (op name : ByteArray) (n pos : Int) (a : Option Addr) (cap : Nat) (kids : Fo) (w : World) (M m : Nat) (pv : Value) (O : ByteArray → Int) (ho : OrdIs w M m O) (h0 : (op.toList == [118, 97, 114]) = false) (h1 : (op.toList == [110, 117, 109]) = false) (h2 : (op.toList == [112, 108, 117, 115]) = false) (h3 : (op.toList == [115, 101, 116]) = false) (q1 q2 : Int) (hq : ¬ q2 = 0) (hc : ∀ W, OrdIs W M m O → Below w.heap.size w W → Calls Tryz.prog 95 #[scV M pv, .int .i64 2, .slice a kids.len cap] W fun e w' => e = .returned (.tuple #[.int .i64 q1, .int .i64 q2]) ∧ Below W.heap.size W w') :
  Calls Tryz.prog 55 #[scV M pv, .agg #[.string op, .string name, .int .i64 n, .int .i64 pos, .slice a kids.len cap]] w fun e w' => e = .returned (.tuple #[.int .i64 0, .int .i64 q1, .int .i64 q2]) ∧ Below w.heap.size w w' := by
 have hc2 := cellsScope
 have hc5 := cellsNode
 have HW := Lib.hid (two_boxes w (scBox M pv) (boxOf op name n pos a kids.len cap))
 have hx : w.heap.size < (w.alloc (scBox M pv)).heap.size := by simp
 have HS := Lib.hid ((Below.heap_alloc (w.alloc (scBox M pv)) (boxOf op name n pos a kids.len cap) _ hx).trans (new_at w (scBox M pv)))
 have HB := Lib.hid (show ((w.alloc (scBox M pv)).alloc (boxOf op name n pos a kids.len cap)).heap[w.heap.size + 1]? = some (boxOf op name n pos a kids.len cap) from by have h := new_at (w.alloc (scBox M pv)) (boxOf op name n pos a kids.len cap); rw [alloc_size] at h; exact h)
 obtain ⟨k0, k1⟩ := sc_cells HS.out
 obtain ⟨b0, b1, b2, b3, b4⟩ := box_cells HB.out
 have HC := Lib.hid (hc _ (ho.below HW.out) HW.out)
 clear ho hc
 have hqb : (q2 != 0) = true := by simp [hq]
 clear hq
 go_enter Tryz.func55, Tryz.ntmps55
 go_wp2_with fail
 refine HC.out.mono ?_
 rintro e w2 ⟨rfl, hb2⟩
 have hbb := HW.out.trans (hb2.mono HW.out.size)
 clear hb2 HC
 go_wp2_with fail
 go_ret3
 exact ⟨rfl, hbb⟩
end Go.Proofs.YtmpcmpeloebnhaaGreatDoor
namespace Go.Proofs.YtmpcmpeloebnhaaGreatDoor
open Go.RowKit
abbrev emp0 : ByteArray := ⟨#[]⟩
inductive Res (α : Type) where
 | ok (x : α) (l : List Tok)
 | bad (at' err : Int)
def Fo.ofL : List Nd → Fo
 | [] => .nil
 | T :: r => .cons T.op T.name T.n T.pos none 0 T.kids (Fo.ofL r)
def mkN (op name : ByteArray) (n pos : Int) (kids : List Nd) : Nd := ⟨op, name, n, pos, none, 0, Fo.ofL kids⟩
def Fo.strip : Fo → Fo
 | .nil => .nil
 | .cons op name n pos _ _ kids rest => .cons op name n pos none 0 kids.strip rest.strip
def Nd.strip (T : Nd) : Nd := ⟨T.op, T.name, T.n, T.pos, none, 0, T.kids.strip⟩
def hd (l : List Tok) : Tok := l.headD ⟨0, ⟨#[]⟩, 0, 0⟩
def wrd (l : List Tok) : ByteArray := if (hd l).kind == 3 then (hd l).text else ⟨#[]⟩
def psigs : List (Int × ByteArray × ByteArray) := [(0, ⟨#[60, 61, 62]⟩, ⟨#[105, 102, 102]⟩), (1, ⟨#[61, 62]⟩, ⟨#[105, 109, 112]⟩), (2, ⟨#[124]⟩, ⟨#[111, 114]⟩), (3, ⟨#[38]⟩, ⟨#[97, 110, 100]⟩), (4, ⟨#[61]⟩, ⟨#[101, 113]⟩), (4, ⟨#[126, 61]⟩, ⟨#[110, 101]⟩), (4, ⟨#[60]⟩, ⟨#[108, 116]⟩), (4, ⟨#[60, 61]⟩, ⟨#[108, 101]⟩), (4, ⟨#[105, 110]⟩, ⟨#[105, 110]⟩), (4, ⟨#[110, 111, 116, 105, 110]⟩, ⟨#[110, 111, 116, 105, 110]⟩), (4, ⟨#[115, 117, 98]⟩, ⟨#[115, 117, 98]⟩), (5, ⟨#[117, 110, 105, 111, 110]⟩, ⟨#[117, 110, 105, 111, 110]⟩), (5, ⟨#[105, 110, 116, 101, 114]⟩, ⟨#[105, 110, 116, 101, 114]⟩), (5, ⟨#[92]⟩, ⟨#[109, 105, 110, 117, 115]⟩)]
def psgF (lv : Int) (x : ByteArray) : List (Int × ByteArray × ByteArray) → ByteArray
 | [] => ⟨#[]⟩
 | s :: r => if s.1 == lv && s.2.1.toList == x.toList then s.2.2 else psgF lv x r
def psg (lv : Int) (x : ByteArray) : ByteArray := psgF lv x psigs
def clo (br : Bool) : List UInt8 := if br then [125] else [41]
abbrev tSetB : ByteArray := ⟨#[115, 101, 116]⟩
abbrev tPlusB : ByteArray := ⟨#[112, 108, 117, 115]⟩
abbrev tVarB : ByteArray := ⟨#[118, 97, 114]⟩
abbrev tNumB : ByteArray := ⟨#[110, 117, 109]⟩
abbrev tCallB : ByteArray := ⟨#[99, 97, 108, 108]⟩
abbrev tIsB : ByteArray := ⟨#[105, 115]⟩
abbrev tNotB : ByteArray := ⟨#[110, 111, 116]⟩
abbrev tExB : ByteArray := ⟨#[101, 120]⟩
abbrev tAllB : ByteArray := ⟨#[97, 108, 108]⟩
def ordW (w : List UInt8) : Int := (w.getLastD 48).toNat - 48
def isExW (w : List UInt8) : Bool := w == [101, 120, 48] || w == [101, 120, 49] || w == [101, 120, 50]
def isAllW (w : List UInt8) : Bool := w == [97, 108, 108, 48] || w == [97, 108, 108, 49] || w == [97, 108, 108, 50]
mutual
def pPart : Nat → Bool → List Tok → Res Nd
 | 0, _, _ => .bad 0 0
 | f + 1, br, l =>
  if (wrd l).toList == [123] then
   (if br then .bad (hd l).pos 2 else match pList f true l.tail with
    | .ok ks l' => .ok (mkN tSetB emp0 0 (hd l).pos ks) l'
    | .bad a e => .bad a e)
  else if (hd l).kind == 1 then
   (if (wrd l.tail).toList == [43] then
    (if (hd l.tail.tail).kind == 2 && !((hd l.tail.tail).n == 0) then .ok (mkN tPlusB emp0 (hd l.tail.tail).n (hd l).pos [mkN tVarB (hd l).text 0 (hd l).pos []]) l.tail.tail.tail else .bad (hd l.tail.tail).pos 2)
   else .ok (mkN tVarB (hd l).text 0 (hd l).pos []) l.tail)
  else if (hd l).kind == 2 then .ok (mkN tNumB emp0 (hd l).n (hd l).pos []) l.tail
  else .bad (hd l).pos 2
def pList : Nat → Bool → List Tok → Res (List Nd)
 | 0, _, _ => .bad 0 0
 | f + 1, br, l =>
  if (wrd l).toList == clo br then .ok [] l.tail
  else match pKid f br l with
   | .ok n l' => pListL f br [n] l'
   | .bad a e => .bad a e
def pKid : Nat → Bool → List Tok → Res Nd
 | 0, _, _ => .bad 0 0
 | f + 1, true, l => pPart f true l
 | f + 1, false, l => pTerm f l
def pListL : Nat → Bool → List Nd → List Tok → Res (List Nd)
 | 0, _, _, _ => .bad 0 0
 | f + 1, br, acc, l =>
  if (wrd l).toList == [44] then
   (if acc.length == 6 then .bad (hd l.tail).pos 2
   else match pKid f br l.tail with
    | .ok n l' => pListL f br (acc ++ [n]) l'
    | .bad a e => .bad a e)
  else if (wrd l).toList == clo br then .ok acc l.tail else .bad (hd l).pos 2
def pTerm : Nat → List Tok → Res Nd
 | 0, _ => .bad 0 0
 | f + 1, l => match pPart f false l with
  | .ok n l' => pTermL f n l'
  | .bad a e => .bad a e
def pTermL : Nat → Nd → List Tok → Res Nd
 | 0, _, _ => .bad 0 0
 | f + 1, n, l =>
  if (psg 5 (wrd l)).toList == [] then .ok n l
  else match pPart f false l.tail with
   | .ok k l' => pTermL f (mkN (psg 5 (wrd l)) emp0 0 (hd l).pos [n, k]) l'
   | .bad a e => .bad a e
end
def pAtom (f : Nat) (l : List Tok) : Res Nd :=
 if (hd l).kind == 1 && (wrd l.tail).toList == [40] then
  (match pList f false l.tail.tail with
   | .ok ks l' => .ok (mkN tCallB (hd l).text 0 (hd l).pos ks) l'
   | .bad a e => .bad a e)
 else match pTerm f l with
  | .ok n l' =>
   if (psg 4 (wrd l')).toList == [] then (if n.op.toList == [118, 97, 114] then .ok (mkN tIsB n.name 0 n.pos []) l' else .bad (hd l).pos 2)
   else (match pTerm f l'.tail with
    | .ok m l2 => .ok (mkN (psg 4 (wrd l')) emp0 0 (hd l').pos [n, m]) l2
    | .bad a e => .bad a e)
  | .bad a e => .bad a e
mutual
def pUn : Nat → Nat → List Tok → Res Nd
 | 0, _, _ => .bad 0 0
 | f + 1, d, l =>
  if 29 < d then .bad (hd l).pos 4
  else if (wrd l).toList == [126] then
   (match pUn f (d + 1) l.tail with
    | .ok n l' => .ok (mkN tNotB emp0 0 (hd l).pos [n]) l'
    | .bad a e => .bad a e)
  else if isExW (wrd l).toList then pQuant f tExB d l
  else if isAllW (wrd l).toList then pQuant f tAllB d l
  else if (wrd l).toList == [116, 114, 117, 101] || (wrd l).toList == [102, 97, 108, 115, 101] then .ok (mkN (hd l).text emp0 0 (hd l).pos []) l.tail
  else if (wrd l).toList == [40] then
   (match pForm f (d + 1) l.tail with
    | .ok n l' => if (wrd l').toList == [41] then .ok n l'.tail else .bad (hd l').pos 2
    | .bad a e => .bad a e)
  else pAtom f l
def pQuant : Nat → ByteArray → Nat → List Tok → Res Nd
 | 0, _, _, _ => .bad 0 0
 | f + 1, op, d, l =>
  if (hd l.tail).kind == 1 then
   (if (wrd l.tail.tail).toList == [58] then
    (match pForm f (d + 1) l.tail.tail.tail with
     | .ok n l' => .ok (mkN op (hd l.tail).text (ordW (hd l).text.toList) (hd l).pos [n]) l'
     | .bad a e => .bad a e)
   else .bad (hd l.tail.tail).pos 2)
  else .bad (hd l.tail).pos 2
def pAnd : Nat → Nat → List Tok → Res Nd
 | 0, _, _ => .bad 0 0
 | f + 1, d, l => match pUn f d l with
  | .ok n l' => pAndL f d n l'
  | .bad a e => .bad a e
def pAndL : Nat → Nat → Nd → List Tok → Res Nd
 | 0, _, _, _ => .bad 0 0
 | f + 1, d, n, l =>
  if (psg 3 (wrd l)).toList == [] then .ok n l
  else match pUn f d l.tail with
   | .ok k l' => pAndL f d (mkN (psg 3 (wrd l)) emp0 0 (hd l).pos [n, k]) l'
   | .bad a e => .bad a e
def pOr : Nat → Nat → List Tok → Res Nd
 | 0, _, _ => .bad 0 0
 | f + 1, d, l => match pAnd f d l with
  | .ok n l' => pOrL f d n l'
  | .bad a e => .bad a e
def pOrL : Nat → Nat → Nd → List Tok → Res Nd
 | 0, _, _, _ => .bad 0 0
 | f + 1, d, n, l =>
  if (psg 2 (wrd l)).toList == [] then .ok n l
  else match pAnd f d l.tail with
   | .ok k l' => pOrL f d (mkN (psg 2 (wrd l)) emp0 0 (hd l).pos [n, k]) l'
   | .bad a e => .bad a e
def pForm : Nat → Nat → List Tok → Res Nd
 | 0, _, _ => .bad 0 0
 | f + 1, d, l => match pImp f d l with
  | .ok n l' => pFormL f d n l'
  | .bad a e => .bad a e
def pFormL : Nat → Nat → Nd → List Tok → Res Nd
 | 0, _, _, _ => .bad 0 0
 | f + 1, d, n, l =>
  if (psg 0 (wrd l)).toList == [] then .ok n l
  else match pImp f d l.tail with
   | .ok k l' => pFormL f d (mkN (psg 0 (wrd l)) emp0 0 (hd l).pos [n, k]) l'
   | .bad a e => .bad a e
def pImp : Nat → Nat → List Tok → Res Nd
 | 0, _, _ => .bad 0 0
 | f + 1, d, l => match pOr f d l with
  | .ok n l' =>
   if (psg 1 (wrd l')).toList == [] then .ok n l'
   else (match pImp f d l'.tail with
    | .ok k l2 => .ok (mkN (psg 1 (wrd l')) emp0 0 (hd l').pos [n, k]) l2
    | .bad a e => .bad a e)
  | .bad a e => .bad a e
end
end Go.Proofs.YtmpcmpeloebnhaaGreatDoor
