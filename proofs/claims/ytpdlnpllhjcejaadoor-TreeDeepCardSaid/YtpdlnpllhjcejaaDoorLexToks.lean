/- What lex.Tokens answers of every text of no more than a million bytes: the tokens, the place, the error that the list of runes gives. Condition: the tables stand as laid. -/
import Derived.Test.YtpdlnpllhjcejaaDoorLexStep
import Derived.Test.YtpdlnpllhjcejaaDoorRunesREach
import Derived.Test.YtpdlnpllhjcejaaDoorLexPure2
import Derived.Test.YtpdlnpllhjcejaaDoorRows
import Derived.WalkKit
import Derived.WalkLawsBesides
import Derived.WalkSpells
import Derived.ProofKit
import Derived.Outline
import Derived.Deep.QuietTactic
import Derived.BigQuiet
import Derived.Deep.Light
import Derived.Deep.CutBlock
import Derived.Deep.DeepCutAuto
import Derived.Deep.DeepFit
import Derived.Deep.LoopGhost
import Derived.Lib.Hide
import Derived.Lib.OthersKept
import Derived.IntWalk
namespace Go.Proofs.YtpdlnpllhjcejaaDoor
open Go.RowKit
/-! ### the part of runes -/
def sndP (s : ByteArray) : ByteArray := s.extract 0 (endOf s (each s).2).toNat
theorem snd_end (s : ByteArray) : ((endOf s (each s).2).toNat : Int) = endOf s (each s).2 ∧ (endOf s (each s).2).toNat ≤ s.size := by
  have h := endOf_ge s s.size 0 (by omega)
  have e : eachF s s.size 0 = each s := rfl
  rw [e] at h
  omega
theorem snd_size (s : ByteArray) : (sndP s).size = (endOf s (each s).2).toNat := ext_size s _ (snd_end s).2
theorem snd_each (s : ByteArray) : each (sndP s) = ((each s).1, -1) := each_sound s _ (snd_end s).1
theorem snd_all (s : ByteArray) (h : (each s).2 = -1) : sndP s = s := by
  unfold sndP endOf
  rw [if_pos h]
  simp
theorem snd_bad (s : ByteArray) (h : ¬ (each s).2 = -1) : sndP s = s.extract 0 (each s).2.toNat := by
  unfold sndP endOf
  rw [if_neg h]
theorem bad_range (s : ByteArray) : (each s).2 = -1 ∨ (0 ≤ (each s).2 ∧ (each s).2 < s.size) := by
  have := eachF_bad_ge s s.size 0
  exact this
theorem tokL_snd (s : ByteArray) (e : Nat) : ∀ (L : RL), srt e L → tokL s e L = tokL (s.extract 0 e) e L := by
  intro L hs
  cases L with
  | nil => rfl
  | cons q L =>
    have hup : ∀ M : RL, srt (e : Int) M → posOf (e : Int) M ≤ (e : Int) := by
      intro M
      induction M with
      | nil => intro _; exact Int.le_refl _
      | cons a M ih => intro h; have := ih h.2; have := h.1; simp only [posOf] at *; omega
    have hle := hup _ (srt_drop _ (q :: L) (cnt nmB (q :: L)) hs)
    have ex : (s.extract 0 e).extract q.2.toNat (posOf (e : Int) ((q :: L).drop (cnt nmB (q :: L)))).toNat = s.extract q.2.toNat (posOf (e : Int) ((q :: L).drop (cnt nmB (q :: L)))).toNat := by
      apply ByteArray.ext
      apply Array.ext'
      rw [Lib.extract_data, Lib.extract_data, Lib.extract_data]
      rw [Nat.sub_zero, List.drop_zero, List.drop_take, List.take_take]
      congr 1
      omega
    unfold tokL
    simp only [ex]
theorem stepL_snd (s : ByteArray) (e : Nat) (L : RL) (hs : srt e L) : stepL s e L = stepL (s.extract 0 e) e L := by
  cases L with
  | nil => rfl
  | cons q L => rw [stepL, stepL, tokL_snd s e (q :: L) hs]
theorem lexL_snd (s : ByteArray) (e : Nat) : ∀ (L : RL) (b : Int), srt e L → lexL s e L b = lexL (s.extract 0 e) e L b := by
  intro L
  induction L with
  | nil => intro b _; rfl
  | cons q L ih =>
    intro b hs
    rw [lexL, lexL, stepL_snd s e (q :: L) hs, ih b hs.2]
    rcases stepL (s.extract 0 e) e (q :: L) with _ | ⟨t, k⟩
    · rfl
    · simp only []
      rw [ih _ hs.2]
theorem lexT_snd (s : ByteArray) : lexT s = lexL (sndP s) ((sndP s).size : Int) (each (sndP s)).1 0 := by
  have h := snd_end s
  unfold lexT
  rw [snd_size, snd_each, h.1]
  have := lexL_snd s (endOf s (each s).2).toNat (each s).1 0 (by rw [h.1]; exact eachF_srt s s.size 0 (by omega))
  rw [h.1] at this
  exact this

/-! ### the loop -/
def flatT : List Tok → List Value
  | [] => []
  | t :: l => .int .i64 t.kind :: .string t.text :: .int .i64 t.n :: .int .i64 t.pos :: flatT l
theorem flatT_length (l : List Tok) : (flatT l).length = l.length * 4 := by
  induction l with
  | nil => rfl
  | cons p l ih => simp [flatT, ih]; omega
theorem flatT_snoc (l : List Tok) (t : Tok) : flatT (l ++ [t]) = flatT l ++ [.int .i64 t.kind, .string t.text, .int .i64 t.n, .int .i64 t.pos] := by
  induction l with
  | nil => rfl
  | cons q l ih => simp [flatT, ih]
/-- What has been gathered, and what comes from there on, are the whole. -/
def lexAt (t : ByteArray) (b pos : Nat) (acc : List Tok) (bh : Int) : Prop :=
  (eachF t b pos).2 = -1 ∧ acc ++ (lexL t t.size (eachF t b pos).1 bh).1 = (lexL t t.size (each t).1 0).1 ∧ (lexL t t.size (eachF t b pos).1 bh).2 = (lexL t t.size (each t).1 0).2
theorem lexAt_start (t : ByteArray) (h : (each t).2 = -1) : lexAt t t.size 0 [] 0 := ⟨h, rfl, rfl⟩
theorem lexAt_cons {t : ByteArray} {b pos : Nat} {acc : List Tok} {bh : Int} (h : lexAt t (b + 1) pos acc bh) (hp : pos < t.size) :
    (eachF t (b + 1) pos).1 = (((Utf8.decode t pos).1 : Int), (pos : Int)) :: (eachF t b (pos + (Utf8.decode t pos).2)).1 ∧ (eachF t b (pos + (Utf8.decode t pos).2)).2 = -1 := by
  have hb : ¬ badAt t pos := by
    intro hb
    have := h.1
    rw [eachF_bad _ _ _ hp hb] at this; simp only [] at this; omega
  have h1 := h.1
  rw [eachF_one _ _ _ hp hb] at h1 ⊢
  exact ⟨rfl, h1⟩
theorem lexAt_pass {t : ByteArray} {b pos : Nat} {acc : List Tok} {bh : Int} (h : lexAt t (b + 1) pos acc bh) (hp : pos < t.size) (hlt : (pos : Int) < bh) : lexAt t b (pos + (Utf8.decode t pos).2) acc bh := by
  have hc := lexAt_cons h hp
  obtain ⟨_, h2, h3⟩ := h
  rw [hc.1, lexL, if_pos hlt] at h2 h3
  exact ⟨hc.2, h2, h3⟩
theorem lexAt_none {t : ByteArray} {b pos : Nat} {acc : List Tok} {bh : Int} (h : lexAt t (b + 1) pos acc bh) (hp : pos < t.size) (hlt : ¬ (pos : Int) < bh) (hs : stepL t t.size (eachF t (b + 1) pos).1 = none) :
    (lexL t t.size (each t).1 0).2 = some (pos : Int) := by
  have hc := lexAt_cons h hp
  obtain ⟨_, h2, h3⟩ := h
  rw [hc.1] at hs
  rw [hc.1, lexL, if_neg hlt, hs] at h3
  exact h3.symm
theorem lexAt_some {t : ByteArray} {b pos : Nat} {acc : List Tok} {bh : Int} {x : Option Tok} {k : Nat} (h : lexAt t (b + 1) pos acc bh) (hp : pos < t.size) (hlt : ¬ (pos : Int) < bh) (hs : stepL t t.size (eachF t (b + 1) pos).1 = some (x, k)) :
    lexAt t b (pos + (Utf8.decode t pos).2) (acc ++ x.toList) (posOf t.size ((eachF t (b + 1) pos).1.drop k)) := by
  have hc := lexAt_cons h hp
  obtain ⟨_, h2, h3⟩ := h
  rw [hc.1] at hs ⊢
  rw [hc.1, lexL, if_neg hlt, hs] at h2 h3
  refine ⟨hc.2, ?_, h3⟩
  rw [List.append_assoc]
  exact h2
theorem lexAt_end {t : ByteArray} {b pos : Nat} {acc : List Tok} {bh : Int} (h : lexAt t b pos acc bh) (hp : ¬ pos < t.size) : acc = (lexL t t.size (each t).1 0).1 ∧ (lexL t t.size (each t).1 0).2 = none := by
  obtain ⟨_, h2, h3⟩ := h
  rw [eachF_end _ _ _ hp, lexL] at h2 h3
  exact ⟨by rw [← h2]; simp, h3.symm⟩
theorem tokL_pos {s : ByteArray} {e : Int} {q : Int × Int} {L : RL} {t : Tok} {k : Nat} (h : tokL s e (q :: L) = some (t, k)) : t.pos = q.2 ∧ 1 ≤ t.kind ∧ t.kind ≤ 3 := by
  rw [tokL] at h
  split at h
  · split at h
    · simp only [Option.some.injEq, Prod.mk.injEq] at h
      rw [← h.1]
      refine ⟨rfl, ?_⟩
      simp only []
      split <;> omega
    · cases h
  · split at h
    · split at h
      · simp only [Option.some.injEq, Prod.mk.injEq] at h
        rw [← h.1]; exact ⟨rfl, by simp⟩
      · cases h
    · split at h
      · simp only [Option.some.injEq, Prod.mk.injEq] at h
        rw [← h.1]; exact ⟨rfl, by simp⟩
      · cases h
theorem stepL_pos {s : ByteArray} {e : Int} {q : Int × Int} {L : RL} {t : Tok} {k : Nat} (h : stepL s e (q :: L) = some (some t, k)) : t.pos = q.2 ∧ 1 ≤ t.kind ∧ t.kind ≤ 3 := by
  rw [stepL] at h
  split at h
  · cases h
  · split at h
    · cases h
    · rcases ht : tokL s e (q :: L) with _ | ⟨t', k'⟩
      · rw [ht] at h; cases h
      · rw [ht] at h
        simp only [Option.map_some, Option.some.injEq, Prod.mk.injEq] at h
        rw [← h.1]
        exact tokL_pos ht
/-- The rest's first rune, and what the step of the rest says of the whole. -/
theorem rest_step {t : ByteArray} {b pos : Nat} {acc : List Tok} {bh : Int} (h : lexAt t (b + 1) pos acc bh) (hp : pos < t.size) (hb : t.size ≤ pos + (b + 1)) :
    (each (t.extract pos t.size)).2 = -1 ∧ (∃ M, (each (t.extract pos t.size)).1 = (((Utf8.decode t pos).1 : Int), 0) :: M) ∧
    stepL t t.size (eachF t (b + 1) pos).1 = (stepL (t.extract pos t.size) (t.extract pos t.size).size (each (t.extract pos t.size)).1).map (fun x => (x.1.map (Tok.sh pos), x.2)) ∧
    ∀ k, posOf (t.size : Int) ((eachF t (b + 1) pos).1.drop k) = pos + posOf ((t.extract pos t.size).size : Int) ((each (t.extract pos t.size)).1.drop k) := by
  have h1 := step_rest t (b + 1) pos hp hb h.1
  have hc := lexAt_cons h hp
  refine ⟨h1.1, ?_, h1.2.2, ?_⟩
  · rcases hL : (each (t.extract pos t.size)).1 with _ | ⟨q, M⟩
    · have := h1.2.1
      rw [hL, hc.1] at this
      cases this
    · have := h1.2.1
      rw [hL, hc.1] at this
      simp only [shf, List.map_cons, List.cons.injEq, Prod.mk.injEq] at this
      refine ⟨M, ?_⟩
      congr 1
      exact Prod.ext this.1.1 (by have := this.1.2; simp only []; omega)
  · intro k
    rw [← h1.2.1, shf_drop]
    have := shf_pos pos ((t.extract pos t.size).size : Int) ((each (t.extract pos t.size)).1.drop k)
    rw [Lib.tail_size] at this ⊢
    rw [show ((t.size - pos : Nat) : Int) + pos = t.size by omega] at this
    rw [this]
    omega

/-! ### the answer -/
def TokensPost (s : ByteArray) (w : World) (e : Ending) (w' : World) : Prop :=
  ∃ v, e = .returned (.tuple #[v, .int .i64 (toks s).2.1, .int .i64 (toks s).2.2]) ∧ w'.ownsRow w.heap.size 30 4 v (toks s).1.length (flatT (toks s).1) ∧ Below w.heap.size w w'
theorem toks_long {s : ByteArray} (h : 2000 < s.size) : toks s = ([], 0, 3) := by unfold toks; rw [if_neg (by omega)]
theorem toks_fault {s : ByteArray} {i : Int} (h : s.size ≤ 2000) (h2 : (lexT s).2 = some i) : toks s = ([], i, 2) := by
  unfold toks; rw [if_pos h, h2]
theorem toks_bad {s : ByteArray} (h : s.size ≤ 2000) (h2 : (lexT s).2 = none) (hb : ¬ (each s).2 = -1) : toks s = ([], (each s).2, 2) := by
  unfold toks; rw [if_pos h, h2]; simp only []; rw [if_neg hb]
theorem toks_ok {s : ByteArray} {acc : List Tok} (h : s.size ≤ 2000) (h2 : (lexT s).2 = none) (hb : (each s).2 = -1) (ha : acc = (lexT s).1) : toks s = (acc ++ [⟨4, ⟨#[]⟩, 0, (s.size : Int)⟩], (s.size : Int), 0) := by
  unfold toks; rw [if_pos h, h2]; simp only []; rw [if_pos hb, ha]
theorem TokensPost.err {s : ByteArray} {w w' : World} {at' err : Int} (h : toks s = ([], at', err)) (hb : Below w.heap.size w w') : TokensPost s w (.returned (.tuple #[.slice none 0 0, .int .i64 at', .int .i64 err])) w' := by
  refine ⟨.slice none 0 0, by rw [h], ?_, hb⟩
  rw [h]
  exact World.ownsRow_nil _ _ _ _

set_option maxHeartbeats 1000000 in
theorem sound_any (s : ByteArray) (w : World) (hs : s.size ≤ 1000000) :
    Calls Tryd.prog 34 #[.string s] w fun e w' => e = .returned (.string (sndP s)) ∧ Below w.heap.size w w' := by
  rcases bad_range s with h | ⟨h0, h1⟩
  · have HA := Lib.hid (snd_all s h)
    go_enter Tryd.func34, Tryd.ntmps34
    go_wp2_with fail
    refine (each_any _ _ hs).mono ?_
    rintro e w1 ⟨v, rfl, hown, hb⟩
    rw [h]
    clear hown h
    go_wp2
    go_ret
    exact ⟨str_all HA.out.symm, hb⟩
  · have HA := Lib.hid (snd_bad s (by omega))
    go_enter Tryd.func34, Tryd.ntmps34
    go_wp2_with fail
    refine (each_any _ _ hs).mono ?_
    rintro e w1 ⟨v, rfl, hown, hb⟩
    clear hown
    obtain ⟨bad, hbd⟩ : ∃ bad : Nat, (each s).2 = bad := ⟨(each s).2.toNat, by omega⟩
    have HB := Lib.hid hbd
    rw [hbd] at h0 h1 ⊢
    have hle : bad ≤ s.size := by omega
    clear hbd
    go_wp2
    go_ret
    exact ⟨str_all (by rw [HA.out, HB.out]; rfl), hb⟩
theorem Tryd.infoTok : (Tryd.prog.info? 30).map (fun i => (i.zero, i.size, i.bytes)) = some (some (.agg #[.int .i64 0, .string ⟨#[]⟩, .int .i64 0, .int .i64 0]), 4, 40) := by kernel_rfl
theorem below_iter {w w' : World} {B : Nat} (h : Below B w w') (hB : B ≤ w'.heap.size) (s : ByteArray) (p : Nat) : Below B w (w'.iter s p) := h.alloc hB _
theorem cell_four_new (w : World) (a b c d : Value) (t : TypeId) (n : Nat) (hn : n = w.heap.size) : ∀ j u, [a, b, c, d][j]? = some u → (w.alloc (.cells #[a, b, c, d] t)).cell? ((⟨n, 0, none⟩ : Addr).add j) = some u := by
  intro j u hj
  subst hn
  match j, hj with
  | 0, hj => simp at hj; subst hj; simp [Addr.add]
  | 1, hj => simp at hj; subst hj; simp [Addr.add]
  | 2, hj => simp at hj; subst hj; simp [Addr.add]
  | 3, hj => simp at hj; subst hj; simp [Addr.add]
  | j + 4, hj => simp at hj
set_option maxRecDepth 1000000 in
set_option maxHeartbeats 4000000 in
theorem tokens_any (s : ByteArray) (w : World) (hT : LTabs w) (hs : s.size ≤ 1000000) :
    Calls Tryd.prog 11 #[.string s] w (TokensPost s w) := by
  by_cases h2000 : s.size ≤ 2000
  · obtain ⟨i0, hi, hz0, hz1, hz2⟩ := info_parts Tryd.infoTok
    have HX := Lib.hid (lexT_snd s)
    have HE := Lib.hid (snd_each s)
    have HZ := Lib.hid (snd_size s)
    go_enter Tryd.func11, Tryd.ntmps11
    go_wp2_with fail
    refine (sound_any _ _ hs).mono ?_
    rintro e w1 ⟨rfl, hb1⟩
    have hsz1 := hb1.size
    obtain ⟨t, ht⟩ : ∃ t, t = sndP s := ⟨_, rfl⟩
    have HTS := Lib.hid ht
    rw [← ht]
    have hts : t.size ≤ s.size := by rw [ht, snd_size]; exact (snd_end s).2
    have HA := Lib.hid (lexAt_start t (by rw [ht, snd_each]))
    clear ht
    go_wp2
    go_loopw [2, 6] (fun v bv wr => ∃ (pos b : Nat) (acc : List Tok) (bh : Int), bv = .int .i64 bh ∧ 0 ≤ bh ∧ bh ≤ t.size ∧ wr.heap[w1.heap.size]? = some (.stringIter t pos) ∧ wr.ownsRow (w1.heap.size + 1) 30 4 v acc.length (flatT acc) ∧ Below w1.heap.size w1 wr ∧ Hid (lexAt t b pos acc bh) ∧ t.size ≤ pos + b ∧ acc.length ≤ pos ∧ pos ≤ t.size) (fun _ _ wr => t.size - wr.iterPos w1.heap.size)
    case atStart => exact ⟨0, t.size, [], 0, rfl, by omega, by omega, World.iter_heap w1 t 0, World.ownsRow_nil _ _ _ _, (Below.refl _ _).alloc (Nat.le_refl _) _, HA.out, by omega, by simp, by omega⟩
    case round =>
      obtain ⟨pos, b, acc, bh, rfl, hbh0, hbh1, hit, hown, hbw, HS, hb, hlen, hpt⟩ := hrel
      have hpos0 := iterPos_of hit
      clear HA
      by_cases hp : pos < t.size
      · have hnx : ∀ ty, (Instr.next (.pointer (some ⟨w1.heap.size, 0, none⟩)) true ty).run Tryd.prog wr = _ := fun ty => Lib.run_next_any_at wr w1.heap.size t pos ty hit hp
        have hwd := width_pos t pos hp
        have hwl := width_le t pos hp
        obtain ⟨b, rfl⟩ : ∃ f', b = f' + 1 := ⟨b - 1, by omega⟩
        have hit2 := Lib.iterAt_heap wr w1.heap.size t pos (pos + (Utf8.decode t pos).2) hit
        have hbw2 := Lib.below_iterAt hbw (k := w1.heap.size) (Nat.le_refl _) t (pos + (Utf8.decode t pos).2)
        have hown2 := ownsRow_iterAt hown (k := w1.heap.size) (by omega) t (pos + (Utf8.decode t pos).2)
        obtain ⟨W1, hW1⟩ : ∃ W1, W1 = wr.iterAt w1.heap.size t (pos + (Utf8.decode t pos).2) := ⟨_, rfl⟩
        rw [← hW1] at hnx hit2 hbw2 hown2
        have hBlt := lt_of_block hit2
        have hTr := hT.below (hb1.trans (hbw2.mono hsz1))
        clear hW1 hit hbw hown
        by_cases hlt : (pos : Int) < bh
        · have HN := Lib.hid (lexAt_pass HS.out hp hlt)
          clear HS
          go_wp2
          go_roundw
          case rel => exact ⟨_, b, acc, bh, rfl, hbh0, hbh1, hit2, hown2, hbw2, HN.out, by omega, by omega, by omega⟩
          case measure => rw [iterPos_of hit2, hpos0]; omega
        · have hrs := rest_step HS.out hp hb
          obtain ⟨hu2, ⟨M, hL⟩, hstep, hpos⟩ := hrs
          obtain ⟨u, hu⟩ : ∃ u, u = t.extract pos t.size := ⟨_, rfl⟩
          have husz : u.size = t.size - pos := by rw [hu]; exact Lib.tail_size t pos
          have HU := Lib.hid hu
          rw [← hu] at hu2 hL hstep hpos
          clear hu
          have HL := Lib.hid hL
          have HU2 := Lib.hid hu2
          have HSt := Lib.hid hstep
          have HPo := Lib.hid hpos
          clear hL hu2 hstep hpos
          go_wp2_with fail
          rw [← HU.out]
          refine (first_any u (((Utf8.decode t pos).1 : Int), 0) M _ hTr (by omega) HL.out HU2.out).mono ?_
          rintro e w2 ⟨hout, hb2⟩
          unfold FirstOut at hout
          have hit3 : w2.heap[w1.heap.size]? = some (.stringIter t (pos + (Utf8.decode t pos).2)) := by rw [hb2.block _ hBlt]; exact hit2
          have hown3 := own_below hown2 hb2
          have hbw3 : Below w1.heap.size w1 w2 := hbw2.trans (hb2.mono hbw2.size)
          have hsz2 := hb2.size
          clear hit2 hown2 hbw2
          rcases hst : stepL u u.size (each u).1 with _ | ⟨x, k⟩
          · rw [hst] at hout
            obtain ⟨a, b', c, d, n, rfl⟩ := hout
            have hno : stepL t t.size (eachF t (b + 1) pos).1 = none := by rw [HSt.out, hst]; rfl
            have HO := Lib.hid (toks_fault h2000 (show (lexT s).2 = some (pos : Int) by rw [HX.out, ← HTS.out]; exact lexAt_none HS.out hp (by omega) hno))
            clear HS hst hno
            go_wp2
            go_ret3
            exact TokensPost.err HO.out (hb1.trans ((hbw3.mono hsz1).trans ((Below.refl _ _).alloc (by omega) _)))
          · rw [hst] at hout
            simp only [] at hout
            have hy : stepL t t.size (eachF t (b + 1) pos).1 = some (x.map (Tok.sh pos), k) := by rw [HSt.out, hst]; rfl
            have hge := posOf_ge t (b + 1) pos (by omega) k
            have hen : endOf t (eachF t (b + 1) pos).2 = t.size := by unfold endOf; exact if_pos HS.out.1
            rw [hen, HPo.out k] at hge
            have HN := Lib.hid (lexAt_some HS.out hp (by omega) hy)
            have hpk := HPo.out k
            obtain ⟨n, hn⟩ : ∃ n, n = posOf (u.size : Int) ((each u).1.drop k) := ⟨_, rfl⟩
            rw [← hn] at hout hge hpk
            have HPK := Lib.hid hpk
            clear hen HPo hy hn hpk HSt HS
            rcases x with _ | ⟨kd, tx, nn, po⟩
            · obtain rfl := hout
              clear hst
              unfold tokV
              go_wp2
              go_roundw
              case rel => exact ⟨_, b, acc, _, rfl, by omega, by omega, (by rw [Below.heap_alloc _ _ _ (by omega)]; exact hit3), hown3.alloc _, hbw3.alloc hbw3.size _, (by have := HN.out; rw [HPK.out] at this; simp only [Option.map_none, Option.toList, List.append_nil] at this; exact this), by omega, by omega, by omega⟩
              case measure => rw [iterPos_of (show (w2.alloc _).heap[w1.heap.size]? = _ by rw [Below.heap_alloc _ _ _ (by omega)]; exact hit3), hpos0]; omega
            · obtain rfl := hout
              rw [HL.out] at hst
              obtain ⟨hpo, hk1, hk3⟩ := stepL_pos hst
              have HPO := Lib.hid hpo
              have hk0 : (kd == 0) = false := by rw [beq_eq_false_iff_ne]; simp only [] at hk1; omega
              have hk0' : (kd != 0) = true := by rw [bne_iff_ne]; simp only [] at hk1; omega
              clear hst hpo hk1 hk3
              unfold tokV
              go_wp2_with (at_builtin; refine wpList_append_own _ rfl _ _ 22 rfl (w1.heap.size + 1) 30 i0 (.agg #[.int .i64 0, .string ⟨#[]⟩, .int .i64 0, .int .i64 0]) 4 40 Tryd.underlying22 hi hz0 hz1 hz2 rfl (by decide) _ _ _ rfl ((hown3.alloc _).alloc _) ⟨w2.heap.size + 1, 0, none⟩ 1 1 [.int .i64 kd, .string tx, .int .i64 nn, .int .i64 pos] rfl rfl (cell_four_new _ _ _ _ _ _ _ (by simp)) (fun x hx => by simp at hx; rcases hx with rfl | rfl | rfl | rfl <;> rfl) (by unfold maxLen; omega) (by omega) (by simp; omega) ?_; intro v' w3 hown' hgrow3 hnil3)
              have hit4 : w3.heap[w1.heap.size]? = some (.stringIter t (pos + (Utf8.decode t pos).2)) := by
                rw [hgrow3.block w1.heap.size (by simp; omega) (fun h => by have := (hown3.lt _ h.symm).1; omega), Below.heap_alloc _ _ _ (by simp; omega), Below.heap_alloc _ _ _ (by omega)]; exact hit3
              have hbw4 : Below w1.heap.size w1 w3 := Below.grown ((hbw3.alloc (by omega) _).alloc (by simp; omega) _) hgrow3 (by simp; omega) (fun j hj => by have := (hown3.lt _ hj).1; omega)
              go_roundw
              case rel => exact ⟨_, b, acc ++ [⟨kd, tx, nn, pos⟩], _, rfl, by omega, by omega, hit4, (by rw [flatT_snoc]; simpa using hown'), hbw4, (by have := HN.out; rw [HPK.out] at this; simp only [Option.map_some, Option.toList, Tok.sh] at this; rw [show po + (pos : Int) = pos by have h0 : po = 0 := HPO.out; omega] at this; exact this), by omega, by simp; omega, by omega⟩
              case measure => rw [iterPos_of hit4, hpos0]; omega
      · have hnx : ∀ ty, (Instr.next (.pointer (some ⟨w1.heap.size, 0, none⟩)) true ty).run Tryd.prog wr = _ := fun ty => Lib.run_next_end_at wr w1.heap.size t pos ty hit hp
        have hend := lexAt_end HS.out hp
        have hno : (lexT s).2 = none := by rw [HX.out, ← HTS.out]; exact hend.2
        have hts2 : (t.size : Int) = endOf s (each s).2 := by rw [HTS.out, snd_size]; exact (snd_end s).1
        have hbsz := hbw.size
        rcases bad_range s with hbad | ⟨hbad0, hbad1⟩
        · have heq : t.size = s.size := by unfold endOf at hts2; rw [if_pos hbad] at hts2; omega
          have HO := Lib.hid (toks_ok h2000 hno hbad (show acc = (lexT s).1 by rw [HX.out, ← HTS.out]; exact hend.1))
          have hge : ¬ (t.size : Int) < (s.size : Int) := by omega
          clear hend hno hts2 hbad HS heq
          go_wp2_with (at_builtin; refine wpList_append_own _ rfl _ _ 22 rfl (w1.heap.size + 1) 30 i0 (.agg #[.int .i64 0, .string ⟨#[]⟩, .int .i64 0, .int .i64 0]) 4 40 Tryd.underlying22 hi hz0 hz1 hz2 rfl (by decide) _ _ _ rfl (hown.alloc _) ⟨wr.heap.size, 0, none⟩ 1 1 [.int .i64 4, .string ⟨#[]⟩, .int .i64 0, .int .i64 s.size] rfl rfl (cell_four_new _ _ _ _ _ _ _ (by simp)) (fun x hx => by simp at hx; rcases hx with rfl | rfl | rfl | rfl <;> rfl) (by unfold maxLen; omega) (by omega) (by simp; omega) ?_; intro v' w3 hown' hgrow3 hnil3)
          have hbw4 : Below w1.heap.size w1 w3 := Below.grown (hbw.alloc (by omega) _) hgrow3 (by simp; omega) (fun j hj => by have := (hown.lt _ hj).1; omega)
          go_ret3
          refine ⟨v', by rw [HO.out]; rfl, ?_, hb1.trans (hbw4.mono hsz1)⟩
          rw [HO.out]
          refine ownsRow_base ?_ (show w.heap.size ≤ w1.heap.size + 1 by omega)
          rw [flatT_snoc]
          simpa using hown'
        · have hbb : ¬ (each s).2 = -1 := by omega
          have HO := Lib.hid (toks_bad h2000 hno hbb)
          have heq : (t.size : Int) = (each s).2 := by unfold endOf at hts2; rw [if_neg hbb] at hts2; exact hts2
          have hlt : (t.size : Int) < (s.size : Int) := by omega
          have HEQ := Lib.hid heq
          clear hend hno hts2 hbb HS hbad0 hbad1 heq
          go_wp2
          go_ret3
          exact TokensPost.err (by rw [HO.out, HEQ.out]) (hb1.trans (hbw.mono hsz1))
  · have HL := Lib.hid (toks_long (s := s) (by omega))
    go_enter Tryd.func11, Tryd.ntmps11
    go_wp2
    go_ret3
    exact TokensPost.err HL.out (Below.refl _ _)
end Go.Proofs.YtpdlnpllhjcejaaDoor
