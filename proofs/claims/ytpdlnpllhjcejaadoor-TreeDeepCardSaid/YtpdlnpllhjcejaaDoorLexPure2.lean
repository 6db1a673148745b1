/- Plain mathematics on tokens: of a text's rest the step is the text's; how many runes a name has; which sign a text begins with; a number's value. No program is named here. -/
import Derived.Test.YtpdlnpllhjcejaaDoorLexPure
namespace Go.Proofs.YtpdlnpllhjcejaaDoor
open Go.RowKit

/-! ### a text's rest -/
theorem shf_len (d : Int) (L : RL) : (shf d L).length = L.length := by simp [shf]
theorem shf_drop (d : Int) (L : RL) (k : Nat) : (shf d L).drop k = shf d (L.drop k) := by simp [shf]
theorem shf_pos (d e : Int) (L : RL) : posOf (e + d) (shf d L) = posOf e L + d := by cases L <;> rfl
theorem shf_cnt (p : Int → Bool) (d : Int) (L : RL) : cnt p (shf d L) = cnt p L := by
  induction L with
  | nil => rfl
  | cons q L ih =>
    show (if p q.1 then cnt p (shf d L) + 1 else 0) = _
    rw [ih]; rfl
theorem shf_num (d : Int) (L : RL) : ∀ a, numV a (shf d L) = numV a L := by
  induction L with
  | nil => intro a; rfl
  | cons q L ih =>
    intro a
    show (if dgB q.1 then numV (min (10 * a + (q.1 - 48)) 1000) (shf d L) else a) = _
    rw [ih]; rfl
theorem shf_rpre (d : Int) : ∀ (x : List UInt8) (L : RL), rpre x (shf d L) = rpre x L := by
  intro x
  induction x with
  | nil => intro L; cases L <;> rfl
  | cons c x ih =>
    intro L
    cases L with
    | nil => rfl
    | cons q L =>
      show (q.1 == (c.toNat : Int) && rpre x (shf d L)) = _
      rw [ih]; rfl
theorem shf_sig (d : Int) (L : RL) : ∀ X, sigF X (shf d L) = sigF X L := by
  intro X
  induction X with
  | nil => rfl
  | cons x X ih => unfold sigF; rw [shf_rpre, ih]
def Tok.sh (d : Int) (t : Tok) : Tok := { t with pos := t.pos + d }

theorem ext_ext (t : ByteArray) (p a b : Nat) (hb : p + b ≤ t.size) : (t.extract p t.size).extract a b = t.extract (p + a) (p + b) := by
  apply ByteArray.ext
  apply Array.ext'
  rw [Lib.extract_data, Lib.extract_data, Lib.extract_data]
  rw [Lib.size_eq] at hb ⊢
  rw [List.drop_take, List.drop_drop, List.take_take]
  congr 1
  omega

theorem tokL_shf (t : ByteArray) (p : Nat) (L : RL) (hp : p ≤ t.size) (h0 : ∀ q ∈ L, 0 ≤ q.2) (hs : srt ((t.size : Int) - p) L) :
    tokL t t.size (shf p L) = (tokL (t.extract p t.size) ((t.size : Int) - p) L).map fun x => (x.1.sh p, x.2) := by
  cases L with
  | nil => rfl
  | cons q L =>
    have hq := h0 q (List.mem_cons_self ..)
    have hcons : shf p (q :: L) = (q.1, q.2 + p) :: shf p L := rfl
    have e0 : ((t.size : Int) - p) + p = t.size := by omega
    have epos : ∀ k, posOf (t.size : Int) (((q.1, q.2 + (p : Int)) :: shf p L).drop k) = posOf ((t.size : Int) - p) ((q :: L).drop k) + p := by
      intro k
      rw [← hcons, shf_drop]
      have := shf_pos p ((t.size : Int) - p) ((q :: L).drop k)
      rw [e0] at this
      exact this
    have ecnt : ∀ f, cnt f ((q.1, q.2 + (p : Int)) :: shf p L) = cnt f (q :: L) := by intro f; rw [← hcons, shf_cnt]
    have enum : numV 0 ((q.1, q.2 + (p : Int)) :: shf p L) = numV 0 (q :: L) := by rw [← hcons, shf_num]
    have esig : sigL ((q.1, q.2 + (p : Int)) :: shf p L) = sigL (q :: L) := by rw [← hcons]; exact shf_sig _ _ _
    rw [hcons]
    unfold tokL
    simp only [ecnt, epos, enum, esig]
    by_cases h1 : cls q.1 = 1
    · rw [if_pos h1, if_pos h1]
      by_cases h2 : cnt nmB (q :: L) ≤ 12
      · rw [if_pos h2, if_pos h2]
        have hge : q.2 ≤ posOf ((t.size : Int) - p) ((q :: L).drop (cnt nmB (q :: L))) := posOf_drop _ (q :: L) (cnt nmB (q :: L)) hs
        have hup : ∀ M : RL, srt ((t.size : Int) - p) M → posOf ((t.size : Int) - p) M ≤ (t.size : Int) - p := by
          intro M
          induction M with
          | nil => intro _; exact Int.le_refl _
          | cons a M ih => intro h; have := ih h.2; have := h.1; simp only [posOf] at *; omega
        have hle := hup _ (srt_drop _ (q :: L) (cnt nmB (q :: L)) hs)
        have ex : (t.extract p t.size).extract q.2.toNat (posOf ((t.size : Int) - p) ((q :: L).drop (cnt nmB (q :: L)))).toNat = t.extract (q.2 + p).toNat (posOf ((t.size : Int) - p) ((q :: L).drop (cnt nmB (q :: L))) + p).toNat := by
          rw [ext_ext t p _ _ (by omega)]
          congr 1 <;> omega
        simp only [Option.map_some, ex, Tok.sh]
      · rw [if_neg h2, if_neg h2]; rfl
    · rw [if_neg h1, if_neg h1]
      by_cases h2 : cls q.1 = 2
      · rw [if_pos h2, if_pos h2]
        split <;> simp [Tok.sh]
      · rw [if_neg h2, if_neg h2]
        rcases sigL (q :: L) with _ | x
        · rfl
        · simp [Tok.sh]
theorem stepL_shf (t : ByteArray) (p : Nat) (L : RL) (hp : p ≤ t.size) (h0 : ∀ q ∈ L, 0 ≤ q.2) (hs : srt ((t.size : Int) - p) L) :
    stepL t t.size (shf p L) = (stepL (t.extract p t.size) ((t.size : Int) - p) L).map fun x => (x.1.map (Tok.sh p), x.2) := by
  have ht := tokL_shf t p L hp h0 hs
  cases L with
  | nil => rfl
  | cons q L =>
    have hcons : shf p (q :: L) = (q.1, q.2 + p) :: shf p L := rfl
    have ecnt : ∀ f, cnt f ((q.1, q.2 + (p : Int)) :: shf p L) = cnt f (q :: L) := by intro f; rw [← hcons, shf_cnt]
    rw [hcons] at ht ⊢
    rw [stepL, stepL, ht, ecnt, ecnt]
    simp only []
    split
    · rfl
    · split
      · rfl
      · rcases tokL (t.extract p t.size) ((t.size : Int) - p) (q :: L) with _ | x <;> rfl

/-- Where the text is of runes alone: what the step gives of its rest. -/
theorem step_rest (t : ByteArray) (b p : Nat) (hp : p < t.size) (hb : t.size ≤ p + b) (hs : (eachF t b p).2 = -1) :
    (each (t.extract p t.size)).2 = -1 ∧ shf p (each (t.extract p t.size)).1 = (eachF t b p).1 ∧
    stepL t t.size (eachF t b p).1 = (stepL (t.extract p t.size) (t.extract p t.size).size (each (t.extract p t.size)).1).map fun x => (x.1.map (Tok.sh p), x.2) := by
  have hts := Lib.tail_size t p
  have h := each_rest t p b 0
  rw [Nat.add_zero] at h
  have e1 : eachF (t.extract p t.size) b 0 = each (t.extract p t.size) := eachF_fuel _ _ _ _ (by omega) (by omega)
  rw [e1] at h
  have h2 := h.2.2 hs
  refine ⟨h2, h.1, ?_⟩
  have hsr := eachF_srt (t.extract p t.size) (t.extract p t.size).size 0 (by omega)
  have e3 : eachF (t.extract p t.size) (t.extract p t.size).size 0 = each (t.extract p t.size) := rfl
  rw [e3] at hsr
  have e2 : endOf (t.extract p t.size) (each (t.extract p t.size)).2 = (t.size : Int) - p := by unfold endOf; rw [if_pos h2, hts]; omega
  rw [e2] at hsr
  rw [← h.1, stepL_shf t p _ (by omega) (fun q hq => each_at _ q hq) hsr]
  rw [hts]
  have e4 : ((t.size - p : Nat) : Int) = (t.size : Int) - p := by omega
  rw [e4]

/-! ### how many runes -/
theorem runeCount_each (s : ByteArray) : ∀ (b pos : Nat), s.size ≤ pos + b → (eachF s b pos).2 = -1 → Lib.runeCountFrom s b pos = (eachF s b pos).1.length := by
  intro b
  induction b with
  | zero => intro pos _ _; rfl
  | succ b ih =>
    intro pos h h2
    by_cases hp : pos < s.size
    · by_cases hb : badAt s pos
      · rw [eachF_bad _ _ _ hp hb] at h2; simp only [] at h2; omega
      · have hw := width_pos s pos hp
        rw [eachF_one _ _ _ hp hb] at h2 ⊢
        have := ih (pos + (Utf8.decode s pos).2) (by omega) h2
        unfold Lib.runeCountFrom
        rw [if_pos hp, this]
        simp only [List.length_cons]
        omega
    · rw [eachF_end _ _ _ hp, Lib.runeCountFrom_end _ _ _ hp]; rfl

/-! ### signs -/
theorem hasPrefix_rpre (s : ByteArray) : ∀ (x : List UInt8), (∀ c ∈ x, c.toNat < 128) → ∀ (b pos : Nat), s.size ≤ pos + b → (eachF s b pos).2 = -1 → Lib.hasPrefix (s.data.toList.drop pos) x = rpre x (eachF s b pos).1 := by
  intro x
  induction x with
  | nil => intro _ b pos _ _; cases h : s.data.toList.drop pos <;> cases h2 : (eachF s b pos).1 <;> simp [Lib.hasPrefix, rpre]
  | cons c x ih =>
    intro hx b pos hb h2
    have hc := hx c (List.mem_cons_self ..)
    by_cases hp : pos < s.size
    · obtain ⟨b, rfl⟩ : ∃ g, b = g + 1 := ⟨b - 1, by omega⟩
      have hbad : ¬ badAt s pos := by
        intro hbad
        rw [eachF_bad _ _ _ hp hbad] at h2; simp only [] at h2; omega
      have hp' : pos < s.data.toList.length := by rw [← Lib.size_eq]; exact hp
      have hg : s.data.toList[pos] = s.get! pos := by
        rw [← Lib.getD_get!', List.getD_eq_getElem?_getD, List.getElem?_eq_getElem hp']; rfl
      have hw := width_pos s pos hp
      rw [eachF_one _ _ _ hp hbad] at h2 ⊢
      rw [List.drop_eq_getElem_cons hp', hg]
      simp only [Lib.hasPrefix, rpre]
      by_cases he : s.get! pos = c
      · have hd := ascii_byte s pos (by rw [he]; exact hc)
        rw [he] at hd
        rw [hd] at h2 ⊢
        simp only [] at h2 ⊢
        rw [← ih (fun a ha => hx a (List.mem_cons_of_mem _ ha)) b (pos + 1) (by omega) h2, he]
        simp [Lib.hasPrefix]
      · have hne : ¬ (Utf8.decode s pos).1 = c.toNat := by
          intro h
          have := (ascii_one s pos (by omega)).1
          exact he (UInt8.toNat_inj.1 (by omega))
        have e1 : (c == s.get! pos) = false := by rw [beq_eq_false_iff_ne]; exact fun h => he h.symm
        have e2 : ((((Utf8.decode s pos).1 : Nat) : Int) == (c.toNat : Int)) = false := by rw [beq_eq_false_iff_ne]; omega
        rw [e2]
        simp [List.isPrefixOf, e1]
    · have : s.data.toList.drop pos = [] := List.drop_of_length_le (by rw [← Lib.size_eq]; omega)
      rw [this, eachF_end _ _ _ hp]
      rfl
theorem sigs_ascii : ∀ x ∈ sigs, ∀ c ∈ x.data.toList, c.toNat < 128 := by decide +kernel

/-! ### numbers -/
theorem cls2_iff (r : Int) : cls r = 2 ↔ 48 ≤ r ∧ r ≤ 57 := by
  constructor
  · intro h
    unfold cls at h
    split at h
    · omega
    · split at h
      · assumption
      · split at h
        · omega
        · split at h <;> omega
  · intro h; exact (cls2 h).symm
theorem dgB_iff (r : Int) : dgB r = true ↔ 48 ≤ r ∧ r ≤ 57 := by unfold dgB; rw [beq_iff_eq, cls2_iff]
/-- Digits alone: each is a byte, and their places are one behind the other. -/
theorem digits_len (s : ByteArray) : ∀ (b pos : Nat), s.size ≤ pos + b → pos ≤ s.size → (eachF s b pos).2 = -1 → (∀ q ∈ (eachF s b pos).1, dgB q.1 = true) → s.size = pos + (eachF s b pos).1.length := by
  intro b
  induction b with
  | zero => intro pos _ _ _ _; simp [eachF]; omega
  | succ b ih =>
    intro pos h h0 h2 h3
    by_cases hp : pos < s.size
    · have hbad : ¬ badAt s pos := by
        intro hbad
        rw [eachF_bad _ _ _ hp hbad] at h2; simp only [] at h2; omega
      rw [eachF_one _ _ _ hp hbad] at h2 h3 ⊢
      have hq := (dgB_iff _).1 (h3 _ (List.mem_cons_self ..))
      simp only [] at hq
      have h1 := ascii_one s pos (by omega)
      rw [h1.2] at h2 h3 ⊢
      have := ih (pos + 1) (by omega) (by omega) h2 (fun q hq => h3 q (List.mem_cons_of_mem _ hq))
      simp only [List.length_cons]
      omega
    · rw [eachF_end _ _ _ hp]; simp; omega
theorem numV_big : ∀ (L : RL) (a : Int), 99 < a → 99 < numV a L := by
  intro L
  induction L with
  | nil => intro a h; exact h
  | cons q L ih =>
    intro a h
    rw [numV]
    by_cases hq : dgB q.1 = true
    · rw [if_pos hq]
      have := (dgB_iff _).1 hq
      exact ih _ (by omega)
    · rw [if_neg hq]; exact h
theorem numV_one (q : Int × Int) (L : RL) (a : Int) (h0 : 0 ≤ a) (h : a ≤ 99) (hq : dgB q.1 = true) : numV a (q :: L) = numV (10 * a + (q.1 - 48)) L := by
  have := (dgB_iff _).1 hq
  rw [numV, if_pos hq, Int.min_eq_left (by omega)]
theorem cnt_take (p : Int → Bool) (L : RL) : cnt p (L.take (cnt p L)) = cnt p L := by
  induction L with
  | nil => rfl
  | cons q L ih =>
    by_cases h : p q.1 = true
    · rw [cnt_pos h, List.take_succ_cons, cnt_pos h, ih]
    · rw [cnt_zero (by simpa using h)]; rfl
theorem cnt_all (p : Int → Bool) (L : RL) : ∀ q ∈ L.take (cnt p L), p q.1 = true := by
  induction L with
  | nil => intro q h; simp at h
  | cons a L ih =>
    intro q hq
    by_cases h : p a.1 = true
    · rw [cnt_pos h, List.take_succ_cons, List.mem_cons] at hq
      rcases hq with rfl | hq
      · exact h
      · exact ih q hq
    · rw [cnt_zero (by simpa using h)] at hq; simp at hq
theorem num_take (L : RL) : ∀ a, numV a (L.take (cnt dgB L)) = numV a L := by
  induction L with
  | nil => intro a; rfl
  | cons q L ih =>
    intro a
    by_cases h : dgB q.1 = true
    · rw [cnt_pos h, List.take_succ_cons, numV, numV, if_pos h, if_pos h, ih]
    · rw [cnt_zero (by simpa using h), List.take_zero, numV, numV, if_neg h]
theorem cls_range (r : Int) : 0 ≤ cls r ∧ cls r ≤ 4 := by
  unfold cls
  repeat' split
  all_goals omega
/-- What is of no class begins no sign. -/
theorem sig_none (q : Int × Int) (L : RL) (h : cls q.1 = 0) : sigL (q :: L) = none := by
  rcases hx : sigL (q :: L) with _ | x
  · rfl
  · exfalso
    have h1 := sigF_some _ _ _ hx
    have h2 : ∀ x ∈ sigs, ∃ c y, x.data.toList = c :: y ∧ cls (c.toNat : Int) = 4 := by
      intro x hx
      simp only [sigs, List.mem_cons, List.not_mem_nil, or_false] at hx
      rcases hx with rfl | rfl | rfl | rfl | rfl | rfl | rfl | rfl | rfl | rfl | rfl | rfl | rfl | rfl | rfl | rfl | rfl | rfl <;> exact ⟨_, _, rfl, by decide +kernel⟩
    obtain ⟨c, y, e, hc⟩ := h2 x h1.1
    have h3 := h1.2
    rw [e] at h3
    simp only [rpre, Bool.and_eq_true, beq_iff_eq] at h3
    rw [h3.1] at h
    omega
end Go.Proofs.YtpdlnpllhjcejaaDoor
