/- Plain mathematics: a text's runes, of a piece of the text, of two texts together. No program is named here. -/
import Derived.Test.YtpdlnpllhjcejaaDoorRunesPureCut
namespace Go.Proofs.YtpdlnpllhjcejaaDoor
open Go.RowKit

theorem decN_irrel (n b0 b1 b2 b3 c1 c2 c3 : Nat) (h1 : 1 < n → b1 = c1) (h2 : 2 < n → b2 = c2) (h3 : 3 < n → b3 = c3) : Lib.decodeN n b0 b1 b2 b3 = Lib.decodeN n b0 c1 c2 c3 := by
  by_cases n1 : 1 < n
  · rw [h1 n1]
    by_cases n2 : 2 < n
    · rw [h2 n2]
      by_cases n3 : 3 < n
      · rw [h3 n3]
      · simp only [Lib.decodeN, n3, false_and, and_false, if_false]
    · simp only [Lib.decodeN, n2, false_and, and_false, if_false]
  · simp only [Lib.decodeN, n1, false_and, and_false, if_false]

set_option maxRecDepth 100000 in
theorem decN_more (n N b0 b1 b2 b3 : Nat) (hn : n ≤ N) (hg : ¬ ((Lib.decodeN n b0 b1 b2 b3).1 = 65533 ∧ (Lib.decodeN n b0 b1 b2 b3).2 < 2)) : Lib.decodeN N b0 b1 b2 b3 = Lib.decodeN n b0 b1 b2 b3 := by
  revert hg
  unfold Lib.decodeN
  repeat' split
  all_goals simp only []
  all_goals intro hg
  all_goals first | rfl | trivial | (exfalso; exact hg ⟨by first | rfl | trivial, by decide⟩) | (exfalso; omega)

set_option maxRecDepth 100000 in
theorem decN_less (n N b0 b1 b2 b3 : Nat) (hg : ¬ ((Lib.decodeN N b0 b1 b2 b3).1 = 65533 ∧ (Lib.decodeN N b0 b1 b2 b3).2 < 2)) (hw : (Lib.decodeN N b0 b1 b2 b3).2 ≤ n) : Lib.decodeN n b0 b1 b2 b3 = Lib.decodeN N b0 b1 b2 b3 := by
  revert hg hw
  unfold Lib.decodeN
  repeat' split
  all_goals simp only []
  all_goals intro hg hw
  all_goals first | rfl | trivial | (exfalso; exact hg ⟨by first | rfl | trivial, by decide⟩) | (exfalso; omega)

/-- One text begins with the other. -/
structure Pre (v u : ByteArray) : Prop where
  size : v.size ≤ u.size
  same : ∀ k, k < v.size → u.get! k = v.get! k

theorem pre_decN {v u : ByteArray} (h : Pre v u) (pos : Nat) (hp : pos < v.size) : Utf8.decode v pos = Lib.decodeN (v.size - pos) (u.get! pos).toNat (u.get! (pos + 1)).toNat (u.get! (pos + 2)).toNat (u.get! (pos + 3)).toNat := by
  rw [Lib.decode_at, h.same pos hp]
  refine decN_irrel _ _ _ _ _ _ _ _ ?_ ?_ ?_
  · intro h1; rw [h.same (pos + 1) (by omega)]
  · intro h1; rw [h.same (pos + 2) (by omega)]
  · intro h1; rw [h.same (pos + 3) (by omega)]

theorem pre_up {v u : ByteArray} (h : Pre v u) (pos : Nat) (hp : pos < v.size) (hg : ¬ badAt v pos) : Utf8.decode u pos = Utf8.decode v pos := by
  have hs := h.size
  unfold badAt at hg
  rw [pre_decN h pos hp] at hg ⊢
  rw [Lib.decode_at]
  exact decN_more _ _ _ _ _ _ (by omega) hg

theorem pre_down {v u : ByteArray} (h : Pre v u) (pos : Nat) (hp : pos < v.size) (hg : ¬ badAt u pos) (hw : pos + (Utf8.decode u pos).2 ≤ v.size) : Utf8.decode v pos = Utf8.decode u pos := by
  have hs := h.size
  unfold badAt at hg
  rw [pre_decN h pos hp]
  rw [Lib.decode_at] at hg hw ⊢
  exact decN_less _ _ _ _ _ _ hg (by omega)

theorem ext_size (u : ByteArray) (j : Nat) (h : j ≤ u.size) : (u.extract 0 j).size = j := by
  rw [Lib.size_eq] at h ⊢; rw [Lib.extract_data]; simp at h ⊢; omega
theorem ext_get! (u : ByteArray) (j k : Nat) (h : k < j) : (u.extract 0 j).get! k = u.get! k := by
  rw [← Lib.getD_get!', ← Lib.getD_get!', Lib.extract_data]
  simp [List.getD_eq_getElem?_getD, h]
theorem pre_ext (u : ByteArray) (j : Nat) (h : j ≤ u.size) : Pre (u.extract 0 j) u :=
  ⟨by rw [ext_size u j h]; exact h, fun k hk => by rw [ext_size u j h] at hk; rw [ext_get! u j k hk]⟩
theorem cat_size (a b : ByteArray) : (a ++ b).size = a.size + b.size := by simp [ByteArray.size_append]
theorem cat_get_l (a b : ByteArray) (k : Nat) (h : k < a.size) : (a ++ b).get! k = a.get! k := by
  rw [← Lib.getD_get!', ← Lib.getD_get!']
  rw [Lib.size_eq] at h
  have : (a ++ b).data.toList = a.data.toList ++ b.data.toList := by simp
  rw [this]
  simp [List.getElem?_append_left h]
theorem cat_get_r (a b : ByteArray) (k : Nat) : (a ++ b).get! (a.size + k) = b.get! k := by
  rw [← Lib.getD_get!', ← Lib.getD_get!']
  have : (a ++ b).data.toList = a.data.toList ++ b.data.toList := by simp
  rw [this, Lib.size_eq, List.getD_eq_getElem?_getD, List.getD_eq_getElem?_getD, List.getElem?_append_right (by omega)]
  simp
theorem pre_cat (a b : ByteArray) : Pre a (a ++ b) := ⟨by rw [cat_size]; omega, fun k hk => cat_get_l a b k hk⟩
theorem cat_tail (a b : ByteArray) : (a ++ b).extract a.size (a ++ b).size = b := by
  apply ByteArray.ext
  apply Array.ext'
  rw [cat_size]
  have := Lib.extract_data (a ++ b) a.size (a.size + b.size)
  rw [this]
  have e : (a ++ b).data.toList = a.data.toList ++ b.data.toList := by simp
  rw [e, Lib.size_eq, Lib.size_eq]
  rw [List.drop_left, List.take_of_length_le (by omega)]

/-! ### lists of runes -/
abbrev RL := List (Int × Int)
def posOf (e : Int) : RL → Int
  | [] => e
  | q :: _ => q.2
def shf (d : Int) (L : RL) : RL := L.map fun q => (q.1, q.2 + d)
def srt (e : Int) : RL → Prop
  | [] => True
  | q :: L => q.2 < posOf e L ∧ srt e L
/-- The place of the end of the part that is of runes. -/
def endOf (s : ByteArray) (bad : Int) : Int := if bad = -1 then s.size else bad

theorem eachF_fuel (s : ByteArray) : ∀ (b c pos : Nat), s.size ≤ pos + b → s.size ≤ pos + c → eachF s b pos = eachF s c pos := by
  intro b
  induction b with
  | zero => intro c pos h1 h2; rw [eachF_end _ _ _ (by omega), eachF_end _ _ _ (by omega)]
  | succ b ih =>
    intro c pos h1 h2
    by_cases hp : pos < s.size
    · obtain ⟨c, rfl⟩ : ∃ c', c = c' + 1 := ⟨c - 1, by omega⟩
      by_cases hb : badAt s pos
      · rw [eachF_bad _ _ _ hp hb, eachF_bad _ _ _ hp hb]
      · have hw := width_pos s pos hp
        rw [eachF_one _ _ _ hp hb, eachF_one _ _ _ hp hb, ih c _ (by omega) (by omega)]
    · rw [eachF_end _ _ _ hp, eachF_end _ _ _ hp]
theorem eachF_bad_ge (s : ByteArray) : ∀ (b pos : Nat), (eachF s b pos).2 = -1 ∨ ((pos : Int) ≤ (eachF s b pos).2 ∧ (eachF s b pos).2 < s.size) := by
  intro b
  induction b with
  | zero => intro pos; left; rfl
  | succ b ih =>
    intro pos
    by_cases hp : pos < s.size
    · by_cases hb : badAt s pos
      · rw [eachF_bad _ _ _ hp hb]; right; exact ⟨by simp, by simp; omega⟩
      · rw [eachF_one _ _ _ hp hb]
        rcases ih (pos + (Utf8.decode s pos).2) with h | h
        · left; exact h
        · right; exact ⟨by have := h.1; simp only []; omega, h.2⟩
    · rw [eachF_end _ _ _ hp]; left; rfl
theorem endOf_ge (s : ByteArray) (b pos : Nat) (h : pos ≤ s.size) : (pos : Int) ≤ endOf s (eachF s b pos).2 ∧ endOf s (eachF s b pos).2 ≤ s.size := by
  unfold endOf
  rcases eachF_bad_ge s b pos with h1 | h1
  · rw [if_pos h1]; omega
  · rw [if_neg (by omega)]; omega
theorem eachF_ge (s : ByteArray) : ∀ (b pos : Nat), ∀ q ∈ (eachF s b pos).1, (pos : Int) ≤ q.2 ∧ q.2 < s.size := by
  intro b
  induction b with
  | zero => intro pos q hq; simp [eachF] at hq
  | succ b ih =>
    intro pos q hq
    by_cases hp : pos < s.size
    · by_cases hb : badAt s pos
      · rw [eachF_bad _ _ _ hp hb] at hq; simp at hq
      · rw [eachF_one _ _ _ hp hb] at hq
        simp only [List.mem_cons] at hq
        rcases hq with rfl | hq
        · exact ⟨by simp, by simp; omega⟩
        · have := ih _ q hq; omega
    · rw [eachF_end _ _ _ hp] at hq; simp at hq
theorem posOf_ge (s : ByteArray) (b pos : Nat) (h : pos ≤ s.size) (k : Nat) : (pos : Int) ≤ posOf (endOf s (eachF s b pos).2) ((eachF s b pos).1.drop k) ∧ posOf (endOf s (eachF s b pos).2) ((eachF s b pos).1.drop k) ≤ s.size := by
  rcases hd : (eachF s b pos).1.drop k with _ | ⟨q, M⟩
  · exact endOf_ge s b pos h
  · have hq : q ∈ (eachF s b pos).1 := List.mem_of_mem_drop (by rw [hd]; exact List.mem_cons_self ..)
    have := eachF_ge s b pos q hq
    exact ⟨this.1, by have := this.2; simp only [posOf]; omega⟩
theorem eachF_srt (s : ByteArray) : ∀ (b pos : Nat), pos ≤ s.size → srt (endOf s (eachF s b pos).2) (eachF s b pos).1 := by
  intro b
  induction b with
  | zero => intro pos _; trivial
  | succ b ih =>
    intro pos hs
    by_cases hp : pos < s.size
    · by_cases hb : badAt s pos
      · rw [eachF_bad _ _ _ hp hb]; trivial
      · have hw := width_pos s pos hp
        have hl := width_le s pos hp
        rw [eachF_one _ _ _ hp hb]
        refine ⟨?_, ih _ hl⟩
        have := (posOf_ge s b (pos + (Utf8.decode s pos).2) hl 0).1
        simp only [List.drop_zero] at this
        simp only []
        omega
    · rw [eachF_end _ _ _ hp]; trivial

/-- A text that is cut where a rune begins, or where the part of runes ends, has the runes ahead of there. -/
theorem each_cut (u : ByteArray) : ∀ (b pos k : Nat), pos ≤ u.size → k ≤ (eachF u b pos).1.length → u.size ≤ pos + b → ∀ j : Nat, (j : Int) = posOf (endOf u (eachF u b pos).2) ((eachF u b pos).1.drop k) →
    eachF (u.extract 0 j) b pos = ((eachF u b pos).1.take k, -1) := by
  intro b
  induction b with
  | zero => intro pos k _ hk _ j _; simp [eachF]
  | succ b ih =>
    intro pos k hs hk hf j hj
    have hju : j ≤ u.size := by have := (posOf_ge u (b + 1) pos hs k).2; omega
    have hvs := ext_size u j hju
    by_cases hp : pos < u.size
    · by_cases hb : badAt u pos
      · rw [eachF_bad _ _ _ hp hb] at hj ⊢
        rw [eachF_end _ _ _ (by simp only [posOf, endOf, List.drop_nil] at hj; rw [if_neg (by omega)] at hj; omega)]
        simp
      · have hw := width_pos u pos hp
        have hl := width_le u pos hp
        rw [eachF_one _ _ _ hp hb] at hk hj ⊢
        cases k with
        | zero =>
          simp only [List.drop_zero, posOf] at hj
          rw [eachF_end _ _ _ (by omega)]
          simp
        | succ k =>
          simp only [List.drop_succ_cons, List.length_cons] at hj hk
          have hge := (posOf_ge u b (pos + (Utf8.decode u pos).2) hl k).1
          have hlt : pos < (u.extract 0 j).size := by omega
          have hd : Utf8.decode (u.extract 0 j) pos = Utf8.decode u pos := pre_down (pre_ext u j hju) pos hlt hb (by omega)
          have hb' : ¬ badAt (u.extract 0 j) pos := by unfold badAt at hb ⊢; rw [hd]; exact hb
          rw [eachF_one _ _ _ hlt hb', hd, ih _ k hl (by omega) (by omega) j hj]
          simp
    · rw [eachF_end _ _ _ hp] at hj ⊢
      rw [eachF_end _ _ _ (by omega)]
      simp

theorem each_enough (s : ByteArray) (b : Nat) (h : s.size ≤ b) : eachF s b 0 = each s := eachF_fuel s b s.size 0 (by omega) (by omega)

/-- The part of a text that is of runes: its runes are the text's. -/
theorem each_sound (s : ByteArray) (j : Nat) (hj : (j : Int) = endOf s (each s).2) : each (s.extract 0 j) = ((each s).1, -1) := by
  have h2 := (endOf_ge s s.size 0 (by omega)).2
  have hju : j ≤ s.size := by have : (each s).2 = (eachF s s.size 0).2 := rfl; rw [← this] at h2; omega
  have := each_cut s s.size 0 (each s).1.length (by omega) (Nat.le_refl _) (by omega) j (by
    rw [List.drop_of_length_le (by exact Nat.le_refl _)]; exact hj)
  rw [each_enough _ _ (by rw [ext_size s j hju]; exact hju)] at this
  rw [this]
  show ((each s).1.take _, _) = _
  rw [List.take_length]

/-- The runes of a text's rest are the text's, from there on. -/
theorem each_rest (u : ByteArray) (p : Nat) : ∀ (b pos : Nat), shf p (eachF (u.extract p u.size) b pos).1 = (eachF u b (p + pos)).1 ∧ ((eachF (u.extract p u.size) b pos).2 = -1 ↔ (eachF u b (p + pos)).2 = -1) := by
  intro b
  induction b with
  | zero => intro pos; exact ⟨rfl, Iff.rfl⟩
  | succ b ih =>
    intro pos
    have hts := Lib.tail_size u p
    by_cases hp : pos < (u.extract p u.size).size
    · have hp' : p + pos < u.size := by omega
      have hbb : badAt (u.extract p u.size) pos ↔ badAt u (p + pos) := by unfold badAt; rw [Lib.tail_decode]
      by_cases hb : badAt (u.extract p u.size) pos
      · rw [eachF_bad _ _ _ hp hb, eachF_bad _ _ _ hp' (hbb.1 hb)]
        exact ⟨rfl, by simp only []; omega⟩
      · rw [eachF_one _ _ _ hp hb, eachF_one _ _ _ hp' (fun h => hb (hbb.2 h)), Lib.tail_decode]
        have := ih (pos + (Utf8.decode u (p + pos)).2)
        rw [Nat.add_assoc]
        refine ⟨?_, this.2⟩
        simp only [shf, List.map_cons]
        rw [← this.1]
        simp only [shf, List.cons.injEq, Prod.mk.injEq, true_and]
        exact ⟨by omega, trivial⟩
    · rw [eachF_end _ _ _ hp, eachF_end _ _ _ (by omega)]
      exact ⟨rfl, Iff.rfl⟩

/-- The runes of two texts together, the first of which is of runes alone. -/
theorem each_cat_aux (a b : ByteArray) : ∀ (f g pos : Nat), pos ≤ a.size → a.size ≤ pos + f → (a ++ b).size ≤ pos + g → (eachF a f pos).2 = -1 →
    eachF (a ++ b) g pos = ((eachF a f pos).1 ++ (eachF (a ++ b) b.size a.size).1, (eachF (a ++ b) b.size a.size).2) := by
  intro f
  induction f with
  | zero =>
    intro g pos h0 h1 h2 _
    obtain rfl : pos = a.size := by omega
    rw [cat_size] at h2
    rw [eachF_fuel (a ++ b) g b.size a.size (by rw [cat_size]; omega) (by rw [cat_size]; omega)]
    simp [eachF]
  | succ f ih =>
    intro g pos h0 h1 h2 h3
    by_cases hp : pos < a.size
    · by_cases hb : badAt a pos
      · rw [eachF_bad _ _ _ hp hb] at h3; simp only [] at h3; omega
      · have hu := pre_up (pre_cat a b) pos hp hb
        have hb' : ¬ badAt (a ++ b) pos := by unfold badAt at hb ⊢; rw [hu]; exact hb
        have hw := width_pos a pos hp
        have hl := width_le a pos hp
        have hcs := cat_size a b
        obtain ⟨g, rfl⟩ : ∃ g', g = g' + 1 := ⟨g - 1, by omega⟩
        rw [eachF_one _ _ _ hp hb] at h3 ⊢
        rw [eachF_one _ _ _ (by omega) hb', hu, ih g _ (by omega) (by omega) (by omega) h3]
        simp
    · obtain rfl : pos = a.size := by omega
      rw [eachF_end _ _ _ hp]
      rw [cat_size] at h2
      rw [eachF_fuel (a ++ b) g b.size a.size (by rw [cat_size]; omega) (by rw [cat_size]; omega)]
      simp

theorem each_cat (a b : ByteArray) (h : (each a).2 = -1) (hb : (each b).2 = -1) : each (a ++ b) = ((each a).1 ++ shf a.size (each b).1, -1) := by
  have h1 := each_cat_aux a b a.size (a ++ b).size 0 (by omega) (by omega) (by omega) h
  have h2 := each_rest (a ++ b) a.size b.size 0
  rw [cat_tail] at h2
  show eachF (a ++ b) (a ++ b).size 0 = _
  rw [h1]
  have e2 : (eachF (a ++ b) b.size (a.size + 0)).2 = -1 := h2.2.1 hb
  rw [Nat.add_zero] at h2 e2
  rw [e2, ← h2.1]
  rfl

/-! ### texts of runes below 128 -/
theorem ascii_byte (s : ByteArray) (pos : Nat) (h : (s.get! pos).toNat < 128) : Utf8.decode s pos = ((s.get! pos).toNat, 1) := by
  rw [Lib.decode_at]; unfold Lib.decodeN; rw [if_pos h]
theorem ascii_one (s : ByteArray) (pos : Nat) (h : (Utf8.decode s pos).1 < 128) : (s.get! pos).toNat = (Utf8.decode s pos).1 ∧ (Utf8.decode s pos).2 = 1 := by
  by_cases ha : (s.get! pos).toNat < 128
  · rw [ascii_byte s pos ha]; exact ⟨rfl, rfl⟩
  · exfalso
    revert h
    rw [Lib.decode_at]
    unfold Lib.decodeN
    repeat' split
    all_goals simp only []
    all_goals omega
end Go.Proofs.YtpdlnpllhjcejaaDoor
