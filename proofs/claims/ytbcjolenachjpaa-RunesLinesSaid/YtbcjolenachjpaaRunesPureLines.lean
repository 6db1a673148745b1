/- Plain mathematics: lines of a text that is followed by a line feed. No program is named here. -/
import Derived.Test.YtbcjolenachjpaaRunesPure
namespace Go.Proofs.Ytbcjolenachjpaa
open Go.RowKit

/-- X begins with s, and a line feed behind it. -/
structure Fed (s X : ByteArray) : Prop where
  size : s.size + 1 ≤ X.size
  same : ∀ k, k < s.size → X.get! k = s.get! k
  feed : X.get! s.size = 10

theorem get!_end (s : ByteArray) (k : Nat) (h : s.size ≤ k) : s.get! k = 0 := by
  rw [← Lib.getD_get!']
  rw [Lib.size_eq] at h
  rw [List.getD_eq_getElem?_getD, List.getElem?_eq_none h]
  rfl

theorem fed_decode {s X : ByteArray} (h : Fed s X) (pos : Nat) (hp : pos < s.size) : Utf8.decode X pos = Utf8.decode s pos := by
  rw [Lib.decode_at, Lib.decode_at]
  have hsz := h.size
  have e0 := h.same pos hp
  rw [e0]
  by_cases h1 : pos + 1 < s.size
  · rw [h.same (pos + 1) h1]
    by_cases h2 : pos + 2 < s.size
    · rw [h.same (pos + 2) h2]
      by_cases h3 : pos + 3 < s.size
      · rw [h.same (pos + 3) h3]
        unfold Lib.decodeN
        have c1 : (1 < X.size - pos) = (1 < s.size - pos) := propext ⟨fun _ => by omega, fun _ => by omega⟩
        have c2 : (2 < X.size - pos) = (2 < s.size - pos) := propext ⟨fun _ => by omega, fun _ => by omega⟩
        have c3 : (3 < X.size - pos) = (3 < s.size - pos) := propext ⟨fun _ => by omega, fun _ => by omega⟩
        simp only [c1, c2, c3]
      · have e : pos + 3 = s.size := by omega
        have x3 : X.get! (pos + 3) = 10 := by rw [e]; exact h.feed
        have s3 : s.get! (pos + 3) = 0 := get!_end _ _ (by omega)
        rw [x3, s3]
        unfold Lib.decodeN
        have c1 : (1 < X.size - pos) = (1 < s.size - pos) := propext ⟨fun _ => by omega, fun _ => by omega⟩
        have c2 : (2 < X.size - pos) = (2 < s.size - pos) := propext ⟨fun _ => by omega, fun _ => by omega⟩
        simp [c1, c2]
    · have e : pos + 2 = s.size := by omega
      have x3 : X.get! (pos + 2) = 10 := by rw [e]; exact h.feed
      have s3 : s.get! (pos + 2) = 0 := get!_end _ _ (by omega)
      rw [x3, s3]
      unfold Lib.decodeN
      have c1 : (1 < X.size - pos) = (1 < s.size - pos) := propext ⟨fun _ => by omega, fun _ => by omega⟩
      simp [c1]
  · have e : pos + 1 = s.size := by omega
    have x3 : X.get! (pos + 1) = 10 := by rw [e]; exact h.feed
    have s3 : s.get! (pos + 1) = 0 := get!_end _ _ (by omega)
    rw [x3, s3]
    unfold Lib.decodeN
    simp

theorem fed_feed {s X : ByteArray} (h : Fed s X) : Utf8.decode X s.size = (10, 1) := by
  rw [Lib.decode_at, h.feed]
  rfl

/-- With fuel enough more fuel does not matter. -/
theorem plF_fuel (s : ByteArray) (at' : Int) (b b' pos : Nat) (l c : Int) (h : s.size ≤ pos + b) (h' : s.size ≤ pos + b') : plF s at' b pos l c = plF s at' b' pos l c := by
  induction b generalizing b' pos l c with
  | zero => rw [plF_end _ _ b' _ _ _ (by omega)]; rfl
  | succ b ih =>
    by_cases hc : pos < s.size ∧ (pos : Int) < at'
    · have hw := width_pos s pos hc.1
      obtain ⟨b', rfl⟩ : ∃ f, b' = f + 1 := ⟨b' - 1, by omega⟩
      by_cases h10 : (Utf8.decode s pos).1 = 10
      · rw [plF_lf _ _ _ _ _ _ hc h10, plF_lf _ _ _ _ _ _ hc h10]; exact ih _ _ _ _ (by omega) (by omega)
      · rw [plF_no _ _ _ _ _ _ hc h10, plF_no _ _ _ _ _ _ hc h10]; exact ih _ _ _ _ (by omega) (by omega)
    · rw [plF_end _ _ _ _ _ _ hc, plF_end _ _ _ _ _ _ hc]

/-- Up to the feed the lines are s'. -/
theorem fed_same {s X : ByteArray} (h : Fed s X) (b pos : Nat) (l c : Int) : plF X s.size b pos l c = plF s s.size b pos l c := by
  have hsz := h.size
  induction b generalizing pos l c with
  | zero => rfl
  | succ b ih =>
    by_cases hc : pos < s.size
    · have hX : pos < X.size ∧ (pos : Int) < s.size := by omega
      have hS : pos < s.size ∧ (pos : Int) < s.size := by omega
      have e := fed_decode h pos hc
      by_cases h10 : (Utf8.decode s pos).1 = 10
      · rw [plF_lf _ _ _ _ _ _ hX (by rw [e]; exact h10), plF_lf _ _ _ _ _ _ hS h10, e]; exact ih _ _ _
      · rw [plF_no _ _ _ _ _ _ hX (by rw [e]; exact h10), plF_no _ _ _ _ _ _ hS h10, e]; exact ih _ _ _
    · rw [plF_end _ _ _ _ _ _ (by omega), plF_end _ _ _ _ _ _ (by omega)]

/-- Behind the feed a line begins. -/
theorem fed_next {s X : ByteArray} (h : Fed s X) (b pos : Nat) (l c : Int) (hp : pos ≤ s.size) (hb : s.size + 1 ≤ pos + b) :
    plF X (s.size + 1 : Int) b pos l c = ((plF s s.size b pos l c).1 + 1, 1) := by
  have hsz := h.size
  induction b generalizing pos l c with
  | zero => omega
  | succ b ih =>
    have hX : pos < X.size ∧ (pos : Int) < (s.size + 1 : Int) := by omega
    by_cases hc : pos < s.size
    · have hS : pos < s.size ∧ (pos : Int) < s.size := by omega
      have e := fed_decode h pos hc
      have hw := width_pos s pos hc
      have hl := width_le s pos hc
      by_cases h10 : (Utf8.decode s pos).1 = 10
      · rw [plF_lf _ _ _ _ _ _ hX (by rw [e]; exact h10), plF_lf _ _ _ _ _ _ hS h10, e]; exact ih _ _ _ hl (by omega)
      · rw [plF_no _ _ _ _ _ _ hX (by rw [e]; exact h10), plF_no _ _ _ _ _ _ hS h10, e]; exact ih _ _ _ hl (by omega)
    · obtain rfl : pos = s.size := by omega
      have e := fed_feed h
      rw [plF_lf _ _ _ _ _ _ hX (by rw [e]), e, plF_end _ _ _ _ _ _ (by omega), plF_end _ _ _ _ _ _ (by omega)]

theorem fed_pl {s X : ByteArray} (h : Fed s X) : pl X s.size = pl s s.size ∧ pl X (s.size + 1 : Int) = ((pl s s.size).1 + 1, 1) := by
  have hsz := h.size
  unfold pl
  refine ⟨?_, ?_⟩
  · rw [fed_same h]
    exact plF_fuel _ _ _ _ _ _ _ (by omega) (by omega)
  · rw [fed_next h _ _ _ _ (by omega) (by omega), plF_fuel s s.size X.size s.size _ _ _ (by omega) (by omega)]
end Go.Proofs.Ytbcjolenachjpaa
