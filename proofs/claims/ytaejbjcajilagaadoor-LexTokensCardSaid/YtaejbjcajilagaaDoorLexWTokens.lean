/- The walk of LexTokens. -/
import Derived.Test.YtaejbjcajilagaaDoorLexKnown
import Derived.Test.YtaejbjcajilagaaDoorRefToks
import Derived.Test.YtaejbjcajilagaaDoorLexPure2
import Derived.Test.YtaejbjcajilagaaDoorRows
import Derived.WalkKit
import Derived.WalkLawsBesides
import Derived.WalkSpells
import Derived.ProofKit
import Derived.Outline
import Derived.Deep.QuietTactic
import Derived.BigQuiet
import Derived.Deep.Light
import Derived.Deep.CutBlock
import Derived.Deep.DeepCutAuto
import Derived.Deep.DeepFit
import Derived.Deep.LoopGhost
import Derived.Lib.Hide
import Derived.Lib.OthersKept
import Derived.IntWalk
import Derived.StillTailTactics
namespace Go.Proofs.YtaejbjcajilagaaDoor
open Go.RowKit
theorem refL_len (s : ByteArray) (e : Int) : ∀ (f : Nat) (X : RL), (refL s e f X).1.length ≤ f := by
  intro f
  induction f with
  | zero => intro X; simp [refL]
  | succ f ih =>
    intro X
    unfold refL
    rcases skp false X with _ | ⟨q, M⟩
    · simp
    · simp only []
      rcases tokL s e (q :: M) with _ | ⟨t, k⟩
      · simp
      · have := ih ((q :: M).drop k)
        simp
        omega
theorem toks_len (s : ByteArray) : (toks s).1.length ≤ s.size + 1 := by
  have h1 := toks_ref s (each s).1.length (Nat.le_refl _)
  have h2 := refL_len s (endOf s (each s).2) (each s).1.length (each s).1
  have h3 := each_len s
  rw [← h1] at h2
  unfold toks
  split
  · split
    · simp
    · split
      · simp; omega
      · simp
  · simp
theorem rtokens_is (s : ByteArray) (l : List Tok) (at' err : Int) (w : World) (hU : Lib.Utf8Tabs 3 4 w) (hs : s.size ≤ 1000000) (h : toks s = (l, at', err)) :
    Calls Tryd.prog 10 #[.string s] w fun e w' => ∃ v, e = .returned (.tuple #[v, .int .i64 at', .int .i64 err]) ∧ w'.ownsRow w.heap.size 34 4 v l.length (flatT l) ∧ Below w.heap.size w w' := by
  refine (rtokens_any s w hs hU).mono fun e w' hp => ?_
  obtain ⟨v, h1, h2, h3⟩ := hp
  rw [h] at h1 h2
  exact ⟨v, h1, h2, h3⟩
set_option maxRecDepth 100000 in
set_option maxHeartbeats 4000000 in
theorem tokens_walk (s : ByteArray) (w : World) (hm : s.size ≤ 140737488351232) (hTT : LTabs w ∧ Lib.Utf8Tabs 3 4 w) :
    Calls Tryd.prog 3 #[.string s] w fun e w' => e = .returned (.bool true) ∧ Below w.heap.size w w' := by
  obtain ⟨hT, hU⟩ := hTT
  by_cases h25 : s.size ≤ 2500
  · have hlen := toks_len s
    obtain ⟨⟨l, at', err⟩, ht⟩ : ∃ r, toks s = r := ⟨_, rfl⟩
    rw [ht] at hlen
    simp only [] at hlen
    have HT := Lib.hid ht
    clear ht
    go_enter Tryd.func3, Tryd.ntmps3
    go_wp2_with fail
    refine (tokens_is s l at' err _ hT (by omega) HT.out).mono ?_
    rintro e w1 ⟨v1, rfl, hown1, hb1⟩
    go_wp2_with fail
    refine (rtokens_is s l at' err _ (Utf8Tabs_below hU hb1) (by omega) HT.out).mono ?_
    rintro e w2 ⟨v2, rfl, hown2, hb2⟩
    have hown1' := own_below hown1 hb2
    have hz1 := hb1.size
    have hbb : Below w.heap.size w w2 := hb1.trans (hb2.mono hz1)
    have hz2 := hbb.size
    clear hown1 hb2
    go_wp2_with fail
    refine (same_any l _ _ v1 v2 _ (by omega) hown1' hown2).mono ?_
    rintro e w3 ⟨rfl, hb3⟩
    have hb4 : Below w.heap.size w w3 := hbb.trans (hb3.mono hz2)
    have e1 : (at' == at') = true := by simp
    have e2 : (err == err) = true := by simp
    clear hown1' hown2
    go_wp2_with fail
    refine (known_any _ (hT.below hb4)).mono ?_
    rintro e w5 ⟨rfl, hb5⟩
    go_wp2
    go_ret
    exact ⟨rfl, hb4.trans (hb5.mono hb4.size)⟩
  · go_enter Tryd.func3, Tryd.ntmps3
    go_wp2
    go_ret
    exact ⟨rfl, Below.refl _ _⟩
end Go.Proofs.YtaejbjcajilagaaDoor
