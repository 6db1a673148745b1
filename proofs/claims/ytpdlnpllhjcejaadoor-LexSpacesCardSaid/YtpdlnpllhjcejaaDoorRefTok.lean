/- What token of the reader of sibylref2 answers: the token that stands there, or a fault. -/
import Derived.Test.YtpdlnpllhjcejaaDoorRefSig
import Derived.Test.YtpdlnpllhjcejaaDoorLexPure2
import Derived.Test.YtpdlnpllhjcejaaDoorRows
import Derived.WalkKit
import Derived.WalkLawsBesides
import Derived.WalkSpells
import Derived.ProofKit
import Derived.Outline
import Derived.Deep.QuietTactic
import Derived.BigQuiet
import Derived.Deep.Light
import Derived.Deep.CutBlock
import Derived.Deep.DeepCutAuto
import Derived.Deep.DeepFit
import Derived.Deep.LoopGhost
import Derived.Lib.Hide
import Derived.Lib.OthersKept
import Derived.IntWalk
import Derived.StillTailTactics
namespace Go.Proofs.YtpdlnpllhjcejaaDoor
open Go.RowKit
theorem tok_name (s : ByteArray) (L : RL) (bad : Int) (i : Nat) (hi : i < L.length) (h1 : cls (L[i]'hi).1 = 1) (po : Int) (hpo : (L[i]'hi).2 = po) :
    tokL s (endOf s bad) (L.drop i) = if cnt nmB (L.drop i) ≤ 12 then some (⟨if isWrd (nameT s L bad i po) then 3 else 1, nameT s L bad i po, 0, po⟩, cnt nmB (L.drop i)) else none := by
  unfold nameT
  rw [← List.drop_drop, drop_at L i hi, tokL, if_pos h1, hpo]
theorem tok_num (s : ByteArray) (L : RL) (e : Int) (i : Nat) (hi : i < L.length) (h1 : cls (L[i]'hi).1 = 2) (po : Int) (hpo : (L[i]'hi).2 = po) :
    tokL s e (L.drop i) = if numV 0 (L.drop i) ≤ 99 ∧ ¬ ((L[i]'hi).1 = 48 ∧ 1 < cnt dgB (L.drop i)) then some (⟨2, ⟨#[]⟩, numV 0 (L.drop i), po⟩, cnt dgB (L.drop i)) else none := by
  rw [drop_at L i hi, tokL, if_neg (by omega), if_pos h1, hpo]
theorem tok_sig (s : ByteArray) (L : RL) (e : Int) (i : Nat) (hi : i < L.length) (h1 : ¬ cls (L[i]'hi).1 = 1) (h2 : ¬ cls (L[i]'hi).1 = 2) (po : Int) (hpo : (L[i]'hi).2 = po) :
    tokL s e (L.drop i) = match sigL (L.drop i) with
      | some x => some (⟨3, x, 0, po⟩, x.size)
      | none => none := by
  rw [drop_at L i hi, tokL, if_neg h1, if_neg h2, hpo]
  cases sigL (L[i] :: L.drop (i + 1)) <;> rfl
def TokOut (s : ByteArray) (R : Nat) (lv : Value) (L : RL) (bad : Int) (i : Nat) (e : Ending) (w' : World) : Prop :=
  match tokL s (endOf s bad) (L.drop i) with
  | some (t, k) => e = .returned (.tuple #[tokV (some t), .bool true]) ∧ Rd w' R s lv bad ((i : Int) + k)
  | none => ∃ (a : Int) (b : ByteArray) (c d : Int), e = .returned (.tuple #[.agg #[.int .i64 a, .string b, .int .i64 c, .int .i64 d], .bool false])
def TokPost (w : World) (s : ByteArray) (R : Nat) (lv : Value) (L : RL) (bad : Int) (i : Nat) (e : Ending) (w' : World) : Prop := w.grownBy w' (some R) ∧ TokOut s R lv L bad i e w'
theorem Blk4.grown {w w' : World} {B R : Nat} {a b c d : Value} (h : Blk4 w B a b c d) (hg : w.grownBy w' (some R)) (hne : R ≠ B) : Blk4 w' B a b c d := by
  unfold Blk4 at *
  rw [hg.block B (Array.getElem?_eq_some_iff.1 h).1 (fun e => by cases e; exact hne rfl)]; exact h
theorem TokOut.yes {s : ByteArray} {R : Nat} {lv : Value} {L : RL} {bad : Int} {i : Nat} {w' : World} {t : Tok} {k : Nat} {v : Value} (h : tokL s (endOf s bad) (L.drop i) = some (t, k)) (hv : v = tokV (some t)) (hd : Rd w' R s lv bad ((i : Int) + k)) :
    TokOut s R lv L bad i (.returned (.tuple #[v, .bool true])) w' := by
  unfold TokOut; rw [h, hv]; exact ⟨rfl, hd⟩
theorem TokOut.no {s : ByteArray} {R : Nat} {lv : Value} {L : RL} {bad : Int} {i : Nat} {w' : World} {a : Int} {b : ByteArray} {c d : Int} (h : tokL s (endOf s bad) (L.drop i) = none) :
    TokOut s R lv L bad i (.returned (.tuple #[.agg #[.int .i64 a, .string b, .int .i64 c, .int .i64 d], .bool false])) w' := by
  unfold TokOut; rw [h]; exact ⟨a, b, c, d, rfl⟩
set_option maxRecDepth 100000 in
set_option maxHeartbeats 4000000 in
theorem rtoken_any (w : World) (R : Nat) (s : ByteArray) (lv : Value) (L : RL) (bad : Int) (i : Nat) (hS : RS w R s lv L bad i) (hL : L = (each s).1) (hbad : bad = (each s).2) (hi : i < L.length) :
    Calls Tryd.prog 33 #[.pointer (some ⟨R, 0, none⟩)] w (TokPost w s R lv L bad i) := by
  have hRlt := hS.rd.lt
  obtain ⟨po, hpo⟩ : ∃ po, (L[i]'hi).2 = po := ⟨_, rfl⟩
  obtain ⟨W0, hW0⟩ : ∃ W0, W0 = w.alloc (.cells #[.int .i64 0, .string ⟨#[]⟩, .int .i64 0, .int .i64 0] 30) := ⟨_, rfl⟩
  have hR0 : RS W0 R s lv L bad i := by rw [hW0]; exact hS.below ((Below.refl _ _).alloc (Nat.le_refl _) _)
  have hB0 : Blk4 W0 w.heap.size (.int .i64 0) (.string ⟨#[]⟩) (.int .i64 0) (.int .i64 0) := by rw [hW0]; exact blk4_new _ _ _ _ _
  have hg0 : w.grownBy W0 (some R) := by rw [hW0]; exact grown_alloc (grown_refl _ _) _
  have hne1 : R ≠ w.heap.size := by omega
  have HW := Lib.hid hW0
  have HL := Lib.hid hL
  have HBD := Lib.hid hbad
  have HPO := Lib.hid hpo
  clear hW0 hS hL hbad hpo
  have fin : ∀ (w2 : World) (a : Int) (b : ByteArray) (c d : Int), W0.grownBy w2 (some R) → w.grownBy ((((w2.setCell ⟨w.heap.size, 0, none⟩ (.int .i64 a)).setCell ⟨w.heap.size, 1, none⟩ (.string b)).setCell ⟨w.heap.size, 2, none⟩ (.int .i64 c)).setCell ⟨w.heap.size, 3, none⟩ (.int .i64 d)) (some R) ∧
      Blk4 ((((w2.setCell ⟨w.heap.size, 0, none⟩ (.int .i64 a)).setCell ⟨w.heap.size, 1, none⟩ (.string b)).setCell ⟨w.heap.size, 2, none⟩ (.int .i64 c)).setCell ⟨w.heap.size, 3, none⟩ (.int .i64 d)) w.heap.size (.int .i64 a) (.string b) (.int .i64 c) (.int .i64 d) ∧
      ∀ j, Rd w2 R s lv bad j → Rd ((((w2.setCell ⟨w.heap.size, 0, none⟩ (.int .i64 a)).setCell ⟨w.heap.size, 1, none⟩ (.string b)).setCell ⟨w.heap.size, 2, none⟩ (.int .i64 c)).setCell ⟨w.heap.size, 3, none⟩ (.int .i64 d)) R s lv bad j := by
    intro w2 a b c d hg
    refine ⟨?_, (hB0.grown hg hne1).set _ _ _ _, fun j hd => ?_⟩
    · refine grown_new ?_ _ (by simp) _
      refine grown_new ?_ _ (by simp) _
      refine grown_new ?_ _ (by simp) _
      refine grown_new ?_ _ (by simp) _
      exact hg0.trans hg
    · refine rd_other ?_ _ hne1 _
      refine rd_other ?_ _ hne1 _
      refine rd_other ?_ _ hne1 _
      refine rd_other ?_ _ hne1 _
      exact hd
  have FIN := Lib.hid fin
  clear fin
  by_cases h1 : cls (L[i]'hi).1 = 1
  · have HC := Lib.hid (show clsAt L i = 1 by rw [clsAt_in L i hi]; exact h1)
    have htk := tok_name s L bad i hi h1 po HPO.out
    have HTK := Lib.hid htk
    have H1 := Lib.hid h1
    clear htk h1
    go_enter Tryd.func33, Tryd.ntmps33
    go_wp2_with fail
    rw [← HW.out]
    refine (rdclass0 W0 R s _ L bad i 1 hR0 HC.out).mono ?_
    rintro e w1 ⟨rfl, q, rfl⟩
    go_wp2_with fail
    obtain ⟨K, hK⟩ : ∃ K : Int, K = if isWrd (nameT s L bad i po) then 3 else 1 := ⟨_, rfl⟩
    refine (rname_any _ R s _ L bad i (hR0.drewN q) HL.out HBD.out hi H1.out po HPO.out K hK _ rfl).mono ?_
    rintro e w2 ⟨rfl, hd2, hg2⟩
    have hg3 : W0.grownBy w2 (some R) := (grown_of_below (below_dn W0 q) _).trans hg2
    have hB2 := hB0.grown hg3 hne1
    obtain ⟨⟨a0, a1, a2, a3⟩, fa0, fa1, fa2, fa3⟩ := blk4 hB2
    have HKK := Lib.hid hK
    clear hK hR0 hB0 hg2
    by_cases h12 : cnt nmB (L.drop i) ≤ 12
    · have hb : decide (cnt nmB (L.drop i) ≤ 12) = true := by rw [decide_eq_true_iff]; exact h12
      have HY := Lib.hid (HTK.out.trans (if_pos h12))
      rw [hb]
      clear hb h12
      go_wp2
      obtain ⟨hgf, hB9, hdf⟩ := FIN.out w2 K (nameT s L bad i po) 0 po hg3
      obtain ⟨⟨j0, j1, j2, j3⟩, g0, g1, g2, g3⟩ := blk4 hB9
      exact bodyPost_ret (v := .tuple #[.agg #[.int .i64 K, .string (nameT s L bad i po), .int .i64 0, .int .i64 po], .bool true]) (by simp [results, Tryd.results33, go_sem, j0, j1, j2, j3]) rfl ⟨hgf, .yes HY.out (by rw [HKK.out]; rfl) (hdf _ hd2)⟩
    · have hb : decide (cnt nmB (L.drop i) ≤ 12) = false := by rw [decide_eq_false_iff_not]; exact h12
      have HY := Lib.hid (HTK.out.trans (if_neg h12))
      rw [hb]
      clear hb h12
      go_wp2
      obtain ⟨hgf, hB9, hdf⟩ := FIN.out w2 K (nameT s L bad i po) 0 po hg3
      obtain ⟨⟨j0, j1, j2, j3⟩, g0, g1, g2, g3⟩ := blk4 hB9
      exact bodyPost_ret (v := .tuple #[.agg #[.int .i64 K, .string (nameT s L bad i po), .int .i64 0, .int .i64 po], .bool false]) (by simp [results, Tryd.results33, go_sem, j0, j1, j2, j3]) rfl ⟨hgf, .no HY.out⟩
  · by_cases h2 : cls (L[i]'hi).1 = 2
    · have HC := Lib.hid (show clsAt L i = 2 by rw [clsAt_in L i hi]; exact h2)
      have htk := tok_num s L (endOf s bad) i hi h2 po HPO.out
      have HTK := Lib.hid htk
      have H1 := Lib.hid h2
      clear htk h2 h1
      go_enter Tryd.func33, Tryd.ntmps33
      go_wp2_with fail
      rw [← HW.out]
      refine (rdclass0 W0 R s _ L bad i 2 hR0 HC.out).mono ?_
      rintro e w1 ⟨rfl, q, rfl⟩
      go_wp2_with fail
      obtain ⟨N, hN⟩ : ∃ N : Int, N = numV 0 (L.drop i) := ⟨_, rfl⟩
      refine (rnumber_any _ R s _ L bad i (hR0.drewN q) hi H1.out po HPO.out N hN _ rfl).mono ?_
      rintro e w2 ⟨rfl, hd2, hg2⟩
      have hg3 : W0.grownBy w2 (some R) := (grown_of_below (below_dn W0 q) _).trans hg2
      have hB2 := hB0.grown hg3 hne1
      obtain ⟨⟨a0, a1, a2, a3⟩, fa0, fa1, fa2, fa3⟩ := blk4 hB2
      have htk := HTK.out
      rw [← hN] at htk
      clear hN HTK hR0 hB0 hg2
      by_cases h12 : N ≤ 99 ∧ ¬ ((L[i]'hi).1 = 48 ∧ 1 < cnt dgB (L.drop i))
      · rw [decide_eq_true h12]
        have HY := Lib.hid (htk.trans (if_pos h12))
        clear h12 htk
        go_wp2
        obtain ⟨hgf, hB9, hdf⟩ := FIN.out w2 2 ⟨#[]⟩ N po hg3
        obtain ⟨⟨j0, j1, j2, j3⟩, g0, g1, g2, g3⟩ := blk4 hB9
        exact bodyPost_ret (v := .tuple #[.agg #[.int .i64 2, .string ⟨#[]⟩, .int .i64 N, .int .i64 po], .bool true]) (by simp [results, Tryd.results33, go_sem, j0, j1, j2, j3]) rfl ⟨hgf, .yes HY.out rfl (hdf _ hd2)⟩
      · rw [decide_eq_false h12]
        have HY := Lib.hid (htk.trans (if_neg h12))
        clear h12 htk
        go_wp2
        obtain ⟨hgf, hB9, hdf⟩ := FIN.out w2 2 ⟨#[]⟩ N po hg3
        obtain ⟨⟨j0, j1, j2, j3⟩, g0, g1, g2, g3⟩ := blk4 hB9
        exact bodyPost_ret (v := .tuple #[.agg #[.int .i64 2, .string ⟨#[]⟩, .int .i64 N, .int .i64 po], .bool false]) (by simp [results, Tryd.results33, go_sem, j0, j1, j2, j3]) rfl ⟨hgf, .no HY.out⟩
    · obtain ⟨cv, hcv⟩ : ∃ cv, cls (L[i]'hi).1 = cv := ⟨_, rfl⟩
      have HC := Lib.hid (show clsAt L i = cv by rw [clsAt_in L i hi]; exact hcv)
      have htk := tok_sig s L (endOf s bad) i hi h1 h2 po HPO.out
      have HTK := Lib.hid htk
      rw [hcv] at h1 h2
      have e1 : (cv == 1) = false := by rw [beq_eq_false_iff_ne]; exact h1
      have e2 : (cv == 2) = false := by rw [beq_eq_false_iff_ne]; exact h2
      clear htk h2 h1 hcv
      go_enter Tryd.func33, Tryd.ntmps33
      go_wp2_with fail
      rw [← HW.out]
      refine (rdclass0 W0 R s _ L bad i cv hR0 HC.out).mono ?_
      rintro e w1 ⟨rfl, q, rfl⟩
      go_wp2_with fail
      refine (rsign_any _ R s _ L bad i (hR0.drewN q) hi po HPO.out).mono ?_
      rintro e w2 ⟨hg2, hsp⟩
      have hg3 : W0.grownBy w2 (some R) := (grown_of_below (below_dn W0 q) _).trans hg2
      have hB2 := hB0.grown hg3 hne1
      obtain ⟨⟨a0, a1, a2, a3⟩, fa0, fa1, fa2, fa3⟩ := blk4 hB2
      have htk := HTK.out
      clear HTK hR0 hB0 hg2
      rcases hs : sigL (L.drop i) with _ | x
      · rw [hs] at hsp htk
        obtain ⟨rfl, hd2⟩ := hsp
        have HY := Lib.hid htk
        clear htk hs
        go_wp2
        obtain ⟨hgf, hB9, hdf⟩ := FIN.out w2 0 ⟨#[]⟩ 0 0 hg3
        obtain ⟨⟨j0, j1, j2, j3⟩, g0, g1, g2, g3⟩ := blk4 hB9
        exact bodyPost_ret (v := .tuple #[.agg #[.int .i64 0, .string ⟨#[]⟩, .int .i64 0, .int .i64 0], .bool false]) (by simp [results, Tryd.results33, go_sem, j0, j1, j2, j3]) rfl ⟨hgf, .no HY.out⟩
      · rw [hs] at hsp htk
        obtain ⟨rfl, hd2⟩ := hsp
        have HY := Lib.hid htk
        clear htk hs
        go_wp2
        obtain ⟨hgf, hB9, hdf⟩ := FIN.out w2 3 x 0 po hg3
        obtain ⟨⟨j0, j1, j2, j3⟩, g0, g1, g2, g3⟩ := blk4 hB9
        exact bodyPost_ret (v := .tuple #[.agg #[.int .i64 3, .string x, .int .i64 0, .int .i64 po], .bool true]) (by simp [results, Tryd.results33, go_sem, j0, j1, j2, j3]) rfl ⟨hgf, .yes HY.out rfl (hdf _ hd2)⟩
end Go.Proofs.YtpdlnpllhjcejaaDoor
