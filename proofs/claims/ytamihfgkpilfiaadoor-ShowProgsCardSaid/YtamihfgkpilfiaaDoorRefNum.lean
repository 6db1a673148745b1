/- What number of the reader of sibylref2 answers: the number that stands there. -/
import Derived.Test.YtamihfgkpilfiaaDoorRefName
import Derived.Test.YtamihfgkpilfiaaDoorLexA
import Derived.Test.YtamihfgkpilfiaaDoorRows
import Derived.WalkKit
import Derived.WalkLawsBesides
import Derived.WalkSpells
import Derived.ProofKit
import Derived.Outline
import Derived.Deep.QuietTactic
import Derived.BigQuiet
import Derived.Deep.Light
import Derived.Deep.CutBlock
import Derived.Deep.DeepCutAuto
import Derived.Deep.DeepFit
import Derived.Deep.LoopGhost
import Derived.Lib.Hide
import Derived.Lib.OthersKept
import Derived.IntWalk
import Derived.StillTailTactics
namespace Go.Proofs.YtamihfgkpilfiaaDoor
open Go.RowKit
theorem dg_not (r : Int) (h : dgB r = false) : ¬ cls r = 2 := by
  unfold dgB at h
  simpa using h
set_option maxRecDepth 100000 in
set_option maxHeartbeats 4000000 in
theorem rnumber_any (w : World) (R : Nat) (s : ByteArray) (lv : Value) (L : RL) (bad : Int) (i : Nat) (hS : RS w R s lv L bad i) (hi : i < L.length) (h1 : cls (L[i]'hi).1 = 2)
    (po : Int) (hpo : (L[i]'hi).2 = po) (N : Int) (hN : N = numV 0 (L.drop i)) (b : Bool) (hb : b = decide (N ≤ 99 ∧ ¬ ((L[i]'hi).1 = 48 ∧ 1 < cnt dgB (L.drop i)))) :
    Calls Tryd.prog 80 #[.pointer (some ⟨R, 0, none⟩)] w fun e w' => e = .returned (.tuple #[.agg #[.int .i64 2, .string ⟨#[]⟩, .int .i64 N, .int .i64 po], .bool b]) ∧ Rd w' R s lv bad ((i : Int) + cnt dgB (L.drop i)) ∧ w.grownBy w' (some R) := by
  obtain ⟨a, cap, rfl, hrow⟩ := hS.slice
  have hRlt := hS.rd.lt
  have hlsz := hS.sz
  have hc1 : 1 ≤ cnt dgB (L.drop i) := by
    rw [drop_at L i hi, cnt_pos (by unfold dgB; rw [h1]; rfl)]; omega
  have hcl : i + cnt dgB (L.drop i) ≤ L.length := by have := cnt_le dgB (L.drop i); rw [List.length_drop] at this; omega
  have hin := cnt_in dgB L i
  have hout := cnt_out dgB L i
  obtain ⟨c, hc⟩ : ∃ c, c = cnt dgB (L.drop i) := ⟨_, rfl⟩
  rw [← hc] at hc1 hcl hin hout hb ⊢
  obtain ⟨z, hz⟩ : ∃ z, isAt L i 48 = z := ⟨_, rfl⟩
  have hz48 : z = true ↔ (L[i]'hi).1 = 48 := by rw [← hz, isAt_in L i 48 hi, beq_iff_eq]
  have hb' : b = (decide (N ≤ 99) && !(z && decide ((1 : Int) < (c : Int)))) := by
    rw [hb, Bool.eq_iff_iff]
    simp only [decide_eq_true_iff, Bool.and_eq_true, Bool.not_eq_true', Bool.and_eq_false_imp, decide_eq_false_iff_not, hz48]
    constructor
    · intro h; exact ⟨h.1, fun h2 h3 => h.2 ⟨h2, by omega⟩⟩
    · intro h; exact ⟨h.1, fun h2 => h.2 h2.1 (by omega)⟩
  obtain ⟨g, rfl, hgR, hglt, hcells⟩ := hrow (by omega)
  have HIN := Lib.hid hin
  have HOUT := Lib.hid hout
  have HN := Lib.hid hN
  have HB := Lib.hid hb'
  have HPO := Lib.hid hpo
  have HZ := Lib.hid hz
  have HS0 := Lib.hid hS
  have HCE := Lib.hid hcells
  clear hin hout hN hb hb' hpo h1 hc hz48 hz hrow hcells
  go_enter Tryd.func80, Tryd.ntmps80
  go_wp2_with fail
  obtain ⟨W0, hW0⟩ : ∃ W0, W0 = w.alloc (.cells #[.int .i64 0, .string ⟨#[]⟩, .int .i64 0, .int .i64 0] 72) := ⟨_, rfl⟩
  have hR0 : RS W0 R s (.slice (some ⟨g, 0, none⟩) L.length cap) L bad i := by rw [hW0]; exact hS.below ((Below.refl _ _).alloc (Nat.le_refl _) _)
  have hB0 : Blk4 W0 w.heap.size (.int .i64 0) (.string ⟨#[]⟩) (.int .i64 0) (.int .i64 0) := by rw [hW0]; exact blk4_new _ _ _ _ _
  have hg0 : w.grownBy W0 (some R) := by rw [hW0]; exact grown_alloc (grown_refl _ _) _
  have hs0 : W0.heap.size = w.heap.size + 1 := by rw [hW0]; simp
  rw [← hW0]
  clear hW0 hS
  refine (rdat0 W0 R s _ L bad i hR0).mono ?_
  rintro e w2 ⟨rfl, q5, rfl⟩
  rw [show posAt s L i = po by rw [← HPO.out]; unfold posAt; rw [List.getElem?_eq_getElem hi]]
  go_wp2_with fail
  obtain ⟨W2, hW2⟩ : ∃ W2, W2 = (W0.drewN q5).alloc (.cells #[.int .i64 2, .string ⟨#[]⟩, .int .i64 0, .int .i64 po] 72) := ⟨_, rfl⟩
  have hR2 : RS W2 R s (.slice (some ⟨g, 0, none⟩) L.length cap) L bad i := by rw [hW2]; exact (hR0.drewN q5).below ((Below.refl _ _).alloc (Nat.le_refl _) _)
  have hBa : Blk4 W2 w.heap.size (.int .i64 0) (.string ⟨#[]⟩) (.int .i64 0) (.int .i64 0) := by rw [hW2]; exact (hB0.below (below_dn _ _)).below ((Below.refl _ _).alloc (Nat.le_refl _) _)
  have hBb : Blk4 W2 (w.heap.size + 1) (.int .i64 2) (.string ⟨#[]⟩) (.int .i64 0) (.int .i64 po) := by
    rw [hW2, ← hs0]; exact blk4_new (W0.drewN q5) _ _ _ _
  have hg2 : w.grownBy W2 (some R) := by rw [hW2]; exact grown_alloc (grown_dn hg0 _) _
  have hs2 : W2.heap.size = w.heap.size + 2 := by rw [hW2]; simp; exact hs0
  rw [← hW2]
  clear hW2 hR0 hB0 hg0
  refine (rdis0 W2 R s _ L bad i 48 z hR2 HZ.out).mono ?_
  rintro e w2 ⟨rfl, q6, rfl⟩
  have hR3 := hR2.drewN q6
  have hBa3 := hBa.below (below_dn W2 q6)
  have hBb3 := hBb.below (below_dn W2 q6)
  have hg3 := grown_dn hg2 q6
  have hs3 : (W2.drewN q6).heap.size = w.heap.size + 2 := hs2
  generalize W2.drewN q6 = W3 at hR3 hBa3 hBb3 hg3 hs3 ⊢
  clear hR2 hBa hBb hg2 hs2

  clear hs0
  go_wp2
  go_loopw [6] (fun v wr => ∃ (n : Nat) (V : Int), v = .int .i64 n ∧ n ≤ c ∧ 0 ≤ V ∧ V ≤ 1000 ∧ Rd wr R s (.slice (some ⟨g, 0, none⟩) L.length cap) bad i ∧ Blk4 wr w.heap.size (.int .i64 0) (.string ⟨#[]⟩) (.int .i64 0) (.int .i64 0) ∧ Blk4 wr (w.heap.size + 1) (.int .i64 2) (.string ⟨#[]⟩) (.int .i64 V) (.int .i64 po) ∧ w.grownBy wr (some R) ∧ w.heap.size + 2 ≤ wr.heap.size ∧ Hid (numV V (L.drop (i + n)) = numV 0 (L.drop i))) (fun v _ => c - (intOf v).toNat)
  case atStart => exact ⟨0, 0, rfl, by omega, by omega, by omega, hR3.rd, hBa3, hBb3, hg3, by omega, (rfl : numV 0 (L.drop i) = _)⟩
  case round =>
    obtain ⟨n, V, rfl, hn, hV0, hV1, hRx, hBax, hBbx, hgx, hsx, HV⟩ := hrel
    have hRSx := HS0.out.grown hgx hRx (by omega)
    clear hR3 hBa3 hBb3 hg3 hs3
    have hne1 : R ≠ w.heap.size := by omega
    have hne2 : R ≠ w.heap.size + 1 := by omega
    by_cases hnc : n < c
    · obtain ⟨hk, hp⟩ := HIN.out n hnc
      have hrg := (dgB_iff _).1 hp
      have hstep : numV V (L.drop (i + n)) = numV (min (10 * V + ((L[i + n]'hk).1 - 48)) 1000) (L.drop (i + (n + 1))) := by
        rw [drop_at L _ hk, numV, if_pos hp]; rfl
      have HV1 := Lib.hid (hstep.symm.trans HV.out)
      have HC := Lib.hid (show clsAt L (i + n) = 2 by rw [clsAt_in L _ hk]; unfold dgB at hp; simpa using hp)
      have hcell : ∀ W : World, RS W R s (.slice (some ⟨g, 0, none⟩) L.length cap) L bad i → W.cell? ⟨g, (i + n) * 2, none⟩ = some (.int .i32 (L[i + n]'hk).1) := fun W h => (h.row.cellAt ((i + n) * 2) (by omega)).trans (flat_get0 L (i + n) hk)
      have HCL := Lib.hid hcell
      clear hstep HV hp hcell
      go_wp2_with fail
      refine (rdclassk _ R s _ L bad i n 2 hRSx (by omega) HC.out).mono ?_
      rintro e w2 ⟨rfl, q2, rfl⟩
      have hR4 := hRSx.drewN q2
      have hBa4 := hBax.below (below_dn _ q2)
      have hBb4 := hBbx.below (below_dn _ q2)
      have hg4 := grown_dn hgx q2
      have hs4 : w.heap.size + 2 ≤ (wr.drewN q2).heap.size := hsx
      generalize wr.drewN q2 = W4 at hR4 hBa4 hBb4 hg4 hs4 ⊢
      obtain ⟨⟨k0, k1, k2, k3⟩, f0, f1, f2, f3⟩ := rd_cells hR4.rd
      obtain ⟨⟨b0, b1, b2, b3⟩, fb0, fb1, fb2, fb3⟩ := blk4 hBb4
      have hc0 := HCL.out _ hR4
      generalize (L[i + n]'hk) = qq at hc0 hrg HV1
      have hw1 : IntKind.i64.wrap ((i : Int) + (n : Int)) = (i : Int) + (n : Int) := by rw [IntKind.wrap_i64]; omega
      have hw0 : 0 ≤ (i : Int) + (n : Int) := by omega
      have hwn : ((i : Int) + (n : Int)).toNat = i + n := by omega
      have hwl : (i : Int) + (n : Int) < (L.length : Int) := by omega
      have hw2 : IntKind.i32.wrap (qq.1 - 48) = qq.1 - 48 := by rw [IntKind.wrap_i32]; omega
      have hw3 : IntKind.i64.wrap (10 * V) = 10 * V := by rw [IntKind.wrap_i64]; omega
      have hw4 : IntKind.i64.wrap (qq.1 - 48) = qq.1 - 48 := by rw [IntKind.wrap_i64]; omega
      have hw5 : IntKind.i64.wrap (10 * V + (qq.1 - 48)) = 10 * V + (qq.1 - 48) := by rw [IntKind.wrap_i64]; omega
      have hV2 : 0 ≤ min (10 * V + (qq.1 - 48)) 1000 ∧ min (10 * V + (qq.1 - 48)) 1000 ≤ 1000 := by omega
      clear hRx hBax hBbx hgx hsx hRSx HCL
      go_wp2_with fail
      go_still_tail 21, (by kernel_rfl)
      change wpList _ _ _ _ _ W4.drew
      have hd4 : Below W4.heap.size W4 W4.drew := (Below.refl W4.heap.size W4).trans ⟨rfl, rfl, rfl, Nat.le_refl _, fun _ _ => rfl⟩
      have hR5 := hR4.rd.below hd4
      have hBa5 := hBa4.below hd4
      have hBb5 := hBb4.below hd4
      have hg5 := hg4.trans (grown_of_below hd4 _)
      have hs5 : w.heap.size + 2 ≤ W4.drew.heap.size := hs4
      generalize W4.drew = W5 at hR5 hBa5 hBb5 hg5 hs5 ⊢
      clear hd4 k0 k1 k2 k3 f0 f1 f2 f3 b0 b1 b2 b3 fb0 fb1 fb2 fb3 hR4 hBa4 hBb4 hg4 hs4 hc0 hw1 hw0 hwn hwl hw2
      obtain ⟨⟨b0, b1, b2, b3⟩, fb0, fb1, fb2, fb3⟩ := blk4 hBb5
      go_wp2
      clear hw3 hw4 hw5
      go_roundw
      case rel => exact ⟨n + 1, _, by go_num, by omega, hV2.1, hV2.2, rd_other hR5 ⟨w.heap.size + 1, 2, none⟩ hne2 _, blk_other hBa5 ⟨w.heap.size + 1, 2, none⟩ (by simp) _, blk_set2 hBb5 _, grown_new hg5 ⟨w.heap.size + 1, 2, none⟩ (by simp) _, by simp; omega, HV1.out⟩
      case measure => simp [intOf]; omega
    · obtain rfl : n = c := by omega
      obtain ⟨cv, hcv, hcv2, hVe⟩ : ∃ cv, clsAt L (i + n) = cv ∧ ¬ cv = 2 ∧ numV V (L.drop (i + n)) = V := by
        by_cases hin : i + n < L.length
        · have hno := HOUT.out hin
          refine ⟨_, clsAt_in L _ hin, dg_not _ hno, ?_⟩
          rw [drop_at L _ hin, numV, if_neg (by rw [hno]; decide)]
        · exact ⟨-1, clsAt_out L _ hin, by omega, by rw [List.drop_of_length_le (by omega)]; rfl⟩
      obtain rfl : V = N := by rw [HN.out, ← HV.out, hVe]
      have HC := Lib.hid hcv
      have e2 : (cv == 2) = false := by rw [beq_eq_false_iff_ne]; exact hcv2
      clear hcv hcv2 hVe HV HN
      go_wp2_with fail
      refine (rdclassk _ R s _ L bad i n cv hRSx (by omega) HC.out).mono ?_
      rintro e w2 ⟨rfl, q2, rfl⟩
      have hR4 := hRSx.drewN q2
      have hBa4 := hBax.below (below_dn _ q2)
      have hBb4 := hBbx.below (below_dn _ q2)
      have hg4 := grown_dn hgx q2
      have hs4 : w.heap.size + 2 ≤ (wr.drewN q2).heap.size := hsx
      generalize wr.drewN q2 = W4 at hR4 hBa4 hBb4 hg4 hs4 ⊢
      obtain ⟨⟨k0, k1, k2, k3⟩, f0, f1, f2, f3⟩ := rd_cells hR4.rd
      obtain ⟨⟨a0, a1, a2, a3⟩, fa0, fa1, fa2, fa3⟩ := blk4 hBa4
      obtain ⟨⟨b0, b1, b2, b3⟩, fb0, fb1, fb2, fb3⟩ := blk4 hBb4
      have hw1 : IntKind.i64.wrap ((i : Int) + (n : Int)) = (i : Int) + (n : Int) := by rw [IntKind.wrap_i64]; omega
      clear hRx hBax hBbx hgx hsx hRSx HC
      have hbd := HB.out
      clear HB
      rcases (show V ≤ 99 ∨ ¬ V ≤ 99 by omega) with h99 | h99 <;> rcases (show (1 : Int) < (n : Int) ∨ ¬ (1 : Int) < (n : Int) by omega) with h1n | h1n <;> rcases z with _ | _
      all_goals
        simp [h99, h1n] at hbd
        subst hbd
        go_wp2
        have hB9 := (blk_other hBa4 ⟨R, 3, none⟩ (fun e => hne1 e.symm) (.int .i64 ((i : Int) + (n : Int)))).set (.int .i64 2) (.string ⟨#[]⟩) (.int .i64 V) (.int .i64 po)
        obtain ⟨⟨j0, j1, j2, j3⟩, g0, g1, g2, g3⟩ := blk4 hB9
        refine bodyPost_ret (v := .tuple #[.agg #[.int .i64 2, .string ⟨#[]⟩, .int .i64 V, .int .i64 po], .bool _]) (by first | (simp [results, Tryd.results80, go_sem, j0, j1, j2, j3]; done) | (simp [results, Tryd.results80, go_sem, j0, j1, j2, j3]; omega)) rfl ⟨rfl, ?_, ?_⟩
        · refine rd_other ?_ _ hne1 _
          refine rd_other ?_ _ hne1 _
          refine rd_other ?_ _ hne1 _
          refine rd_other ?_ _ hne1 _
          exact rd_set hR4.rd _
        · refine grown_new ?_ _ (by simp) _
          refine grown_new ?_ _ (by simp) _
          refine grown_new ?_ _ (by simp) _
          refine grown_new ?_ _ (by simp) _
          exact grown_R hg4 3 _
end Go.Proofs.YtamihfgkpilfiaaDoor
