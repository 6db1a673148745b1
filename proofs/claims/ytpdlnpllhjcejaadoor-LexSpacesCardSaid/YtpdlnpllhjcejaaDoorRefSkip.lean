/- What skip of the reader of sibylref2 does: spaces and comments are passed. -/
import Derived.Test.YtpdlnpllhjcejaaDoorRefRd
import Derived.Test.YtpdlnpllhjcejaaDoorLexPure2
import Derived.Test.YtpdlnpllhjcejaaDoorRows
import Derived.WalkKit
import Derived.WalkLawsBesides
import Derived.WalkSpells
import Derived.ProofKit
import Derived.Outline
import Derived.Deep.QuietTactic
import Derived.BigQuiet
import Derived.Deep.Light
import Derived.Deep.CutBlock
import Derived.Deep.DeepCutAuto
import Derived.Deep.DeepFit
import Derived.Deep.LoopGhost
import Derived.Lib.Hide
import Derived.Lib.OthersKept
import Derived.IntWalk
import Derived.StillTailTactics
namespace Go.Proofs.YtpdlnpllhjcejaaDoor
open Go.RowKit
theorem RS.set {w : World} {R : Nat} {s : ByteArray} {lv : Value} {L : RL} {bad : Int} {i : Nat} (h : RS w R s lv L bad i) (j : Nat) (hj : j ≤ L.length) : RS (w.setCell ⟨R, 3, none⟩ (.int .i64 j)) R s lv L bad j := by
  refine ⟨?_, ownsRow_setCell_below h.row (show R < R + 1 by omega) _, hj, h.sz⟩
  have h0 := heap_setCell_same w R 3 _ _ (.int .i64 j) h.rd
  exact h0
theorem grown_set (w : World) (R : Nat) (v : Value) : w.grownBy (w.setCell ⟨R, 3, none⟩ v) (some R) :=
  ⟨rfl, rfl, rfl, by simp, fun k _ hk => heap_setCell_other w ⟨R, 3, none⟩ k v (fun e => hk (by simp [e]))⟩
theorem grown_refl (w : World) (r : Option Nat) : w.grownBy w r := ⟨rfl, rfl, rfl, Nat.le_refl _, fun _ _ _ => rfl⟩
theorem grown_of_below {w w' : World} (h : Below w.heap.size w w') (r : Option Nat) : w.grownBy w' r := ⟨h.os, h.tape, h.output, h.size, fun k hk _ => h.block k hk⟩
theorem below_dn (w : World) (n : Nat) : Below w.heap.size w (w.drewN n) := below_drewN (Below.refl _ _) n
theorem RS.drewN {w : World} {R : Nat} {s : ByteArray} {lv : Value} {L : RL} {bad : Int} {i : Nat} (h : RS w R s lv L bad i) (n : Nat) : RS (w.drewN n) R s lv L bad i := h.below (below_dn w n)
theorem rdclass0 (w : World) (R : Nat) (s : ByteArray) (lv : Value) (L : RL) (bad : Int) (i : Nat) (c : Int) (hS : RS w R s lv L bad i) (hc : clsAt L i = c) :
    Calls Tryd.prog 55 #[.pointer (some ⟨R, 0, none⟩), .int .i64 0] w fun e w' => e = .returned (.int .i64 c) ∧ ∃ q, w' = w.drewN q := by
  rw [← hc]; exact rdclass_any w R s lv L bad i 0 hS (by omega)
theorem rdis0 (w : World) (R : Nat) (s : ByteArray) (lv : Value) (L : RL) (bad : Int) (i : Nat) (c : Int) (b : Bool) (hS : RS w R s lv L bad i) (hb : isAt L i c = b) :
    Calls Tryd.prog 56 #[.pointer (some ⟨R, 0, none⟩), .int .i64 0, .int .i32 c] w fun e w' => e = .returned (.bool b) ∧ ∃ q, w' = w.drewN q := by
  rw [← hb]; exact rdis_any w R s lv L bad c i 0 hS (by omega)
theorem rdat0 (w : World) (R : Nat) (s : ByteArray) (lv : Value) (L : RL) (bad : Int) (i : Nat) (hS : RS w R s lv L bad i) :
    Calls Tryd.prog 32 #[.pointer (some ⟨R, 0, none⟩), .int .i64 0] w fun e w' => e = .returned (.int .i64 (posAt s L i)) ∧ ∃ q, w' = w.drewN q :=
  rdat_any w R s lv L bad i 0 hS (by omega)
theorem drop_at (L : RL) (j : Nat) (h : j < L.length) : L.drop j = (L[j]'h) :: L.drop (j + 1) := List.drop_eq_getElem_cons h
theorem clsAt_in (L : RL) (j : Nat) (h : j < L.length) : clsAt L j = cls (L[j]'h).1 := by unfold clsAt; rw [List.getElem?_eq_getElem h]
theorem clsAt_out (L : RL) (j : Nat) (h : ¬ j < L.length) : clsAt L j = -1 := by unfold clsAt; rw [List.getElem?_eq_none (by omega)]
theorem isAt_in (L : RL) (j : Nat) (c : Int) (h : j < L.length) : isAt L j c = ((L[j]'h).1 == c) := by unfold isAt; rw [List.getElem?_eq_getElem h]
theorem isAt_out (L : RL) (j : Nat) (c : Int) (h : ¬ j < L.length) : isAt L j c = false := by unfold isAt; rw [List.getElem?_eq_none (by omega)]
theorem skp_lf (q : Int × Int) (M : RL) (h : q.1 = 10) : skp true (q :: M) = skp false (q :: M) := by
  have a : skp true (q :: M) = skp false M := by rw [skp, if_pos h]
  have b : skp false (q :: M) = skp false M := by rw [skp, if_pos (by rw [h]; decide +kernel)]
  rw [a, b]
def SkipPost (w : World) (R : Nat) (s : ByteArray) (lv : Value) (L : RL) (bad : Int) (i : Nat) (e : Ending) (w' : World) : Prop :=
  e = .returned (.tuple #[]) ∧ ∃ i', RS w' R s lv L bad i' ∧ w.grownBy w' (some R) ∧ i ≤ i' ∧ L.drop i' = skp false (L.drop i)
set_option maxRecDepth 100000 in
set_option maxHeartbeats 4000000 in
theorem skip_any (w : World) (R : Nat) (s : ByteArray) (lv : Value) (L : RL) (bad : Int) (i : Nat) (hS : RS w R s lv L bad i) :
    Calls Tryd.prog 31 #[.pointer (some ⟨R, 0, none⟩)] w (SkipPost w R s lv L bad i) := by
  obtain ⟨a, cap, rfl, _⟩ := hS.slice
  go_enter Tryd.func31, Tryd.ntmps31
  go_wp2
  go_loopg [] (L.length + 1) (fun gf wx => ∃ j, RS wx R s (.slice a L.length cap) L bad j ∧ w.grownBy wx (some R) ∧ i ≤ j ∧ Hid (skp false (L.drop j) = skp false (L.drop i)) ∧ L.length + 1 ≤ j + gf)
  case atStart => exact ⟨i, hS, grown_refl _ _, by omega, (rfl : skp false (L.drop i) = _), by omega⟩
  case round =>
    obtain ⟨j, hR, hg, hij, HK, hfu⟩ := hrel
    obtain ⟨g', rfl⟩ : ∃ g', gk = g' + 1 := ⟨gk - 1, by have := hR.le; omega⟩
    have hle := hR.le
    have hsz := hR.sz
    clear hS
    by_cases hj : j < L.length
    · by_cases h3 : cls (L[j]'hj).1 = 3
      · have hc : clsAt L j = 3 := by rw [clsAt_in L j hj]; exact h3
        have hne : ¬ (L[j]'hj).1 = 35 := by intro h; rw [h, cls35] at h3; omega
        have hi35 : isAt L j 35 = false := by rw [isAt_in L j 35 hj, beq_eq_false_iff_ne]; exact hne
        have hsk : skp false (L.drop j) = skp false (L.drop (j + 1)) := by
          conv => lhs; rw [drop_at L j hj]
          rw [skp, if_pos h3]
        have HN := Lib.hid (hsk.symm.trans HK.out)
        have HC := Lib.hid hc
        have HI := Lib.hid hi35
        clear hc hi35 hsk HK h3 hne
        go_wp2_with fail
        refine (rdclass0 _ R s _ L bad j 3 hR HC.out).mono ?_
        rintro e w2 ⟨rfl, q2, rfl⟩
        go_wp2_with fail
        refine (rdis0 _ R s _ L bad j 35 false (hR.drewN _) HI.out).mono ?_
        rintro e w3 ⟨rfl, q3, rfl⟩
        have hR3 : RS ((wr.drewN q2).drewN q3) R s (.slice a L.length cap) L bad j := (hR.drewN _).drewN _
        have hg3 : w.grownBy ((wr.drewN q2).drewN q3) (some R) := (hg.trans (grown_of_below (below_dn _ _) _)).trans (grown_of_below (below_dn _ _) _)
        generalize (wr.drewN q2).drewN q3 = w3 at hR3 hg3 ⊢
        obtain ⟨⟨k0, k1, k2, k3⟩, f0, f1, f2, f3⟩ := rd_cells hR3.rd
        have hRs : RS (w3.setCell ⟨R, 3, none⟩ (.int .i64 ((j : Int) + 1))) R s (.slice a L.length cap) L bad (j + 1) := hR3.set (j + 1) (by omega)
        have hgs : w.grownBy (w3.setCell ⟨R, 3, none⟩ (.int .i64 ((j : Int) + 1))) (some R) := hg3.trans (grown_set _ _ _)
        clear hR hg
        go_wp2
        go_loopg [] 1 (fun _ wx => RS wx R s (.slice a L.length cap) L bad (j + 1) ∧ w.grownBy wx (some R))
        case atStart => exact ⟨hRs, hgs⟩
        case round =>
          obtain ⟨hRx, hgx⟩ := hrel
          clear hR3 hg3 k0 k1 k2 k3 f0 f1 f2 f3 hRs hgs
          go_wp2
          go_quiet (fail)
          go_wp2
          go_roundg g'
          case rel => exact ⟨j + 1, hRx.drewN _, hgx.trans (grown_of_below (below_dn _ _) _), by omega, HN.out, by omega⟩
          case measure => omega
      · by_cases h35 : (L[j]'hj).1 = 35
        · have hc : clsAt L j = 4 := by rw [clsAt_in L j hj, h35]; exact cls35
          have hi35 : isAt L j 35 = true := by rw [isAt_in L j 35 hj, beq_iff_eq]; exact h35
          have hsk : skp false (L.drop j) = skp true (L.drop (j + 1)) := by
            conv => lhs; rw [drop_at L j hj]
            rw [skp, if_neg h3, if_pos h35]
          have HN := Lib.hid (hsk.symm.trans HK.out)
          have HC := Lib.hid hc
          have HI := Lib.hid hi35
          clear hc hi35 hsk HK h3 h35
          go_wp2_with fail
          refine (rdclass0 _ R s _ L bad j 4 hR HC.out).mono ?_
          rintro e w2 ⟨rfl, q2, rfl⟩
          go_wp2_with fail
          refine (rdis0 _ R s _ L bad j 35 true (hR.drewN _) HI.out).mono ?_
          rintro e w3 ⟨rfl, q3, rfl⟩
          have hR2 : RS ((wr.drewN q2).drewN q3) R s (.slice a L.length cap) L bad j := (hR.drewN _).drewN _
          have hg2 : w.grownBy ((wr.drewN q2).drewN q3) (some R) := (hg.trans (grown_of_below (below_dn _ _) _)).trans (grown_of_below (below_dn _ _) _)
          generalize (wr.drewN q2).drewN q3 = w2 at hR2 hg2 ⊢
          clear hR hg
          go_wp2_with fail
          refine (rdis0 _ R s _ L bad j 35 true hR2 HI.out).mono ?_
          rintro e w3 ⟨rfl, q4, rfl⟩
          have hR3 := hR2.drewN q4
          have hg3 : w.grownBy (w2.drewN q4) (some R) := hg2.trans (grown_of_below (below_dn _ _) _)
          generalize w2.drewN q4 = w3 at hR3 hg3 ⊢
          obtain ⟨⟨k0, k1, k2, k3⟩, f0, f1, f2, f3⟩ := rd_cells hR3.rd
          have hRs : RS (w3.setCell ⟨R, 3, none⟩ (.int .i64 ((j : Int) + 1))) R s (.slice a L.length cap) L bad (j + 1) := hR3.set (j + 1) (by omega)
          have hgs : w.grownBy (w3.setCell ⟨R, 3, none⟩ (.int .i64 ((j : Int) + 1))) (some R) := hg3.trans (grown_set _ _ _)
          clear hR2 hg2
          go_wp2
          go_loopg [] (L.length + 1) (fun gf wx => ∃ m, RS wx R s (.slice a L.length cap) L bad m ∧ w.grownBy wx (some R) ∧ j < m ∧ Hid (skp true (L.drop m) = skp false (L.drop i)) ∧ L.length + 1 ≤ m + gf)
          case atStart => exact ⟨j + 1, hRs, hgs, by omega, HN.out, by omega⟩
          case round =>
            obtain ⟨m, hRx, hgx, hjm, HM, hfm⟩ := hrel
            obtain ⟨h', rfl⟩ : ∃ h', gk = h' + 1 := ⟨gk - 1, by have := hRx.le; omega⟩
            have hlm := hRx.le
            clear hR3 hg3 k0 k1 k2 k3 f0 f1 f2 f3 hRs hgs HN HC HI
            obtain ⟨⟨k0, k1, k2, k3⟩, f0, f1, f2, f3⟩ := rd_cells hRx.rd
            by_cases hm : m < L.length
            · by_cases h10 : (L[m]'hm).1 = 10
              · have hi10 : isAt L m 10 = true := by rw [isAt_in L m 10 hm, beq_iff_eq]; exact h10
                have hsk : skp true (L.drop m) = skp false (L.drop m) := by
                  rw [drop_at L m hm]; exact skp_lf _ _ h10
                have HN := Lib.hid (hsk.symm.trans HM.out)
                have HI := Lib.hid hi10
                have hmi : (m : Int) < (L.length : Int) := by omega
                clear hi10 hsk HM h10
                go_wp2
                go_quiet ((go_at_call 56; exact Calls.quiet_of (rdis0 _ R s _ L bad m 10 true (hRx.drewN _) HI.out)))
                go_wp2
                go_roundg g'
                case rel => exact ⟨m, hRx.drewN _, hgx.trans (grown_of_below (below_dn _ _) _), by omega, HN.out, by omega⟩
                case measure => omega
              · have hi10 : isAt L m 10 = false := by rw [isAt_in L m 10 hm, beq_eq_false_iff_ne]; exact h10
                have hsk : skp true (L.drop m) = skp true (L.drop (m + 1)) := by
                  conv => lhs; rw [drop_at L m hm]
                  rw [skp, if_neg h10]
                have HN := Lib.hid (hsk.symm.trans HM.out)
                have HI := Lib.hid hi10
                have hmi : (m : Int) < (L.length : Int) := by omega
                clear hi10 hsk HM h10
                go_wp2
                go_quiet ((go_at_call 56; exact Calls.quiet_of (rdis0 _ R s _ L bad m 10 false (hRx.drewN _) HI.out)))
                have hR5 : RS ((wr.drewN nq).setCell ⟨R, 3, none⟩ (.int .i64 ((m : Int) + 1))) R s (.slice a L.length cap) L bad (m + 1) := (hRx.drewN nq).set (m + 1) (by omega)
                have hg5 : w.grownBy ((wr.drewN nq).setCell ⟨R, 3, none⟩ (.int .i64 ((m : Int) + 1))) (some R) := (hgx.trans (grown_of_below (below_dn _ _) _)).trans (grown_set _ _ _)
                go_wp2
                go_roundg h'
                case rel => exact ⟨m + 1, hR5, hg5, by omega, HN.out, by omega⟩
                case measure => omega
            · have hsk : skp true (L.drop m) = skp false (L.drop m) := by
                rw [List.drop_of_length_le (by omega)]; rfl
              have HN := Lib.hid (hsk.symm.trans HM.out)
              have hmi : (L.length : Int) ≤ (m : Int) := by omega
              have hmd : decide ((m : Int) < (L.length : Int)) = false := by rw [decide_eq_false_iff_not]; omega
              clear hsk HM
              go_wp2
              go_quiet (fail)
              go_wp2
              go_roundg g'
              case rel => exact ⟨m, hRx.drewN _, hgx.trans (grown_of_below (below_dn _ _) _), by omega, HN.out, by omega⟩
              case measure => omega
        · have hc : clsAt L j = cls (L[j]'hj).1 := clsAt_in L j hj
          have hi35 : isAt L j 35 = false := by rw [isAt_in L j 35 hj, beq_eq_false_iff_ne]; exact h35
          have hsk : skp false (L.drop j) = L.drop j := by
            rw [drop_at L j hj, skp, if_neg h3, if_neg h35]
          have HN := Lib.hid (hsk.symm.trans HK.out)
          have HI := Lib.hid hi35
          obtain ⟨c, hcc⟩ : ∃ c, cls (L[j]'hj).1 = c := ⟨_, rfl⟩
          rw [hcc] at hc h3
          have HC := Lib.hid hc
          have hc3 : (c == 3) = false := by rw [beq_eq_false_iff_ne]; exact h3
          clear hc hi35 hsk HK h3 h35 hcc
          go_wp2_with fail
          refine (rdclass0 _ R s _ L bad j c hR HC.out).mono ?_
          rintro e w2 ⟨rfl, q2, rfl⟩
          go_wp2_with fail
          refine (rdis0 _ R s _ L bad j 35 false (hR.drewN _) HI.out).mono ?_
          rintro e w3 ⟨rfl, q3, rfl⟩
          go_wp2
          go_end0
          exact ⟨rfl, j, hR.drewN _, hg.trans (grown_of_below (below_dn _ _) _), by omega, HN.out⟩
    · have hsk : skp false (L.drop j) = L.drop j := by rw [List.drop_of_length_le (by omega)]; rfl
      have HN := Lib.hid (hsk.symm.trans HK.out)
      have HC := Lib.hid (clsAt_out L j hj)
      have HI := Lib.hid (isAt_out L j 35 hj)
      clear hsk HK
      go_wp2_with fail
      refine (rdclass0 _ R s _ L bad j (-1) hR HC.out).mono ?_
      rintro e w2 ⟨rfl, q2, rfl⟩
      go_wp2_with fail
      refine (rdis0 _ R s _ L bad j 35 false (hR.drewN _) HI.out).mono ?_
      rintro e w3 ⟨rfl, q3, rfl⟩
      go_wp2
      go_end0
      exact ⟨rfl, j, hR.drewN _, hg.trans (grown_of_below (below_dn _ _) _), by omega, HN.out⟩
end Go.Proofs.YtpdlnpllhjcejaaDoor
