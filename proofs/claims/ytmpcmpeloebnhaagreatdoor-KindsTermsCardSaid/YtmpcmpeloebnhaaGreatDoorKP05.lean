/- Parts of the proof: RefSig RefB GNamesR GRefA TrA. -/
import Derived.Test.YtmpcmpeloebnhaaGreatDoorKP04
import Derived.Test.YtmpcmpeloebnhaaGreatDoorKP00
import Derived.Test.YtmpcmpeloebnhaaGreatDoorRows
import Derived.Test.YtmpcmpeloebnhaaGreatDoorKP01
import Derived.WalkKit
import Derived.WalkLawsBesides
import Derived.WalkSpells
import Derived.ProofKit
import Derived.Outline
import Derived.Deep.QuietTactic
import Derived.BigQuiet
import Derived.Deep.Light
import Derived.Deep.CutBlock
import Derived.Deep.DeepCutAuto
import Derived.Deep.DeepFit
import Derived.Deep.LoopGhost
import Derived.Lib.Hide
import Derived.Lib.OthersKept
import Derived.IntWalk
import Derived.StillTailTactics
import Derived.Deep.RegionWith
namespace Go.Proofs.YtmpcmpeloebnhaaGreatDoor
open Go.RowKit
theorem rpre_take : ∀ (x : List UInt8) (M : RL) (k : Nat) (hk : k < x.length), rpre (x.take (k + 1)) M = (rpre (x.take k) M && isAt M k ((x[k]'hk).toNat : Int)) := by
 intro x
 induction x with
 | nil => intro M k hk; simp at hk
 | cons c x ih =>
  intro M k hk
  cases M with
  | nil => cases k <;> simp [rpre, isAt]
  | cons q M =>
   cases k with
   | zero => simp [rpre, isAt]
   | succ k =>
    have := ih M k (by simpa using hk)
    simp only [List.take_succ_cons, rpre, List.getElem_cons_succ]
    rw [this, Bool.and_assoc]
    rfl
theorem isAt_drop (L : RL) (i k : Nat) (c : Int) : isAt (L.drop i) k c = isAt L (i + k) c := by
 unfold isAt
 rw [List.getElem?_drop]
def noSigM (M : RL) (k : Nat) : Prop := sigF (sigs.drop k) M = sigL M
theorem noSigM_step (M : RL) (k : Nat) (hk : k < sigs.length) (h : noSigM M k) : (rpre (sigs[k]'hk).data.toList M = true → sigL M = some (sigs[k]'hk)) ∧ (rpre (sigs[k]'hk).data.toList M = false → noSigM M (k + 1)) := by
 unfold noSigM at h ⊢
 have hd : sigs.drop k = sigs[k]'hk :: sigs.drop (k + 1) := List.drop_eq_getElem_cons hk
 rw [hd] at h
 unfold sigF at h
 constructor
 ·intro h1
  rw [if_pos h1] at h
  exact h.symm
 ·intro h1
  rw [if_neg (by rw [h1]; decide)] at h
  exact h
theorem noSigM_end (M : RL) (k : Nat) (hk : ¬ k < sigs.length) (h : noSigM M k) : sigL M = none := by
 unfold noSigM at h
 rw [List.drop_of_length_le (Nat.not_lt.1 hk)] at h
 exact h.symm
def sigCells : Array Value := (sigs.map Value.string).toArray
theorem sig_cell {w : World} {B : Nat} (h : w.heap[B]? = some (.cells sigCells 9)) (k : Nat) (hk : k < sigs.length) : w.cell? ⟨B, k, none⟩ = some (.string (sigs[k]'hk)) := by
 rw [cell_of_row w B k _ _ _ h]
 unfold sigCells
 rw [List.getElem?_toArray, List.getElem?_map, List.getElem?_eq_getElem hk]
 rfl
theorem sig_lit : (#[.string ⟨#[60, 61, 62]⟩, .string ⟨#[61, 62]⟩, .string ⟨#[60, 61]⟩, .string ⟨#[126, 61]⟩, .string ⟨#[61]⟩, .string ⟨#[126]⟩, .string ⟨#[60]⟩, .string ⟨#[38]⟩, .string ⟨#[124]⟩, .string ⟨#[40]⟩, .string ⟨#[41]⟩, .string ⟨#[123]⟩, .string ⟨#[125]⟩, .string ⟨#[44]⟩, .string ⟨#[59]⟩, .string ⟨#[58]⟩, .string ⟨#[43]⟩, .string ⟨#[92]⟩] : Array Value) = sigCells := rfl
theorem alloc_at (w : World) (o : Obj) : (w.alloc o).heap[w.heap.size]? = some o := by show (w.heap.push _)[w.heap.size]? = _; simp
theorem alloc_at1 (w : World) (o p : Obj) : ((w.alloc o).alloc p).heap[w.heap.size + 1]? = some p := by
 have h := alloc_at (w.alloc o) p
 rw [show (w.alloc o).heap.size = w.heap.size + 1 by simp] at h
 exact h
theorem byte_rune (x : ByteArray) (k : Nat) (h : k < x.size) (h2 : k < x.data.toList.length) : wrap32 ((x[k]'h).toNat : Int) = ((x.data.toList[k]'h2).toNat : Int) := by
 have h3 : x[k]'h = x.data.toList[k]'h2 := rfl
 have := (x.data.toList[k]'h2).toNat_lt
 rw [h3]
 unfold wrap32
 omega
def SigPost (w : World) (R : Nat) (s : ByteArray) (lv : Value) (L : RL) (bad : Int) (i : Nat) (po : Int) (e : Ending) (w' : World) : Prop :=
 w.grownBy w' (some R) ∧ match sigL (L.drop i) with
 | some x => e = .returned (.tuple #[.agg #[.int .i64 3, .string x, .int .i64 0, .int .i64 po], .bool true]) ∧ Rd w' R s lv bad ((i : Int) + x.size)
 | none => e = .returned (.tuple #[.agg #[.int .i64 0, .string ⟨#[]⟩, .int .i64 0, .int .i64 0], .bool false]) ∧ Rd w' R s lv bad i
theorem SigPost.no {w w' : World} {R : Nat} {s : ByteArray} {lv : Value} {L : RL} {bad : Int} {i : Nat} {po : Int} (h : sigL (L.drop i) = none) (hg : w.grownBy w' (some R)) (hd : Rd w' R s lv bad i) :
  SigPost w R s lv L bad i po (.returned (.tuple #[.agg #[.int .i64 0, .string ⟨#[]⟩, .int .i64 0, .int .i64 0], .bool false])) w' := by
 unfold SigPost; rw [h]; exact ⟨hg, rfl, hd⟩
theorem SigPost.yes {w w' : World} {R : Nat} {s : ByteArray} {lv : Value} {L : RL} {bad : Int} {i : Nat} {po : Int} {x : ByteArray} (h : sigL (L.drop i) = some x) (hg : w.grownBy w' (some R)) (hd : Rd w' R s lv bad ((i : Int) + x.size)) :
  SigPost w R s lv L bad i po (.returned (.tuple #[.agg #[.int .i64 3, .string x, .int .i64 0, .int .i64 po], .bool true])) w' := by
 unfold SigPost; rw [h]; exact ⟨hg, rfl, hd⟩
set_option maxRecDepth 100000 in
set_option maxHeartbeats 4000000 in
theorem rsign_any (w : World) (R : Nat) (s : ByteArray) (lv : Value) (L : RL) (bad : Int) (i : Nat) (hS : RS w R s lv L bad i) (hi : i < L.length) (po : Int) (hpo : (L[i]'hi).2 = po) :
    Calls Tryz.prog 120 #[.pointer (some ⟨R, 0, none⟩)] w (SigPost w R s lv L bad i po) := by
  have hRlt := hS.rd.lt
  have hlsz := hS.sz
  have HPO := Lib.hid (show posAt s L i = po by rw [← hpo]; unfold posAt; rw [List.getElem?_eq_getElem hi])
  clear hpo
  go_enter Tryz.func120, Tryz.ntmps120
  go_wp2
  obtain ⟨W0, hW0⟩ : ∃ W0, W0 = (w.alloc (.cells #[.int .i64 0, .string ⟨#[]⟩, .int .i64 0, .int .i64 0] 70)).alloc (.cells sigCells 9) := ⟨_, rfl⟩
  have hR0 : RS W0 R s lv L bad i := by rw [hW0]; exact (hS.below ((Below.refl _ _).alloc (Nat.le_refl _) _)).below ((Below.refl _ _).alloc (Nat.le_refl _) _)
  have hB0 : Blk4 W0 w.heap.size (.int .i64 0) (.string ⟨#[]⟩) (.int .i64 0) (.int .i64 0) := by rw [hW0]; exact (blk4_new _ _ _ _ _).below ((Below.refl _ _).alloc (Nat.le_refl _) _)
  have hC0 : W0.heap[w.heap.size + 1]? = some (.cells sigCells 9) := by rw [hW0]; exact alloc_at1 _ _ _
  have hg0 : w.grownBy W0 (some R) := by rw [hW0]; exact grown_alloc (grown_alloc (grown_refl _ _) _) _
  have hs0 : W0.heap.size = w.heap.size + 2 := by rw [hW0]; simp
  rw [sig_lit, ← hW0]
  have HC0 := Lib.hid hC0
  clear hW0 hC0 hS
  go_loopw [5] (fun v wr => ∃ j q : Nat, v = .int .i64 j ∧ j ≤ 18 ∧ wr = W0.drewN q ∧ Hid (noSigM (L.drop i) j)) (fun v _ => 18 - (intOf v).toNat)
  case atStart => exact ⟨0, 0, rfl, by omega, rfl, (rfl : noSigM (L.drop i) 0)⟩
  case round =>
    obtain ⟨j, q, rfl, hj, rfl, HN⟩ := hrel
    by_cases hlt : j < 18
    · have cj := sig_cell HC0.out j hlt
      have hst := noSigM_step (L.drop i) j hlt HN.out
      have hxs := sigs_size (sigs[j]'hlt) (List.getElem_mem _)
      generalize (sigs[j]'hlt) = x at cj hst hxs
      have hxl : x.data.toList.length = x.size := (Lib.size_eq x).symm
      have HST := Lib.hid hst
      have HXL := Lib.hid hxl
      clear hst hxl HN
      have hdj : decide ((j : Int) < 18) = true := by rw [decide_eq_true_iff]; omega
      go_wp2
      go_loopw [6, 7] (fun v6 v7 wr => ∃ k q : Nat, v7 = .int .i64 k ∧ k ≤ x.size ∧ v6 = .bool (rpre (x.data.toList.take k) (L.drop i)) ∧ wr = W0.drewN q) (fun _ v _ => x.size - (intOf v).toNat)
      case atStart => exact ⟨0, q, rfl, by omega, by simp [rpre], rfl⟩
      case round =>
        obtain ⟨k, q', rfl, hk, rfl, rfl⟩ := hrel
        by_cases hkx : k < x.size
        · have hrt := rpre_take x.data.toList (L.drop i) k (by rw [HXL.out]; exact hkx)
          rw [isAt_drop] at hrt
          obtain ⟨ch, hch⟩ : ∃ ch, ch = isAt L (i + k) ((x.data.toList[k]'(by rw [HXL.out]; exact hkx)).toNat : Int) := ⟨_, rfl⟩
          rw [← hch] at hrt
          have HRT := Lib.hid hrt
          have HCH := Lib.hid hch
          obtain ⟨okb, hok⟩ : ∃ okb, rpre (x.data.toList.take k) (L.drop i) = okb := ⟨_, rfl⟩
          have HOK := Lib.hid hok
          rw [hok]
          clear hrt hch hok
          rcases okb with _ | _
          · go_wp2
            go_roundw
            case rel => exact ⟨k + 1, q', by go_num, by omega, by rw [HRT.out, HOK.out]; rfl, rfl⟩
            case measure => simp [intOf]; omega
          · have hbr := byte_rune x k hkx (by rw [HXL.out]; exact hkx)
            have HBR := Lib.hid hbr
            clear hbr
            go_wp2_with fail
            rw [HBR.out]
            refine (rdisk (W0.drewN q') R s _ L bad i k _ ch (hR0.drewN _) (by omega) HCH.out.symm).mono ?_
            rintro e w2 ⟨rfl, q2, rfl⟩
            go_wp2
            go_roundw
            case rel => exact ⟨k + 1, _, by go_num, by omega, by rw [HRT.out, HOK.out]; rfl, rfl⟩
            case measure => simp [intOf]; omega
        · obtain rfl : k = x.size := by omega
          have htk : x.data.toList.take x.size = x.data.toList := List.take_of_length_le (by rw [HXL.out]; exact Nat.le_refl _)
          rw [htk]
          clear htk
          obtain ⟨okb, hok⟩ : ∃ okb, rpre x.data.toList (L.drop i) = okb := ⟨_, rfl⟩
          have hst := HST.out
          rw [hok] at hst ⊢
          clear hok HST
          rcases okb with _ | _
          · have HN := Lib.hid (hst.2 rfl)
            clear hst
            go_wp2
            go_roundw
            case rel => exact ⟨j + 1, q', by go_num, by omega, rfl, HN.out⟩
            case measure => simp [intOf]; omega
          · have HN := Lib.hid (hst.1 rfl)
            clear hst
            have hR1 := hR0.drewN q'
            have hB1 := hB0.below (below_dn W0 q')
            have hg1 := grown_dn hg0 q'
            have hC1 : (W0.drewN q').heap[w.heap.size + 1]? = some (.cells sigCells 9) := HC0.out
            have cj1 : (W0.drewN q').cell? ⟨w.heap.size + 1, j, none⟩ = some (.string x) := cj
            have hs1 : (W0.drewN q').heap.size = w.heap.size + 2 := hs0
            generalize W0.drewN q' = W1 at hR1 hB1 hg1 hC1 cj1 hs1 ⊢
            clear hR0 hB0 hg0 HC0 cj hs0
            have HC1 := Lib.hid hC1
            clear hC1
            have hcj0 := cj1
            go_upto_region 12 with (fail)
            go_cut [8] from 39 to 60 (fun v8 wc => v8 = .pointer (some ⟨w.heap.size + 2, 0, none⟩) ∧ RS wc R s lv L bad i ∧ Blk4 wc w.heap.size (.int .i64 0) (.string ⟨#[]⟩) (.int .i64 0) (.int .i64 0) ∧ Blk4 wc (w.heap.size + 2) (.int .i64 3) (.string x) (.int .i64 0) (.int .i64 po) ∧ w.grownBy wc (some R) ∧ wc.cell? ⟨w.heap.size + 1, j, none⟩ = some (.string x) ∧ wc.heap.size = w.heap.size + 3)
            case first =>
              clear cj1
              have hcj : ∀ W, Below W1.heap.size W1 W → W.cell? ⟨w.heap.size + 1, j, none⟩ = some (.string x) := fun W hb => by rw [hb.cell (by simp; omega)]; exact hcj0
              have hbl : ∀ W, Below W1.heap.size W1 W → W.heap.size = W1.heap.size + 1 → Blk4 W w.heap.size (.int .i64 0) (.string ⟨#[]⟩) (.int .i64 0) (.int .i64 0) ∧ RS W R s lv L bad i ∧ w.grownBy W (some R) := fun W hb _ => ⟨hB1.below hb, hR1.below hb, hg1.trans (grown_of_below hb _)⟩
              have hcjx := hcj0
              go_region_with ((go_at_call 67; refine (rdat0 _ R s _ L bad i (hR1.below (by first | exact Below.refl _ _ | exact below_dn _ _ | exact (Below.refl _ _).alloc (Nat.le_refl _) _ | exact (Below.refl W1.heap.size W1).trans ⟨rfl, rfl, rfl, Nat.le_refl _, fun _ _ => rfl⟩ | exact ((Below.refl W1.heap.size W1).trans ⟨rfl, rfl, rfl, Nat.le_refl _, fun _ _ => rfl⟩ : Below W1.heap.size W1 W1.drew).alloc (by simp) _))).mono ?_; rintro e w2 ⟨rfl, q2, rfl⟩; rw [HPO.out]))
              all_goals go_wp2
              all_goals
                go_meet
                case rel =>
                  first
                    | (have hb := (below_dn W1 (1 + q2)).alloc (Nat.le_refl W1.heap.size) (.cells #[.int .i64 3, .string x, .int .i64 0, .int .i64 po] 70)
                       exact ⟨rfl, hR1.below hb, hB1.below hb, (by rw [← hs1]; exact blk4_new (W1.drewN (1 + q2)) _ _ _ _), hg1.trans (grown_of_below hb _), hcj _ hb, by simp; omega⟩)
                    | (have hz : Blk4 ((W1.alloc (.cells #[.int .i64 0, .string ⟨#[]⟩, .int .i64 0, .int .i64 0] 70)).drewN (1 + q2)) (w.heap.size + 2) (.int .i64 0) (.string ⟨#[]⟩) (.int .i64 0) (.int .i64 0) := (show Blk4 (W1.alloc _) (w.heap.size + 2) _ _ _ _ by rw [← hs1]; exact blk4_new W1 _ _ _ _).below (below_dn _ _)
                       have hb : Below W1.heap.size W1 (((((((W1.alloc (.cells #[.int .i64 0, .string ⟨#[]⟩, .int .i64 0, .int .i64 0] 70)).drewN (1 + q2)).setCell ⟨w.heap.size + 2, 0, none⟩ (.int .i64 3)).setCell ⟨w.heap.size + 2, 1, none⟩ (.string x)).setCell ⟨w.heap.size + 2, 2, none⟩ (.int .i64 0)).setCell ⟨w.heap.size + 2, 3, none⟩ (.int .i64 po))) := (((((below_drewN ((Below.refl _ _).alloc (Nat.le_refl _) _) _).setCell (by simp; omega) _).setCell (by simp; omega) _).setCell (by simp; omega) _).setCell (by simp; omega) _)
                       exact ⟨rfl, hR1.below hb, hB1.below hb, hz.set _ _ _ _, hg1.trans (grown_of_below hb _), hcj _ hb, by simp; omega⟩)
            case rest =>
              obtain ⟨rfl, hR2, hB2, hT2, hg2, cj2, hs2⟩ := hcut
              clear hR1 hB1 hg1 cj1 hs1 HC1 hcj0
              obtain ⟨⟨k0, k1, k2, k3⟩, f0, f1, f2, f3⟩ := rd_cells hR2.rd
              have hw1 : IntKind.i64.wrap ((i : Int) + (x.size : Int)) = (i : Int) + (x.size : Int) := by rw [IntKind.wrap_i64]; omega
              have hne1 : R ≠ w.heap.size := by omega
              have hne2 : R ≠ w.heap.size + 2 := by omega
              have hji : (j : Int) < 18 := by omega
              go_wp2_with fail
              go_still_tail 13, (by kernel_rfl)
              change wpList _ _ _ _ _ wc.drew
              have hd4 : Below wc.heap.size wc wc.drew := (Below.refl wc.heap.size wc).trans ⟨rfl, rfl, rfl, Nat.le_refl _, fun _ _ => rfl⟩
              have hR5 := hR2.below hd4
              have hB5 := hB2.below hd4
              have hT5 := hT2.below hd4
              have hg5 := hg2.trans (grown_of_below hd4 _)
              have hs5 : wc.drew.heap.size = w.heap.size + 3 := hs2
              generalize wc.drew = W5 at hR5 hB5 hT5 hg5 hs5 ⊢
              clear hd4 k0 k1 k2 k3 f0 f1 f2 f3 hR2 hB2 hT2 hg2 cj2 hs2
              obtain ⟨⟨k0, k1, k2, k3⟩, f0, f1, f2, f3⟩ := rd_cells hR5.rd
              obtain ⟨⟨a0, a1, a2, a3⟩, fa0, fa1, fa2, fa3⟩ := blk4 hB5
              obtain ⟨⟨b0, b1, b2, b3⟩, fb0, fb1, fb2, fb3⟩ := blk4 hT5
              go_wp2
              have hB9 := (blk_other hB5 ⟨R, 3, none⟩ (fun e => hne1 e.symm) (.int .i64 ((i : Int) + (x.size : Int)))).set (.int .i64 3) (.string x) (.int .i64 0) (.int .i64 po)
              obtain ⟨⟨j0, j1, j2, j3⟩, g0, g1, g2, g3⟩ := blk4 hB9
              refine bodyPost_ret (v := .tuple #[.agg #[.int .i64 3, .string x, .int .i64 0, .int .i64 po], .bool true]) (by simp [results, Tryz.results120, go_sem, j0, j1, j2, j3]) rfl (SigPost.yes HN.out ?_ ?_)
              · refine grown_new ?_ _ (by simp) _
                refine grown_new ?_ _ (by simp) _
                refine grown_new ?_ _ (by simp) _
                refine grown_new ?_ _ (by simp) _
                exact grown_R hg5 3 _
              · refine rd_other ?_ _ hne1 _
                refine rd_other ?_ _ hne1 _
                refine rd_other ?_ _ hne1 _
                refine rd_other ?_ _ hne1 _
                exact rd_set hR5.rd _
    · have HE := Lib.hid (noSigM_end (L.drop i) j hlt HN.out)
      clear HN
      obtain ⟨⟨a0, a1, a2, a3⟩, fa0, fa1, fa2, fa3⟩ := blk4 hB0
      have hne1 : R ≠ w.heap.size := by omega
      go_wp2
      have hB9 := hB0.below (below_dn W0 q)
      have hB9 := hB9.set (.int .i64 0) (.string ⟨#[]⟩) (.int .i64 0) (.int .i64 0)
      obtain ⟨⟨j0, j1, j2, j3⟩, g0, g1, g2, g3⟩ := blk4 hB9
      refine bodyPost_ret (v := .tuple #[.agg #[.int .i64 0, .string ⟨#[]⟩, .int .i64 0, .int .i64 0], .bool false]) (by simp [results, Tryz.results120, go_sem, j0, j1, j2, j3]) rfl (SigPost.no HE.out ?_ ?_)
      · refine grown_new ?_ _ (by simp) _
        refine grown_new ?_ _ (by simp) _
        refine grown_new ?_ _ (by simp) _
        refine grown_new ?_ _ (by simp) _
        exact grown_dn hg0 _
      · refine rd_other ?_ _ hne1 _
        refine rd_other ?_ _ hne1 _
        refine rd_other ?_ _ hne1 _
        refine rd_other ?_ _ hne1 _
        exact (hR0.drewN _).rd
end Go.Proofs.YtmpcmpeloebnhaaGreatDoor
namespace Go.Proofs.YtmpcmpeloebnhaaGreatDoor
open Go.RowKit
theorem tok_name (s : ByteArray) (L : RL) (bad : Int) (i : Nat) (hi : i < L.length) (h1 : cls (L[i]'hi).1 = 1) (po : Int) (hpo : (L[i]'hi).2 = po) :
  tokL s (endOf s bad) (L.drop i) = if cnt nmB (L.drop i) ≤ 12 then some (⟨if isWrd (nameT s L bad i po) then 3 else 1, nameT s L bad i po, 0, po⟩, cnt nmB (L.drop i)) else none := by
 unfold nameT
 rw [← List.drop_drop, drop_at L i hi, tokL, if_pos h1, hpo]
theorem tok_num (s : ByteArray) (L : RL) (e : Int) (i : Nat) (hi : i < L.length) (h1 : cls (L[i]'hi).1 = 2) (po : Int) (hpo : (L[i]'hi).2 = po) :
  tokL s e (L.drop i) = if numV 0 (L.drop i) ≤ 99 ∧ ¬ ((L[i]'hi).1 = 48 ∧ 1 < cnt dgB (L.drop i)) then some (⟨2, ⟨#[]⟩, numV 0 (L.drop i), po⟩, cnt dgB (L.drop i)) else none := by
 rw [drop_at L i hi, tokL, if_neg (by omega), if_pos h1, hpo]
theorem tok_sig (s : ByteArray) (L : RL) (e : Int) (i : Nat) (hi : i < L.length) (h1 : ¬ cls (L[i]'hi).1 = 1) (h2 : ¬ cls (L[i]'hi).1 = 2) (po : Int) (hpo : (L[i]'hi).2 = po) :
  tokL s e (L.drop i) = match sigL (L.drop i) with
   | some x => some (⟨3, x, 0, po⟩, x.size)
   | none => none := by
 rw [drop_at L i hi, tokL, if_neg h1, if_neg h2, hpo]
 cases sigL (L[i] :: L.drop (i + 1)) <;> rfl
def TokOut (s : ByteArray) (R : Nat) (lv : Value) (L : RL) (bad : Int) (i : Nat) (e : Ending) (w' : World) : Prop :=
 match tokL s (endOf s bad) (L.drop i) with
 | some (t, k) => e = .returned (.tuple #[tokV (some t), .bool true]) ∧ Rd w' R s lv bad ((i : Int) + k)
 | none => ∃ (a : Int) (b : ByteArray) (c d : Int), e = .returned (.tuple #[.agg #[.int .i64 a, .string b, .int .i64 c, .int .i64 d], .bool false])
def TokPost (w : World) (s : ByteArray) (R : Nat) (lv : Value) (L : RL) (bad : Int) (i : Nat) (e : Ending) (w' : World) : Prop := w.grownBy w' (some R) ∧ TokOut s R lv L bad i e w'
theorem Blk4.grown {w w' : World} {B R : Nat} {a b c d : Value} (h : Blk4 w B a b c d) (hg : w.grownBy w' (some R)) (hne : R ≠ B) : Blk4 w' B a b c d := by
 unfold Blk4 at *
 rw [hg.block B (Array.getElem?_eq_some_iff.1 h).1 (fun e => by cases e; exact hne rfl)]; exact h
theorem TokOut.yes {s : ByteArray} {R : Nat} {lv : Value} {L : RL} {bad : Int} {i : Nat} {w' : World} {t : Tok} {k : Nat} {v : Value} (h : tokL s (endOf s bad) (L.drop i) = some (t, k)) (hv : v = tokV (some t)) (hd : Rd w' R s lv bad ((i : Int) + k)) :
  TokOut s R lv L bad i (.returned (.tuple #[v, .bool true])) w' := by
 unfold TokOut; rw [h, hv]; exact ⟨rfl, hd⟩
theorem TokOut.no {s : ByteArray} {R : Nat} {lv : Value} {L : RL} {bad : Int} {i : Nat} {w' : World} {a : Int} {b : ByteArray} {c d : Int} (h : tokL s (endOf s bad) (L.drop i) = none) :
  TokOut s R lv L bad i (.returned (.tuple #[.agg #[.int .i64 a, .string b, .int .i64 c, .int .i64 d], .bool false])) w' := by
 unfold TokOut; rw [h]; exact ⟨a, b, c, d, rfl⟩
set_option maxRecDepth 100000 in
set_option maxHeartbeats 4000000 in
theorem rtoken_any (w : World) (R : Nat) (s : ByteArray) (lv : Value) (L : RL) (bad : Int) (i : Nat) (hS : RS w R s lv L bad i) (hL : L = (each s).1) (hbad : bad = (each s).2) (hi : i < L.length) :
  Calls Tryz.prog 68 #[.pointer (some ⟨R, 0, none⟩)] w (TokPost w s R lv L bad i) := by
 have hRlt := hS.rd.lt
 obtain ⟨po, hpo⟩ : ∃ po, (L[i]'hi).2 = po := ⟨_, rfl⟩
 obtain ⟨W0, hW0⟩ : ∃ W0, W0 = w.alloc (.cells #[.int .i64 0, .string ⟨#[]⟩, .int .i64 0, .int .i64 0] 70) := ⟨_, rfl⟩
 have hR0 : RS W0 R s lv L bad i := by rw [hW0]; exact hS.below ((Below.refl _ _).alloc (Nat.le_refl _) _)
 have hB0 : Blk4 W0 w.heap.size (.int .i64 0) (.string ⟨#[]⟩) (.int .i64 0) (.int .i64 0) := by rw [hW0]; exact blk4_new _ _ _ _ _
 have hg0 : w.grownBy W0 (some R) := by rw [hW0]; exact grown_alloc (grown_refl _ _) _
 have hne1 : R ≠ w.heap.size := by omega
 have HW := Lib.hid hW0
 have HL := Lib.hid hL
 have HBD := Lib.hid hbad
 have HPO := Lib.hid hpo
 clear hW0 hS hL hbad hpo
 have fin : ∀ (w2 : World) (a : Int) (b : ByteArray) (c d : Int), W0.grownBy w2 (some R) → w.grownBy ((((w2.setCell ⟨w.heap.size, 0, none⟩ (.int .i64 a)).setCell ⟨w.heap.size, 1, none⟩ (.string b)).setCell ⟨w.heap.size, 2, none⟩ (.int .i64 c)).setCell ⟨w.heap.size, 3, none⟩ (.int .i64 d)) (some R) ∧
   Blk4 ((((w2.setCell ⟨w.heap.size, 0, none⟩ (.int .i64 a)).setCell ⟨w.heap.size, 1, none⟩ (.string b)).setCell ⟨w.heap.size, 2, none⟩ (.int .i64 c)).setCell ⟨w.heap.size, 3, none⟩ (.int .i64 d)) w.heap.size (.int .i64 a) (.string b) (.int .i64 c) (.int .i64 d) ∧
   ∀ j, Rd w2 R s lv bad j → Rd ((((w2.setCell ⟨w.heap.size, 0, none⟩ (.int .i64 a)).setCell ⟨w.heap.size, 1, none⟩ (.string b)).setCell ⟨w.heap.size, 2, none⟩ (.int .i64 c)).setCell ⟨w.heap.size, 3, none⟩ (.int .i64 d)) R s lv bad j := by
  intro w2 a b c d hg
  refine ⟨?_, (hB0.grown hg hne1).set _ _ _ _, fun j hd => ?_⟩
  ·refine grown_new ?_ _ (by simp) _
   refine grown_new ?_ _ (by simp) _
   refine grown_new ?_ _ (by simp) _
   refine grown_new ?_ _ (by simp) _
   exact hg0.trans hg
  ·refine rd_other ?_ _ hne1 _
   refine rd_other ?_ _ hne1 _
   refine rd_other ?_ _ hne1 _
   refine rd_other ?_ _ hne1 _
   exact hd
 have FIN := Lib.hid fin
 clear fin
 by_cases h1 : cls (L[i]'hi).1 = 1
 ·have HC := Lib.hid (show clsAt L i = 1 by rw [clsAt_in L i hi]; exact h1)
  have htk := tok_name s L bad i hi h1 po HPO.out
  have HTK := Lib.hid htk
  have H1 := Lib.hid h1
  clear htk h1
  go_enter Tryz.func68, Tryz.ntmps68
  go_wp2_with fail
  rw [← HW.out]
  refine (rdclass0 W0 R s _ L bad i 1 hR0 HC.out).mono ?_
  rintro e w1 ⟨rfl, q, rfl⟩
  go_wp2_with fail
  obtain ⟨K, hK⟩ : ∃ K : Int, K = if isWrd (nameT s L bad i po) then 3 else 1 := ⟨_, rfl⟩
  refine (rname_any _ R s _ L bad i (hR0.drewN q) HL.out HBD.out hi H1.out po HPO.out K hK _ rfl).mono ?_
  rintro e w2 ⟨rfl, hd2, hg2⟩
  have hg3 : W0.grownBy w2 (some R) := (grown_of_below (below_dn W0 q) _).trans hg2
  have hB2 := hB0.grown hg3 hne1
  obtain ⟨⟨a0, a1, a2, a3⟩, fa0, fa1, fa2, fa3⟩ := blk4 hB2
  have HKK := Lib.hid hK
  clear hK hR0 hB0 hg2
  by_cases h12 : cnt nmB (L.drop i) ≤ 12
  ·have hb : decide (cnt nmB (L.drop i) ≤ 12) = true := by rw [decide_eq_true_iff]; exact h12
   have HY := Lib.hid (HTK.out.trans (if_pos h12))
   rw [hb]
   clear hb h12
   go_wp2
   obtain ⟨hgf, hB9, hdf⟩ := FIN.out w2 K (nameT s L bad i po) 0 po hg3
   obtain ⟨⟨j0, j1, j2, j3⟩, g0, g1, g2, g3⟩ := blk4 hB9
   exact bodyPost_ret (v := .tuple #[.agg #[.int .i64 K, .string (nameT s L bad i po), .int .i64 0, .int .i64 po], .bool true]) (by simp [results, Tryz.results68, go_sem, j0, j1, j2, j3]) rfl ⟨hgf, .yes HY.out (by rw [HKK.out]; rfl) (hdf _ hd2)⟩
  ·have hb : decide (cnt nmB (L.drop i) ≤ 12) = false := by rw [decide_eq_false_iff_not]; exact h12
   have HY := Lib.hid (HTK.out.trans (if_neg h12))
   rw [hb]
   clear hb h12
   go_wp2
   obtain ⟨hgf, hB9, hdf⟩ := FIN.out w2 K (nameT s L bad i po) 0 po hg3
   obtain ⟨⟨j0, j1, j2, j3⟩, g0, g1, g2, g3⟩ := blk4 hB9
   exact bodyPost_ret (v := .tuple #[.agg #[.int .i64 K, .string (nameT s L bad i po), .int .i64 0, .int .i64 po], .bool false]) (by simp [results, Tryz.results68, go_sem, j0, j1, j2, j3]) rfl ⟨hgf, .no HY.out⟩
 ·by_cases h2 : cls (L[i]'hi).1 = 2
  ·have HC := Lib.hid (show clsAt L i = 2 by rw [clsAt_in L i hi]; exact h2)
   have htk := tok_num s L (endOf s bad) i hi h2 po HPO.out
   have HTK := Lib.hid htk
   have H1 := Lib.hid h2
   clear htk h2 h1
   go_enter Tryz.func68, Tryz.ntmps68
   go_wp2_with fail
   rw [← HW.out]
   refine (rdclass0 W0 R s _ L bad i 2 hR0 HC.out).mono ?_
   rintro e w1 ⟨rfl, q, rfl⟩
   go_wp2_with fail
   obtain ⟨N, hN⟩ : ∃ N : Int, N = numV 0 (L.drop i) := ⟨_, rfl⟩
   refine (rnumber_any _ R s _ L bad i (hR0.drewN q) hi H1.out po HPO.out N hN _ rfl).mono ?_
   rintro e w2 ⟨rfl, hd2, hg2⟩
   have hg3 : W0.grownBy w2 (some R) := (grown_of_below (below_dn W0 q) _).trans hg2
   have hB2 := hB0.grown hg3 hne1
   obtain ⟨⟨a0, a1, a2, a3⟩, fa0, fa1, fa2, fa3⟩ := blk4 hB2
   have htk := HTK.out
   rw [← hN] at htk
   clear hN HTK hR0 hB0 hg2
   by_cases h12 : N ≤ 99 ∧ ¬ ((L[i]'hi).1 = 48 ∧ 1 < cnt dgB (L.drop i))
   ·rw [decide_eq_true h12]
    have HY := Lib.hid (htk.trans (if_pos h12))
    clear h12 htk
    go_wp2
    obtain ⟨hgf, hB9, hdf⟩ := FIN.out w2 2 ⟨#[]⟩ N po hg3
    obtain ⟨⟨j0, j1, j2, j3⟩, g0, g1, g2, g3⟩ := blk4 hB9
    exact bodyPost_ret (v := .tuple #[.agg #[.int .i64 2, .string ⟨#[]⟩, .int .i64 N, .int .i64 po], .bool true]) (by simp [results, Tryz.results68, go_sem, j0, j1, j2, j3]) rfl ⟨hgf, .yes HY.out rfl (hdf _ hd2)⟩
   ·rw [decide_eq_false h12]
    have HY := Lib.hid (htk.trans (if_neg h12))
    clear h12 htk
    go_wp2
    obtain ⟨hgf, hB9, hdf⟩ := FIN.out w2 2 ⟨#[]⟩ N po hg3
    obtain ⟨⟨j0, j1, j2, j3⟩, g0, g1, g2, g3⟩ := blk4 hB9
    exact bodyPost_ret (v := .tuple #[.agg #[.int .i64 2, .string ⟨#[]⟩, .int .i64 N, .int .i64 po], .bool false]) (by simp [results, Tryz.results68, go_sem, j0, j1, j2, j3]) rfl ⟨hgf, .no HY.out⟩
  ·obtain ⟨cv, hcv⟩ : ∃ cv, cls (L[i]'hi).1 = cv := ⟨_, rfl⟩
   have HC := Lib.hid (show clsAt L i = cv by rw [clsAt_in L i hi]; exact hcv)
   have htk := tok_sig s L (endOf s bad) i hi h1 h2 po HPO.out
   have HTK := Lib.hid htk
   rw [hcv] at h1 h2
   have e1 : (cv == 1) = false := by rw [beq_eq_false_iff_ne]; exact h1
   have e2 : (cv == 2) = false := by rw [beq_eq_false_iff_ne]; exact h2
   clear htk h2 h1 hcv
   go_enter Tryz.func68, Tryz.ntmps68
   go_wp2_with fail
   rw [← HW.out]
   refine (rdclass0 W0 R s _ L bad i cv hR0 HC.out).mono ?_
   rintro e w1 ⟨rfl, q, rfl⟩
   go_wp2_with fail
   refine (rsign_any _ R s _ L bad i (hR0.drewN q) hi po HPO.out).mono ?_
   rintro e w2 ⟨hg2, hsp⟩
   have hg3 : W0.grownBy w2 (some R) := (grown_of_below (below_dn W0 q) _).trans hg2
   have hB2 := hB0.grown hg3 hne1
   obtain ⟨⟨a0, a1, a2, a3⟩, fa0, fa1, fa2, fa3⟩ := blk4 hB2
   have htk := HTK.out
   clear HTK hR0 hB0 hg2
   rcases hs : sigL (L.drop i) with _ | x
   ·rw [hs] at hsp htk
    obtain ⟨rfl, hd2⟩ := hsp
    have HY := Lib.hid htk
    clear htk hs
    go_wp2
    obtain ⟨hgf, hB9, hdf⟩ := FIN.out w2 0 ⟨#[]⟩ 0 0 hg3
    obtain ⟨⟨j0, j1, j2, j3⟩, g0, g1, g2, g3⟩ := blk4 hB9
    exact bodyPost_ret (v := .tuple #[.agg #[.int .i64 0, .string ⟨#[]⟩, .int .i64 0, .int .i64 0], .bool false]) (by simp [results, Tryz.results68, go_sem, j0, j1, j2, j3]) rfl ⟨hgf, .no HY.out⟩
   ·rw [hs] at hsp htk
    obtain ⟨rfl, hd2⟩ := hsp
    have HY := Lib.hid htk
    clear htk hs
    go_wp2
    obtain ⟨hgf, hB9, hdf⟩ := FIN.out w2 3 x 0 po hg3
    obtain ⟨⟨j0, j1, j2, j3⟩, g0, g1, g2, g3⟩ := blk4 hB9
    exact bodyPost_ret (v := .tuple #[.agg #[.int .i64 3, .string x, .int .i64 0, .int .i64 po], .bool true]) (by simp [results, Tryz.results68, go_sem, j0, j1, j2, j3]) rfl ⟨hgf, .yes HY.out rfl (hdf _ hd2)⟩
end Go.Proofs.YtmpcmpeloebnhaaGreatDoor
namespace Go.Proofs.YtmpcmpeloebnhaaGreatDoor
open Go.RowKit
theorem skp_idem : ∀ (L : RL) (b : Bool), skp false (skp b L) = skp b L := by
 intro L
 induction L with
 | nil => intro b; cases b <;> rfl
 | cons q L ih =>
  intro b
  cases b with
  | false =>
   by_cases h3 : cls q.1 = 3
   ·have e : skp false (q :: L) = skp false L := by rw [skp, if_pos h3]
    rw [e]; exact ih false
   ·by_cases h35 : q.1 = 35
    ·have e : skp false (q :: L) = skp true L := by rw [skp, if_neg h3, if_pos h35]
     rw [e]; exact ih true
    ·have e : skp false (q :: L) = q :: L := by rw [skp, if_neg h3, if_neg h35]
     rw [e, e]
  | true =>
   by_cases h10 : q.1 = 10
   ·have e : skp true (q :: L) = skp false L := by rw [skp, if_pos h10]
    rw [e]; exact ih false
   ·have e : skp true (q :: L) = skp true L := by rw [skp, if_neg h10]
    rw [e]; exact ih true
theorem refL_skp (s : ByteArray) (e : Int) (f : Nat) (X : RL) : refL s e f X = refL s e f (skp false X) := by
 cases f with
 | zero => rfl
 | succ f =>
  conv => rhs; unfold refL
  conv => lhs; unfold refL
  rw [skp_idem]
def refAt (s : ByteArray) (L : RL) (e : Int) (acc : List Tok) (f i : Nat) : Prop := (lexT s).1 = acc ++ (refL s e f (L.drop i)).1 ∧ (lexT s).2 = (refL s e f (L.drop i)).2 ∧ skp false (L.drop i) = L.drop i
theorem refAt_start (s : ByteArray) (L : RL) (bad : Int) (hL : L = (each s).1) (hb : bad = (each s).2) (i : Nat) (hi : L.drop i = skp false (L.drop 0)) : refAt s L (endOf s bad) [] L.length i := by
 have h := toks_ref s L.length (by rw [hL]; exact Nat.le_refl _)
 rw [← hL, ← hb, refL_skp] at h
 rw [List.drop_zero] at hi
 unfold refAt
 rw [h, hi]
 exact ⟨rfl, rfl, skp_idem _ _⟩
theorem refAt_some {s : ByteArray} {L : RL} {e : Int} {acc : List Tok} {f i j k : Nat} {t : Tok} (h : refAt s L e acc (f + 1) i) (ht : tokL s e (L.drop i) = some (t, k)) (hj : L.drop j = skp false (L.drop (i + k))) : refAt s L e (acc ++ [t]) f j := by
 obtain ⟨h1, h2, h3⟩ := h
 unfold refL at h1 h2
 rw [h3] at h1 h2
 rcases hd : L.drop i with _ | ⟨q, M⟩
 ·rw [hd] at ht; cases ht
 ·rw [hd] at h1 h2 ht
  simp only [ht] at h1 h2
  have e1 : (q :: M).drop k = L.drop (i + k) := by rw [← hd, List.drop_drop]
  rw [e1, refL_skp, ← hj] at h1 h2
  exact ⟨by rw [h1, List.append_assoc]; rfl, h2, by rw [hj]; exact skp_idem _ _⟩
theorem refAt_none {s : ByteArray} {L : RL} {e : Int} {acc : List Tok} {f i : Nat} (h : refAt s L e acc (f + 1) i) (hi : i < L.length) (ht : tokL s e (L.drop i) = none) : (lexT s).2 = some (L[i]'hi).2 := by
 obtain ⟨_, h2, h3⟩ := h
 unfold refL at h2
 rw [h3] at h2
 rw [drop_at L i hi] at h2 ht
 simp only [ht] at h2
 exact h2
theorem refAt_end {s : ByteArray} {L : RL} {e : Int} {acc : List Tok} {f i : Nat} (h : refAt s L e acc f i) (hi : ¬ i < L.length) : acc = (lexT s).1 ∧ (lexT s).2 = none := by
 obtain ⟨h1, h2, _⟩ := h
 rw [List.drop_of_length_le (by omega)] at h1 h2
 have e0 : refL s e f [] = ([], none) := by cases f <;> rfl
 rw [e0] at h1 h2
 exact ⟨by rw [h1]; simp, h2⟩
theorem grown_mix {a b c : World} {r : Nat} {row : Option Nat} (h : a.grownBy b (some r)) (k : b.grownBy c row) (hr : ∀ j, row = some j → a.heap.size ≤ j) : a.grownBy c (some r) :=
 ⟨k.os.trans h.os, k.tape.trans h.tape, k.output.trans h.output, Nat.le_trans h.size k.size, fun i hi hne => (k.block i (Nat.lt_of_lt_of_le hi h.size) (fun e => by have := hr i e.symm; omega)).trans (h.block i hi hne)⟩
theorem rd_grown {a b : World} {R : Nat} {s : ByteArray} {lv : Value} {bad i : Int} {row : Option Nat} (h : Rd a R s lv bad i) (k : a.grownBy b row) (hr : ∀ j, row = some j → R < j) : Rd b R s lv bad i := by
 unfold Rd at *
 rw [k.block R (Array.getElem?_eq_some_iff.1 h).1 (fun e => by have := hr R e.symm; omega)]; exact h
set_option maxRecDepth 1000000 in
set_option maxHeartbeats 4000000 in
theorem rtokens_any (s : ByteArray) (w : World) (hs : s.size ≤ 1000000) (hU : Lib.Utf8Tabs 2 3 w) :
  Calls Tryz.prog 25 #[.string s] w (TokensPost s w) := by
 by_cases h2000 : s.size ≤ 2000
 ·obtain ⟨i0, hi, hz0, hz1, hz2⟩ := info_parts Tryz.infoTok
  go_enter Tryz.func25, Tryz.ntmps25
  go_wp2_with fail
  obtain ⟨Wr, hWr⟩ : ∃ Wr, Wr = w.alloc (.cells #[.string s, .slice none 0 0, .int .i64 0, .int .i64 0] 101) := ⟨_, rfl⟩
  have hbr : Below w.heap.size w Wr := by rw [hWr]; exact (Below.refl _ _).alloc (Nat.le_refl _) _
  have hRr : Rd Wr w.heap.size s (.slice none 0 0) 0 0 := by rw [hWr]; exact alloc_at _ _
  have hsr : Wr.heap.size = w.heap.size + 1 := by rw [hWr]; simp
  rw [← hWr]
  clear hWr
  refine (reach_any s Wr hs (Utf8Tabs_below hU hbr)).mono ?_
  rintro e w2 ⟨lv, rfl, hown, hb2⟩
  obtain ⟨L, hL⟩ : ∃ L, L = (each s).1 := ⟨_, rfl⟩
  obtain ⟨bad, hbad⟩ : ∃ bad, bad = (each s).2 := ⟨_, rfl⟩
  have hLn : L.length ≤ 2000 := by rw [hL]; have := each_len s; omega
  rw [← hL, hsr] at hown
  rw [← hbad]
  have hR2 := hRr.below hb2
  obtain ⟨⟨k0, k1, k2, k3⟩, f0, f1, f2, f3⟩ := rd_cells hR2
  have hsz2 := hb2.size
  have HL := Lib.hid hL
  have HBD := Lib.hid hbad
  clear hL hbad
  obtain ⟨la, lcap, rfl⟩ : ∃ a cap, lv = .slice a L.length cap := by
   rcases hown.2 with ⟨rfl, h0⟩ | ⟨g, cap, cur, rfl, _⟩
   ·exact ⟨none, 0, by rw [h0]⟩
   ·exact ⟨_, cap, rfl⟩
  go_wp2_with fail
  obtain ⟨W3, hW3⟩ : ∃ W3, W3 = (w2.setCell ⟨w.heap.size, 1, none⟩ (.slice la L.length lcap)).setCell ⟨w.heap.size, 2, none⟩ (.int .i64 bad) := ⟨_, rfl⟩
  have hR3 : RS W3 w.heap.size s (.slice la L.length lcap) L bad 0 := by
   rw [hW3]
   refine ⟨?_, ownsRow_setCell_below (ownsRow_setCell_below hown (show w.heap.size < w.heap.size + 1 by omega) _) (show w.heap.size < w.heap.size + 1 by omega) _, by omega, by omega⟩
   have h1 := heap_setCell_same w2 w.heap.size 1 _ _ (.slice la L.length lcap) hR2
   exact heap_setCell_same _ w.heap.size 2 _ _ (.int .i64 bad) h1
  have hb3 : Below w.heap.size w W3 := by rw [hW3]; exact ((hbr.trans (hb2.mono hbr.size)).setCell (by simp) _).setCell (by simp) _
  rw [← hW3]
  clear hW3 hR2 k0 k1 k2 k3 f0 f1 f2 f3 hown hb2 hbr hRr hsr hsz2
  have hlt3 := hR3.rd.lt
  refine (skip_any W3 w.heap.size s _ L bad 0 hR3).mono ?_
  rintro e w4 ⟨rfl, i1, hR4, hg4, hi1, hd4⟩
  have HA := Lib.hid (refAt_start s L bad HL.out HBD.out i1 hd4)
  clear hd4
  go_wp2
  go_loopg [6] L.length (fun gf v wr => ∃ (i : Nat) (acc : List Tok), Rd wr w.heap.size s (.slice la L.length lcap) bad i ∧ i ≤ L.length ∧ W3.grownBy wr (some w.heap.size) ∧ wr.ownsRow W3.heap.size 70 4 v acc.length (flatT acc) ∧ Hid (refAt s L (endOf s bad) acc gf i) ∧ L.length ≤ i + gf ∧ acc.length ≤ i)
  case atStart => exact ⟨i1, [], hR4.rd, hR4.le, hg4, World.ownsRow_nil _ _ _ _, HA.out, by omega, by simp⟩
  case round =>
   obtain ⟨i, acc, hRx, hil, hgx, hown, HS, hfu, hal⟩ := hrel
   clear HA hR4 hg4
   have hbx : Below w.heap.size w wr := Below.grown hb3 hgx (by omega) (fun j hj => by cases hj; omega)
   have hRS := hR3.grown hgx hRx hil
   obtain ⟨⟨k0, k1, k2, k3⟩, f0, f1, f2, f3⟩ := rd_cells hRx
   by_cases hiL : i < L.length
   ·obtain ⟨f', rfl⟩ : ∃ f', gk = f' + 1 := ⟨gk - 1, by omega⟩
    have hlt : (i : Int) < (L.length : Int) := by omega
    go_wp2
    go_quiet (fail)
    have hRS1 := hRS.drewN nq
    have hg1 := grown_dn hgx nq
    have hb1 := below_drewN hbx nq
    have hown1 := own_below hown (below_dn wr nq)
    generalize wr.drewN nq = W5 at hRS1 hg1 hb1 hown1 ⊢
    clear k0 k1 k2 k3 f0 f1 f2 f3 hRx hgx hown hRS hbx
    go_wp2_with fail
    refine (rdat0 W5 w.heap.size s _ L bad i hRS1).mono ?_
    rintro e w6 ⟨rfl, q6, rfl⟩
    rw [show posAt s L i = (L[i]'hiL).2 by unfold posAt; rw [List.getElem?_eq_getElem hiL]]
    go_wp2_with fail
    refine (rtoken_any _ w.heap.size s _ L bad i (hRS1.drewN q6) HL.out HBD.out hiL).mono ?_
    rintro e w7 ⟨hg7, hout⟩
    have hg8 : W3.grownBy w7 (some w.heap.size) := (grown_dn hg1 q6).trans hg7
    have hb7 : Below w.heap.size w w7 := Below.grown hb3 hg8 (by omega) (fun j hj => by cases hj; omega)
    have hown7 := own_grown (own_below hown1 (below_dn W5 q6)) hg7 hlt3
    unfold TokOut at hout
    have hsz7 := hg8.size
    clear hg7 hRS1 hg1 hb1 hown1
    rcases htk : tokL s (endOf s bad) (L.drop i) with _ | ⟨tk, k⟩
    ·rw [htk] at hout
     obtain ⟨ta, tb, tc, td, rfl⟩ := hout
     have HO := Lib.hid (toks_fault h2000 (refAt_none HS.out hiL htk))
     clear htk HS
     go_wp2
     go_ret3
     exact TokensPost.err HO.out (hb7.alloc (by omega) _)
    ·rw [htk] at hout
     obtain ⟨rfl, hR7⟩ := hout
     have hkl := tokL_len htk
     rw [List.length_drop] at hkl
     have hR7n : Rd w7 w.heap.size s (.slice la L.length lcap) bad ((i + k : Nat) : Int) := by
      have h := hR7
      rw [show (i : Int) + (k : Int) = ((i + k : Nat) : Int) by omega] at h
      exact h
     have HTK := Lib.hid htk
     clear htk hR7
     obtain ⟨kd, tx, nn, po⟩ := tk
     unfold tokV
     go_wp2_with (at_builtin; refine wpList_append_own _ rfl _ _ 51 rfl W3.heap.size 70 i0 (.agg #[.int .i64 0, .string ⟨#[]⟩, .int .i64 0, .int .i64 0]) 4 40 Tryz.underlying51 hi hz0 hz1 hz2 rfl (by decide) _ _ _ rfl ((hown7.alloc _).alloc _) ⟨w7.heap.size + 1, 0, none⟩ 1 1 [.int .i64 kd, .string tx, .int .i64 nn, .int .i64 po] rfl rfl (cell_four_new _ _ _ _ _ _ _ (by simp)) (fun x hx => by simp at hx; rcases hx with rfl | rfl | rfl | rfl <;> rfl) (by unfold maxLen; omega) (by omega) (by simp; omega) ?_; intro v' w8 hown' hgrow3 hnil3)
     have hga : W3.grownBy w8 (some w.heap.size) := grown_mix (grown_alloc (grown_alloc hg8 _) _) hgrow3 (fun j hj => (hown7.lt _ hj).1)
     have hRa : Rd w8 w.heap.size s (.slice la L.length lcap) bad ((i + k : Nat) : Int) := rd_grown (rd_alloc (rd_alloc hR7n _) _) hgrow3 (fun j hj => by have := (hown7.lt _ hj).1; omega)
     have hRSa := hR3.grown hga hRa (by omega)
     rw [show flatT acc ++ [.int .i64 kd, .string tx, .int .i64 nn, .int .i64 po] = flatT (acc ++ [⟨kd, tx, nn, po⟩]) from (flatT_snoc acc ⟨kd, tx, nn, po⟩).symm] at hown'
     clear hgrow3 hnil3 hR7n
     refine (skip_any w8 w.heap.size s _ L bad (i + k) hRSa).mono ?_
     rintro e w9 ⟨rfl, i2, hR9, hg9, hi2, hd9⟩
     have hown9 := own_grown hown' hg9 hlt3
     have HN := Lib.hid (refAt_some HS.out HTK.out hd9)
     have hle9 := hR9.le
     clear hd9 HS HTK
     go_wp2
     go_roundg f'
     case rel => exact ⟨i2, acc ++ [Tok.mk kd tx nn po], hR9.rd, hle9, hga.trans hg9, by simpa using hown9, HN.out, by omega, by simp; omega⟩
     case measure => omega
   ·have hend := refAt_end HS.out hiL
    have hge : (L.length : Int) ≤ (i : Int) := by omega
    have hged : decide ((i : Int) < (L.length : Int)) = false := by rw [decide_eq_false_iff_not]; omega
    clear HS
    rcases bad_range s with hbd | ⟨hbd0, hbd1⟩
    ·have HO := Lib.hid (toks_ok h2000 hend.2 hbd hend.1)
     have hbn : bad < 0 := by rw [HBD.out]; omega
     clear hend hbd
     go_wp2
     go_quiet (fail)
     have hown1 := own_below hown (below_dn wr nq)
     have hb1 := below_drewN hbx nq
     have hg1 := grown_dn hgx nq
     have hR1 := hRx.below (below_dn wr nq)
     generalize wr.drewN nq = W5 at hown1 hb1 hg1 hR1 ⊢
     clear k0 k1 k2 k3 f0 f1 f2 f3 hRx hgx hown hRS hbx
     obtain ⟨⟨k0, k1, k2, k3⟩, f0, f1, f2, f3⟩ := rd_cells hR1
     have hsz5 := hg1.size
     go_wp2_with (at_builtin; refine wpList_append_own _ rfl _ _ 51 rfl W3.heap.size 70 i0 (.agg #[.int .i64 0, .string ⟨#[]⟩, .int .i64 0, .int .i64 0]) 4 40 Tryz.underlying51 hi hz0 hz1 hz2 rfl (by decide) _ _ _ rfl (hown1.alloc _) ⟨W5.heap.size, 0, none⟩ 1 1 [.int .i64 4, .string ⟨#[]⟩, .int .i64 0, .int .i64 s.size] rfl rfl (cell_four_new _ _ _ _ _ _ _ (by simp)) (fun x hx => by simp at hx; rcases hx with rfl | rfl | rfl | rfl <;> rfl) (by unfold maxLen; omega) (by omega) (by simp; omega) ?_; intro v' w8 hown' hgrow3 hnil3)
     have hb8 : Below w.heap.size w w8 := Below.grown (hb1.alloc (by omega) _) hgrow3 (by simp; omega) (fun j hj => by have := (hown1.lt _ hj).1; omega)
     go_ret3
     refine ⟨v', by rw [HO.out]; rfl, ?_, hb8⟩
     rw [HO.out]
     refine ownsRow_base ?_ (show w.heap.size ≤ W3.heap.size by omega)
     rw [flatT_snoc]
     simpa using hown'
    ·have hbb : ¬ (each s).2 = -1 := by omega
     have HO := Lib.hid (toks_bad h2000 hend.2 hbb)
     have hbn : 0 ≤ bad := by rw [HBD.out]; exact hbd0
     clear hend hbd0 hbd1 hbb hown
     go_wp2
     go_quiet (fail)
     go_wp2
     refine wp_region_quiet_lit (by kernel_rfl) (by kernel_rfl) ?_
     repeat (any_goals (first | go_big_quiet_step (fail) | quiet_step (fail)))
     all_goals (refine wpQuiet_nil ?_; intro _ hw'; obtain ⟨nq2, hw''⟩ := hw'; subst hw'')
     go_wp2
     go_ret3
     exact TokensPost.err (by rw [HO.out, HBD.out]) (by first | exact below_drewN (below_drewN hbx _) _ | exact below_drewN hbx _)
 ·have HL := Lib.hid (toks_long (s := s) (by omega))
  go_enter Tryz.func25, Tryz.ntmps25
  go_wp2
  go_ret3
  exact TokensPost.err HL.out (Below.refl _ _)
end Go.Proofs.YtmpcmpeloebnhaaGreatDoor
namespace Go.Proofs.YtmpcmpeloebnhaaGreatDoor
open Go.RowKit
theorem refL_len (s : ByteArray) (e : Int) : ∀ (f : Nat) (X : RL), (refL s e f X).1.length ≤ f := by
 intro f
 induction f with
 | zero => intro X; simp [refL]
 | succ f ih =>
  intro X
  unfold refL
  rcases skp false X with _ | ⟨q, M⟩
  ·simp
  ·simp only []
   rcases tokL s e (q :: M) with _ | ⟨t, k⟩
   ·simp
   ·have := ih ((q :: M).drop k)
    simp
    omega
theorem toks_len (s : ByteArray) : (toks s).1.length ≤ s.size + 1 := by
 have h1 := toks_ref s (each s).1.length (Nat.le_refl _)
 have h2 := refL_len s (endOf s (each s).2) (each s).1.length (each s).1
 have h3 := each_len s
 rw [← h1] at h2
 unfold toks
 split
 ·split
  ·simp
  ·split
   ·simp; omega
   ·simp
 ·simp
theorem rtokens_is (s : ByteArray) (l : List Tok) (at' err : Int) (w : World) (hU : Lib.Utf8Tabs 2 3 w) (hs : s.size ≤ 1000000) (h : toks s = (l, at', err)) :
  Calls Tryz.prog 25 #[.string s] w fun e w' => ∃ v, e = .returned (.tuple #[v, .int .i64 at', .int .i64 err]) ∧ w'.ownsRow w.heap.size 70 4 v l.length (flatT l) ∧ Below w.heap.size w w' := by
 refine (rtokens_any s w hs hU).mono fun e w' hp => ?_
 obtain ⟨v, h1, h2, h3⟩ := hp
 rw [h] at h1 h2
 exact ⟨v, h1, h2, h3⟩
end Go.Proofs.YtmpcmpeloebnhaaGreatDoor
namespace Go.Proofs.YtmpcmpeloebnhaaGreatDoor
open Go.RowKit
set_option maxRecDepth 100000 in
set_option maxHeartbeats 4000000 in
theorem rtokens_big (s : ByteArray) (w : World) (h : ¬ s.size ≤ 2000) (hs : s.size ≤ 140737488351232) : Calls Tryz.prog 25 #[.string s] w fun e w' => e = .returned (.tuple #[.slice none 0 0, .int .i64 0, .int .i64 3]) ∧ Below w.heap.size w w' := by
 go_enter Tryz.func25, Tryz.ntmps25
 go_wp2
 go_ret3
 exact ⟨rfl, Below.refl _ _⟩
set_option maxRecDepth 100000 in
set_option maxHeartbeats 8000000 in
theorem isName_any (s : ByteArray) (w : World) (hs : s.size ≤ 140737488351232) (hU : Lib.Utf8Tabs 2 3 w) : Calls Tryz.prog 86 #[.string s] w fun e w' => e = .returned (.bool (nameB s)) ∧ Below w.heap.size w w' := by
 by_cases h2000 : s.size ≤ 2000
 ·obtain ⟨⟨l, at', err⟩, ht⟩ : ∃ r, toks s = r := ⟨_, rfl⟩
  have hnb : nameB s = (decide (err = 0) && oneName s l) := by unfold nameB; rw [ht]
  have hcall := rtokens_is s l at' err w hU (by omega) ht
  have HC := Lib.hid hcall
  have hlen := toks_len s
  rw [ht] at hlen
  simp only [] at hlen
  clear hcall ht
  by_cases he : err = 0
  ·subst he
   have hnb2 : nameB s = oneName s l := by rw [hnb]; rfl
   clear hnb
   by_cases hl2 : l.length = 2
   ·obtain ⟨t, u, rfl⟩ : ∃ t u, l = [t, u] := by
     match l, hl2 with
     | [t, u], _ => exact ⟨t, u, rfl⟩
    have HN := Lib.hid hnb2
    clear hnb2 hl2 hlen
    go_enter Tryz.func86, Tryz.ntmps86
    go_wp2_with fail
    refine HC.out.mono ?_
    rintro e w2 ⟨v2, rfl, hown, hb2⟩
    obtain ⟨g2, p2, rfl⟩ : ∃ g cap, v2 = .slice (some ⟨g, 0, none⟩) 2 cap := by
     obtain ⟨a, cap, rfl, hs⟩ := tok_slice hown
     obtain ⟨g, rfl⟩ := hs (by simp)
     exact ⟨g, cap, rfl⟩
    have e20 := (hown.cellAt 0 (by decide)).trans (show _ = some (Value.int .i64 t.kind) from rfl)
    have e21 := (hown.cellAt 1 (by decide)).trans (show _ = some (Value.string t.text) from rfl)
    clear hown HC
    obtain ⟨kd, tx, nn, po⟩ := t
    by_cases hk : kd = 1
    ·subst hk
     have HN2 := Lib.hid (show nameB s = (tx.toList == s.toList) from by rw [HN.out]; rfl)
     clear HN
     go_wp2_with fail
     go_ret
     exact ⟨by rw [HN2.out]; rfl, hb2⟩
    ·have hk1 : (kd == 1) = false := by simpa using hk
     have HN2 := Lib.hid (show nameB s = false from by rw [HN.out]; show (decide (kd = 1) && _) = false; rw [decide_eq_false hk]; rfl)
     clear HN
     go_wp2_with fail
     go_ret
     exact ⟨by rw [HN2.out]; rfl, hb2⟩
   ·have hnf : nameB s = false := by
     rw [hnb2]
     unfold oneName
     split
     ·rename_i t u; exact absurd rfl hl2
     ·rfl
    have HN := Lib.hid hnf
    have hl3 : ((l.length : Int) == 2) = false := by simp; omega
    have hl4 : ¬ (l.length : Int) = 2 := by omega
    have HL := Lib.hid hl2
    clear hnb2 hnf hl2
    go_enter Tryz.func86, Tryz.ntmps86
    go_wp2_with fail
    refine HC.out.mono ?_
    rintro e w2 ⟨v2, rfl, hown, hb2⟩
    obtain ⟨a2, p2, rfl, _⟩ := tok_slice hown
    clear hown HC
    go_wp2_with fail
    go_ret
    exact ⟨by rw [HN.out]; rfl, hb2⟩
  ·have he1 : (err == 0) = false := by simpa using he
   have HN := Lib.hid (show nameB s = false from by rw [hnb, decide_eq_false he]; rfl)
   clear hnb hlen
   go_enter Tryz.func86, Tryz.ntmps86
   go_wp2_with fail
   refine HC.out.mono ?_
   rintro e w2 ⟨v2, rfl, _, hb2⟩
   clear HC
   go_wp2_with fail
   go_ret
   exact ⟨by rw [HN.out]; rfl, hb2⟩
 ·have HN := Lib.hid (nameB_big s h2000)
  have HC := Lib.hid (rtokens_big s w h2000 hs)
  clear h2000
  go_enter Tryz.func86, Tryz.ntmps86
  go_wp2_with fail
  refine HC.out.mono ?_
  rintro e w2 ⟨rfl, hb2⟩
  go_wp2_with fail
  go_ret
  exact ⟨by rw [HN.out]; rfl, hb2⟩
end Go.Proofs.YtmpcmpeloebnhaaGreatDoor
namespace Go.Proofs.YtmpcmpeloebnhaaGreatDoor
open Go.RowKit
set_option maxRecDepth 100000 in
set_option maxHeartbeats 8000000 in
theorem set_any (op name : ByteArray) (n pos : Int) (a : Option Addr) (k cap : Nat) (w : World) : Calls Tryz.prog 90 #[.agg #[.string op, .string name, .int .i64 n, .int .i64 pos, .slice a k cap]] w fun e w' => e = .returned (.bool (isJoin op)) ∧ Below w.heap.size w w' := by
 have hc5 := cellsNode
 by_cases o1 : op.toList = [117, 110, 105, 111, 110]
 ·have e1 : (op.toList == [117, 110, 105, 111, 110]) = true := by simp [o1]
  have HR := Lib.hid (show isJoin op = true from by unfold isJoin; rw [e1]; simp)
  clear o1
  go_enter Tryz.func90, Tryz.ntmps90
  go_wp2_with fail
  go_ret
  exact ⟨by rw [HR.out]; rfl, below_box _ _⟩
 have e1 : (op.toList == [117, 110, 105, 111, 110]) = false := by simp [o1]
 clear o1
 by_cases o2 : op.toList = [105, 110, 116, 101, 114]
 ·have e2 : (op.toList == [105, 110, 116, 101, 114]) = true := by simp [o2]
  have HR := Lib.hid (show isJoin op = true from by unfold isJoin; rw [e1, e2]; simp)
  clear o2
  go_enter Tryz.func90, Tryz.ntmps90
  go_wp2_with fail
  go_ret
  exact ⟨by rw [HR.out]; rfl, below_box _ _⟩
 have e2 : (op.toList == [105, 110, 116, 101, 114]) = false := by simp [o2]
 clear o2
 by_cases o3 : op.toList = [109, 105, 110, 117, 115]
 ·have e3 : (op.toList == [109, 105, 110, 117, 115]) = true := by simp [o3]
  have HR := Lib.hid (show isJoin op = true from by unfold isJoin; rw [e1, e2, e3]; simp)
  clear o3
  go_enter Tryz.func90, Tryz.ntmps90
  go_wp2_with fail
  go_ret
  exact ⟨by rw [HR.out]; rfl, below_box _ _⟩
 have e3 : (op.toList == [109, 105, 110, 117, 115]) = false := by simp [o3]
 clear o3
 have HR := Lib.hid (show isJoin op = false from by unfold isJoin; rw [e1, e2, e3]; rfl)
 go_enter Tryz.func90, Tryz.ntmps90
 go_wp2_with fail
 go_ret
 exact ⟨by rw [HR.out]; rfl, below_box _ _⟩
def hasB (name : ByteArray) (n : Int) (len : Nat) (m : Int) (nm num : Bool) : Bool := decide ((len : Int) = m) && (nm || name.toList == []) && (num || decide (n = 0)) && (!nm || nameB name)
abbrev UT (w : World) : Prop := Lib.Utf8Tabs 2 3 w
set_option maxRecDepth 100000 in
set_option maxHeartbeats 16000000 in
theorem rhas_any (op name : ByteArray) (n pos : Int) (a : Option Addr) (len cap : Nat) (m : Int) (nm num : Bool) (w : World) (hU : UT w) (hs : name.size ≤ 140737488351232) :
  Calls Tryz.prog 75 #[.agg #[.string op, .string name, .int .i64 n, .int .i64 pos, .slice a len cap], .int .i64 m, .bool nm, .bool num] w fun e w' => e = .returned (.bool (hasB name n len m nm num)) ∧ Below w.heap.size w w' := by
 have hc5 := cellsNode
 have HC := Lib.hid (isName_any name (w.alloc (boxOf op name n pos a len cap)) hs (Utf8Tabs_below hU (below_box _ _)))
 clear hU
 by_cases hl : (len : Int) = m
 ·have hl1 : ((len : Int) == m) = true := by simp [hl]
  have HL := Lib.hid hl
  clear hl
  cases nm with
  | true =>
   cases num with
   | true =>
    have HO := Lib.hid (show hasB name n len m true true = nameB name from by unfold hasB; rw [decide_eq_true HL.out]; simp)
    go_enter Tryz.func75, Tryz.ntmps75
    go_wp2_with fail
    refine HC.out.mono ?_
    rintro e w2 ⟨rfl, hb2⟩
    have hbb := box_then hb2
    clear hb2 HC
    go_wp2_with fail
    go_ret
    exact ⟨by rw [HO.out]; rfl, hbb⟩
   | false =>
    by_cases hn : n = 0
    ·have hn1 : (n == 0) = true := by simp [hn]
     have HO := Lib.hid (show hasB name n len m true false = nameB name from by unfold hasB; rw [decide_eq_true HL.out, decide_eq_true hn]; simp)
     clear hn
     go_enter Tryz.func75, Tryz.ntmps75
     go_wp2_with fail
     refine HC.out.mono ?_
     rintro e w2 ⟨rfl, hb2⟩
     have hbb := box_then hb2
     clear hb2 HC
     go_wp2_with fail
     go_ret
     exact ⟨by rw [HO.out]; rfl, hbb⟩
    ·have hn1 : (n == 0) = false := by simp [hn]
     have HO := Lib.hid (show hasB name n len m true false = false from by unfold hasB; rw [decide_eq_false hn]; simp)
     clear HC
     go_enter Tryz.func75, Tryz.ntmps75
     go_wp2_with fail
     go_ret
     exact ⟨by rw [HO.out]; rfl, below_box _ _⟩
  | false =>
   by_cases he : name.toList = []
   ·have he1 : (name.toList == []) = true := by simp [he]
    have HE := Lib.hid he
    clear he HC
    cases num with
    | true =>
     have HO := Lib.hid (show hasB name n len m false true = true from by unfold hasB; rw [decide_eq_true HL.out]; simp [HE.out])
     go_enter Tryz.func75, Tryz.ntmps75
     go_wp2_with fail
     go_ret
     exact ⟨by rw [HO.out]; rfl, below_box _ _⟩
    | false =>
     by_cases hn : n = 0
     ·have hn1 : (n == 0) = true := by simp [hn]
      have HO := Lib.hid (show hasB name n len m false false = true from by unfold hasB; rw [decide_eq_true HL.out, decide_eq_true hn]; simp [HE.out])
      clear hn
      go_enter Tryz.func75, Tryz.ntmps75
      go_wp2_with fail
      go_ret
      exact ⟨by rw [HO.out]; rfl, below_box _ _⟩
     ·have hn1 : (n == 0) = false := by simp [hn]
      have HO := Lib.hid (show hasB name n len m false false = false from by unfold hasB; rw [decide_eq_false hn]; simp)
      go_enter Tryz.func75, Tryz.ntmps75
      go_wp2_with fail
      go_ret
      exact ⟨by rw [HO.out]; rfl, below_box _ _⟩
   ·have he1 : (name.toList == []) = false := by simp [he]
    have HO := Lib.hid (show hasB name n len m false num = false from by unfold hasB; simp [he])
    clear HC
    go_enter Tryz.func75, Tryz.ntmps75
    go_wp2_with fail
    go_ret
    exact ⟨by rw [HO.out]; rfl, below_box _ _⟩
 ·have hl1 : ((len : Int) == m) = false := by simp [hl]
  have HO := Lib.hid (show hasB name n len m nm num = false from by unfold hasB; rw [decide_eq_false hl]; simp)
  clear HC
  go_enter Tryz.func75, Tryz.ntmps75
  go_wp2_with fail
  go_ret
  exact ⟨by rw [HO.out]; rfl, below_box _ _⟩
end Go.Proofs.YtmpcmpeloebnhaaGreatDoor
namespace Go.Proofs.YtmpcmpeloebnhaaGreatDoor
open Go.RowKit
def SayRT (T : Nd) : Prop := ∀ w : World, UT w → T.In w → T.sized → Calls Tryz.prog 53 #[T.val] w fun e w' => e = .returned (.bool T.okT) ∧ Below w.heap.size w w'
set_option maxRecDepth 100000 in
set_option maxHeartbeats 16000000 in
theorem terms_any (T : Nd) (w : World) (hU : UT w) (hin : T.In w) (hsz : T.sized) (hk : Fo.All SayRT T.kids) : Calls Tryz.prog 77 #[T.val] w fun e w' => e = .returned (.bool T.kids.sorts.t) ∧ Below w.heap.size w w' := by
 obtain ⟨op, name, n, pos, a, cap, kids⟩ := T
 have hc5 := cellsNode
 rw [sorts_t]
 obtain ⟨_, hks⟩ := hsz
 show Calls _ _ _ w fun e w' => e = .returned (.bool (kids.allB Nd.okT)) ∧ _
 have HU := Lib.hid hU
 have HS := Lib.hid hks
 have HK := Lib.hid hk
 have HB := Lib.hid (new_at w (boxOf op name n pos a kids.len cap))
 have HI := Lib.hid hin
 clear hU hks hk hin
 rw [Nd.val_def]
 rcases HI.out with hnil | ⟨kb, ko, hab, hlim, hpos, hkin⟩
 ·obtain rfl : kids = .nil := hnil
  have hz0 : ((Fo.nil.len : Nat) : Int) = 0 := rfl
  go_enter Tryz.func77, Tryz.ntmps77
  go_wp2_with fail
  go_loopw [3] (fun i wr => i = .int .i64 0 ∧ RowKit.Hid (wr.heap[w.heap.size]? = some (boxOf op name n pos a Fo.nil.len cap)) ∧ Below w.heap.size w wr) (fun _ _ => 0)
  case atStart => exact ⟨rfl, HB, below_box _ _⟩
  case round =>
   obtain ⟨rfl, HX, hbx⟩ := hrel
   obtain ⟨b0, b1, b2, b3, b4⟩ := box_cells HX.out
   go_wp2_with fail
   go_ret
   exact ⟨rfl, hbx⟩
 ·obtain rfl : a = some ⟨kb, ko, none⟩ := hab
  have hlim : kids.len ≤ 140737488351232 := hlim
  have HST := Lib.hid (Tail.start hkin HK.out)
  clear hkin hpos
  go_enter Tryz.func77, Tryz.ntmps77
  go_wp2_with fail
  go_loopw [3] (fun i wr => ∃ (k : Nat) (R : Fo), i = .int .i64 k ∧ RowKit.Hid (Tail wr SayRT kids R kb ko k) ∧ RowKit.Hid (kids.allB Nd.okT = R.allB Nd.okT) ∧ RowKit.Hid R.sized ∧ RowKit.Hid (wr.heap[w.heap.size]? = some (boxOf op name n pos (some ⟨kb, ko, none⟩) kids.len cap)) ∧ Below w.heap.size w wr) (fun i _ => kids.len - (intOf i).toNat)
  case atStart => exact ⟨0, kids, rfl, Lib.hid (HST.out.below (below_box _ _)), Lib.hid rfl, HS, HB, below_box _ _⟩
  case round =>
   obtain ⟨k, R, rfl, HTL, HAL, HRS, HX, hbx⟩ := hrel
   obtain ⟨b0, b1, b2, b3, b4⟩ := box_cells HX.out
   cases R with
   | nil =>
    have hkl : k = kids.len := by have := HTL.out.len; simpa [Fo.len] using this
    subst hkl
    go_wp2_with fail
    go_ret
    exact ⟨by rw [HAL.out]; rfl, hbx⟩
   | cons op1 name1 n1 pos1 a1 cap1 kids1 rest =>
    obtain ⟨hnode, hin1, hP, hkl, hnext⟩ := HTL.out.next
    have hkl2 : (k : Int) < kids.len := by omega
    obtain ⟨c0, c1, c2, c3, c4⟩ := hnode
    have HN1 := Lib.hid hnext
    have hcall := hP wr (Utf8Tabs_below HU.out hbx) hin1 ⟨HRS.out.1, HRS.out.2.1⟩
    rw [Nd.val_def] at hcall
    have HCL := Lib.hid hcall
    have HR2 := Lib.hid HRS.out.2.2
    clear hnext hin1 hP hcall HTL
    go_wp2_with fail
    refine HCL.out.mono ?_
    rintro e w3 ⟨rfl, hb3⟩
    have hbx2 := hbx.trans (hb3.mono hbx.size)
    have HX2 := Lib.hid ((hb3.block _ (lt_heap HX.out)).trans HX.out)
    have HN2 := Lib.hid (HN1.out.below hb3)
    clear hb3 HN1 HX HCL b0 b1 b2 b3 b4
    by_cases hp1 : Nd.okT ⟨op1, name1, n1, pos1, a1, cap1, kids1⟩ = true
    ·have HA2 := Lib.hid (show kids.allB Nd.okT = rest.allB Nd.okT from by rw [HAL.out]; show (Nd.okT _ && rest.allB Nd.okT) = _; rw [hp1]; rfl)
     rw [hp1]
     clear hp1
     go_wp2_with fail
     go_roundw
     case rel => exact ⟨k + 1, rest, by go_num, HN2, HA2, HR2, HX2, hbx2⟩
     case measure => (try simp [intOf]); omega
    ·have hp2 : Nd.okT ⟨op1, name1, n1, pos1, a1, cap1, kids1⟩ = false := by simpa using hp1
     have HA2 := Lib.hid (show kids.allB Nd.okT = false from by rw [HAL.out]; show (Nd.okT _ && rest.allB Nd.okT) = _; rw [hp2]; rfl)
     rw [hp2]
     clear hp1 hp2
     go_wp2_with fail
     go_ret
     exact ⟨by rw [HA2.out]; rfl, hbx2⟩
end Go.Proofs.YtmpcmpeloebnhaaGreatDoor
namespace Go.Proofs.YtmpcmpeloebnhaaGreatDoor
open Go.RowKit
def SizePost (T : Nd) (m : Int) (w : World) (e : Ending) (w' : World) : Prop := e = .returned (.int .i64 (min (T.size : Int) m)) ∧ Below w.heap.size w w'
def SizeC (T : Nd) : Prop := ∀ (m : Int) (w : World), 1 ≤ m → m ≤ 2001 → T.In w → Calls Tryz.prog 144 #[T.val, .int .i64 m] w (SizePost T m w)
set_option maxRecDepth 100000 in
set_option maxHeartbeats 4000000 in
theorem sizeUpTo_any (T : Nd) : SizeC T := by
 refine Nd.all_of (P := SizeC) ?_ T
 rintro ⟨op, name, n, pos, a, cap, kids⟩ hk m w hm1 hm2 hin
 rw [Nd.val_def]
 unfold SizePost
 have hc5 := cellsNode
 have hsz : (Nd.mk op name n pos a cap kids).size = kids.size + 1 := rfl
 rcases hin with hnil | ⟨b, o, hab, hlim, _, hin⟩
 ·obtain rfl : kids = .nil := hnil
  show Calls _ _ #[.agg #[.string op, .string name, .int .i64 n, .int .i64 pos, .slice a 0 cap], .int .i64 m] w _
  have hr : min (((Nd.mk op name n pos a cap Fo.nil).size : Nat) : Int) m = 1 := by show min ((0 + 1 : Nat) : Int) m = 1; omega
  rw [hr]
  clear hsz hk hr
  go_enter Tryz.func144, Tryz.ntmps144
  go_wp2
  go_loopw [5, 11] (fun s i wr => s = .int .i64 1 ∧ i = .int .i64 0 ∧ Below w.heap.size w wr) (fun _ _ _ => 0)
  case atStart => exact ⟨rfl, rfl, by first | exact (Below.refl _ _).alloc (Nat.le_refl _) _ | skip⟩
  case round =>
   obtain ⟨rfl, rfl, hbx⟩ := hrel
   go_wp2
   go_ret
   exact ⟨rfl, hbx⟩
 ·obtain rfl : a = some ⟨b, o, none⟩ := hab
  have hlim : kids.len ≤ 140737488351232 := hlim
  show Calls _ _ #[.agg #[.string op, .string name, .int .i64 n, .int .i64 pos, .slice (some ⟨b, o, none⟩) kids.len cap], .int .i64 m] w _
  rw [hsz]
  have hst := Tail.start hin hk
  clear hk hin hsz
  go_enter Tryz.func144, Tryz.ntmps144
  have HS := Lib.hid hst
  clear hst
  go_wp2
  go_loopw [5, 11] (fun s i wr => ∃ (k : Nat) (z : Int) (R : Fo), s = .int .i64 z ∧ i = .int .i64 k ∧ 1 ≤ z ∧ z ≤ m ∧ RowKit.Hid (min (z + R.size) m = min (((kids.size + 1 : Nat) : Int)) m) ∧ RowKit.Hid (Tail wr SizeC kids R b o k) ∧ Below w.heap.size w wr) (fun _ i _ => kids.len - (intOf i).toNat)
  case atStart =>
   refine ⟨0, 1, kids, rfl, rfl, by omega, hm1, Lib.hid (by congr 1; omega), Lib.hid (HS.out.below ((Below.refl _ _).alloc (Nat.le_refl _) _)), (Below.refl _ _).alloc (Nat.le_refl _) _⟩
  case round =>
   obtain ⟨k, z, R, rfl, rfl, hz1, hzm, HM, HT, hbx⟩ := hrel
   cases R with
   | nil =>
    have hkl : k = kids.len := by have := HT.out.len; simpa [Fo.len] using this
    have hres : min (((kids.size + 1 : Nat) : Int)) m = z := by rw [← HM.out]; show min (z + ((0 : Nat) : Int)) m = z; omega
    have HR := Lib.hid hres
    subst hkl
    clear HM HT HS hres
    go_wp2
    go_ret
    exact ⟨by rw [HR.out]; rfl, hbx⟩
   | cons op1 name1 n1 pos1 a1 cap1 kids1 rest =>
    obtain ⟨hnode, hin1, hP, hkl, hnext⟩ := HT.out.next
    have hkl' : (k : Int) < kids.len := by omega
    obtain ⟨c0, c1, c2, c3, c4⟩ := hnode
    have HN := Lib.hid hnext
    have HI := Lib.hid hin1
    have HP := Lib.hid hP
    clear hnext hin1 hP HT HS
    by_cases hzz : z = m
    ·subst hzz
     have hres : min (((kids.size + 1 : Nat) : Int)) z = z := by rw [← HM.out]; omega
     have HR := Lib.hid hres
     clear HM hres HN HI HP
     go_wp2
     go_ret
     exact ⟨by rw [HR.out]; rfl, by first | exact hbx.alloc hbx.size _ | exact hbx⟩
    ·have hzb : (z == m) = false := by simpa using hzz
     have hzd : decide (z = m) = false := by simpa using hzz
     have hzl : z < m := by omega
     have hba : ∀ ob, Below w.heap.size w (wr.alloc ob) := fun ob => hbx.alloc hbx.size ob
     have HB := Lib.hid hba
     clear hba
     go_wp2_with fail
     have hcall := HP.out (m - z) (wr.alloc (.cells (nodeCells op1 name1 n1 pos1 a1 kids1.len cap1) 26)) (by omega) (by omega) (HI.out.below ((Below.refl _ _).alloc (Nat.le_refl _) _))
     rw [Nd.val_def] at hcall
     refine hcall.mono ?_
     rintro e w2 ⟨rfl, hb2⟩
     have hz1 : (((Nd.mk op1 name1 n1 pos1 a1 cap1 kids1).size : Nat) : Int) = kids1.size + 1 := rfl
     have hbx2 := (HB.out _).trans (hb2.mono (HB.out _).size)
     generalize hy : min (((Nd.mk op1 name1 n1 pos1 a1 cap1 kids1).size : Nat) : Int) (m - z) = y
     have hy0 : 0 ≤ y ∧ y ≤ m - z := by omega
     have HT2 := HN.out.below (((Below.refl _ _).alloc (Nat.le_refl _) _).trans (hb2.mono (by simp)))
     have HM2 : min (z + y + (rest.size : Int)) m = min (((kids.size + 1 : Nat) : Int)) m := by
      rw [← HM.out]
      have : (((Fo.cons op1 name1 n1 pos1 a1 cap1 kids1 rest).size : Nat) : Int) = kids1.size + 1 + rest.size := rfl
      omega
     have HM3 := Lib.hid HM2
     have HT3 := Lib.hid HT2
     clear HM HP HI HN HM2 HT2 hcall hy hz1 HB hb2
     go_wp2
     go_roundw
     case rel => exact ⟨k + 1, z + y, rest, by go_num, by go_num, by omega, by omega, HM3, HT3, hbx2⟩
     case measure => (try simp [intOf]); omega
end Go.Proofs.YtmpcmpeloebnhaaGreatDoor
namespace Go.Proofs.YtmpcmpeloebnhaaGreatDoor
open Go.RowKit
def RSizeC (T : Nd) : Prop := ∀ (m : Int) (w : World), 1 ≤ m → m ≤ 2001 → T.In w → Calls Tryz.prog 36 #[T.val, .int .i64 m] w (SizePost T m w)
set_option maxRecDepth 100000 in
set_option maxHeartbeats 4000000 in
theorem rcount_any (T : Nd) : RSizeC T := by
 refine Nd.all_of (P := RSizeC) ?_ T
 rintro ⟨op, name, n, pos, a, cap, kids⟩ hk m w hm1 hm2 hin
 rw [Nd.val_def]
 unfold SizePost
 have hc5 := cellsNode
 have hsz : (Nd.mk op name n pos a cap kids).size = kids.size + 1 := rfl
 rcases hin with hnil | ⟨b, o, hab, hlim, _, hin⟩
 ·obtain rfl : kids = .nil := hnil
  show Calls _ _ #[.agg #[.string op, .string name, .int .i64 n, .int .i64 pos, .slice a 0 cap], .int .i64 m] w _
  have hr : min (((Nd.mk op name n pos a cap Fo.nil).size : Nat) : Int) m = 1 := by show min ((0 + 1 : Nat) : Int) m = 1; omega
  have hr2 : min 1 m = 1 := by omega
  rw [hr]
  clear hsz hk hr
  have hbc := box_cell w op name n pos a 0 cap
  go_enter Tryz.func36, Tryz.ntmps36
  go_wp2
  go_loopw [5, 6] (fun s i wr => s = .int .i64 1 ∧ i = .int .i64 0 ∧ wr.cell? ⟨w.heap.size, 4, none⟩ = some (.slice a 0 cap) ∧ Below w.heap.size w wr) (fun _ _ _ => 0)
  case atStart => exact ⟨rfl, rfl, hbc, (Below.refl _ _).alloc (Nat.le_refl _) _⟩
  case round =>
   obtain ⟨rfl, rfl, hbc, hbx⟩ := hrel
   go_wp2
   go_ret
   exact ⟨rfl, hbx⟩
 ·obtain rfl : a = some ⟨b, o, none⟩ := hab
  have hlim : kids.len ≤ 140737488351232 := hlim
  show Calls _ _ #[.agg #[.string op, .string name, .int .i64 n, .int .i64 pos, .slice (some ⟨b, o, none⟩) kids.len cap], .int .i64 m] w _
  rw [hsz]
  have hst := Tail.start hin hk
  have hbc := box_cell w op name n pos (some ⟨b, o, none⟩) kids.len cap
  have hs1 := alloc_size w (boxOf op name n pos (some ⟨b, o, none⟩) kids.len cap)
  have HBC := Lib.hid hbc
  have HS1 := Lib.hid hs1
  clear hk hin hsz hbc hs1
  go_enter Tryz.func36, Tryz.ntmps36
  have HS := Lib.hid hst
  clear hst
  go_wp2
  go_loopw [5, 6] (fun s i wr => ∃ (k : Nat) (z : Int) (R : Fo), s = .int .i64 z ∧ i = .int .i64 k ∧ 1 ≤ z ∧ z ≤ m ∧ RowKit.Hid (min (z + R.size) m = min (((kids.size + 1 : Nat) : Int)) m) ∧ RowKit.Hid (Tail wr RSizeC kids R b o k) ∧ RowKit.Hid (wr.cell? ⟨w.heap.size, 4, none⟩ = some (.slice (some ⟨b, o, none⟩) kids.len cap)) ∧ w.heap.size < wr.heap.size ∧ Below w.heap.size w wr) (fun _ i _ => kids.len - (intOf i).toNat)
  case atStart =>
   refine ⟨0, 1, kids, rfl, rfl, by omega, hm1, Lib.hid (by congr 1; omega), Lib.hid (HS.out.below ((Below.refl _ _).alloc (Nat.le_refl _) _)), HBC, by rw [alloc_size]; omega, (Below.refl _ _).alloc (Nat.le_refl _) _⟩
  case round =>
   obtain ⟨k, z, R, rfl, rfl, hz1, hzm, HM, HT, HBX, hsx, hbx⟩ := hrel
   have hbox := HBX.out
   cases R with
   | nil =>
    have hkl : k = kids.len := by have := HT.out.len; simpa [Fo.len] using this
    have hres : min (((kids.size + 1 : Nat) : Int)) m = z := by rw [← HM.out]; show min (z + ((0 : Nat) : Int)) m = z; omega
    have hres2 : min z m = z := by omega
    have HR := Lib.hid hres
    subst hkl
    clear HM HT HS hres HBX HBC HS1
    go_wp2
    go_ret
    exact ⟨by rw [HR.out]; rfl, hbx⟩
   | cons op1 name1 n1 pos1 a1 cap1 kids1 rest =>
    obtain ⟨hnode, hin1, hP, hkl, hnext⟩ := HT.out.next
    have hkl' : (k : Int) < kids.len := by omega
    obtain ⟨c0, c1, c2, c3, c4⟩ := hnode
    have HN := Lib.hid hnext
    have HI := Lib.hid hin1
    have HP := Lib.hid hP
    clear hnext hin1 hP HT HS HBC HS1
    by_cases hzz : z = m
    ·subst hzz
     have hres : min (((kids.size + 1 : Nat) : Int)) z = z := by rw [← HM.out]; omega
     have hres2 : min z z = z := by omega
     have HR := Lib.hid hres
     clear HM hres HN HI HP HBX
     go_wp2
     go_ret
     exact ⟨by rw [HR.out]; rfl, hbx⟩
    ·have hzl : z < m := by omega
     have hcall := HP.out (m - z) wr (by omega) (by omega) HI.out
     rw [Nd.val_def] at hcall
     have HC := Lib.hid hcall
     clear hcall HP
     go_wp2_with fail
     refine HC.out.mono ?_
     rintro e w2 ⟨rfl, hb2⟩
     have hz1 : (((Nd.mk op1 name1 n1 pos1 a1 cap1 kids1).size : Nat) : Int) = kids1.size + 1 := rfl
     have hbx2 := hbx.trans (hb2.mono hbx.size)
     generalize hy : min (((Nd.mk op1 name1 n1 pos1 a1 cap1 kids1).size : Nat) : Int) (m - z) = y
     have hy0 : 0 ≤ y ∧ y ≤ m - z := by omega
     have HT2 := HN.out.below hb2
     have HX2 := cell_below hb2 HBX.out
     have hsx2 : w.heap.size < w2.heap.size := Nat.lt_of_lt_of_le hsx hb2.size
     have HM2 : min (z + y + (rest.size : Int)) m = min (((kids.size + 1 : Nat) : Int)) m := by
      rw [← HM.out]
      have : (((Fo.cons op1 name1 n1 pos1 a1 cap1 kids1 rest).size : Nat) : Int) = kids1.size + 1 + rest.size := rfl
      omega
     have HM3 := Lib.hid HM2
     have HT3 := Lib.hid HT2
     have HX3 := Lib.hid HX2
     clear HM HI HN HM2 HT2 HX2 HC hy hz1 hb2 HBX hbox
     go_wp2
     go_roundw
     case rel => exact ⟨k + 1, z + y, rest, by go_num, by go_num, by omega, by omega, HM3, HT3, HX3, hsx2, hbx2⟩
     case measure => (try simp [intOf]); omega
end Go.Proofs.YtmpcmpeloebnhaaGreatDoor
namespace Go.Proofs.YtmpcmpeloebnhaaGreatDoor
open Go.RowKit
def Fo.deep : Fo → Nat
 | .nil => 0
 | .cons _ _ _ _ _ _ k r => max (k.deep + 1) r.deep
def Nd.deep (T : Nd) : Nat := T.kids.deep + 1
def DeepPost (T : Nd) (m : Int) (w : World) (e : Ending) (w' : World) : Prop := e = .returned (.int .i64 (min (T.deep : Int) m)) ∧ Below w.heap.size w w'
def RDeepC (T : Nd) : Prop := ∀ (m : Int) (w : World), 1 ≤ m → m ≤ 31 → T.In w → Calls Tryz.prog 78 #[T.val, .int .i64 m] w (DeepPost T m w)
set_option maxRecDepth 100000 in
set_option maxHeartbeats 4000000 in
theorem rdeep_any (T : Nd) : RDeepC T := by
 refine Nd.all_of (P := RDeepC) ?_ T
 rintro ⟨op, name, n, pos, a, cap, kids⟩ hk m w hm1 hm2 hin
 rw [Nd.val_def]
 unfold DeepPost
 have hc5 := cellsNode
 have hdp : (Nd.mk op name n pos a cap kids).deep = kids.deep + 1 := rfl
 by_cases hm : m = 1
 ·subst hm
  have hr : min (((Nd.mk op name n pos a cap kids).deep : Nat) : Int) 1 = 1 := by rw [hdp]; omega
  rw [hr]
  clear hdp hr hk hin
  show Calls _ _ #[.agg #[.string op, .string name, .int .i64 n, .int .i64 pos, .slice a kids.len cap], .int .i64 1] w _
  go_enter Tryz.func78, Tryz.ntmps78
  go_wp2
  go_ret
  exact ⟨rfl, (Below.refl _ _).alloc (Nat.le_refl _) _⟩
 have hm3 : 2 ≤ m := by omega
 clear hm
 rcases hin with hnil | ⟨b, o, hab, hlim, _, hin⟩
 ·obtain rfl : kids = .nil := hnil
  show Calls _ _ #[.agg #[.string op, .string name, .int .i64 n, .int .i64 pos, .slice a 0 cap], .int .i64 m] w _
  have hr : min (((Nd.mk op name n pos a cap Fo.nil).deep : Nat) : Int) m = 1 := by show min ((0 + 1 : Nat) : Int) m = 1; omega
  rw [hr]
  clear hdp hk hr
  have hbc := box_cell w op name n pos a 0 cap
  go_enter Tryz.func78, Tryz.ntmps78
  go_wp2
  go_loopw [5, 6] (fun s i wr => s = .int .i64 0 ∧ i = .int .i64 0 ∧ wr.cell? ⟨w.heap.size, 4, none⟩ = some (.slice a 0 cap) ∧ Below w.heap.size w wr) (fun _ _ _ => 0)
  case atStart => exact ⟨rfl, rfl, hbc, (Below.refl _ _).alloc (Nat.le_refl _) _⟩
  case round =>
   obtain ⟨rfl, rfl, hbc, hbx⟩ := hrel
   go_wp2
   go_ret
   exact ⟨rfl, hbx⟩
 ·obtain rfl : a = some ⟨b, o, none⟩ := hab
  have hlim : kids.len ≤ 140737488351232 := hlim
  show Calls _ _ #[.agg #[.string op, .string name, .int .i64 n, .int .i64 pos, .slice (some ⟨b, o, none⟩) kids.len cap], .int .i64 m] w _
  rw [hdp]
  have hst := Tail.start hin hk
  have hbc := box_cell w op name n pos (some ⟨b, o, none⟩) kids.len cap
  have HBC := Lib.hid hbc
  clear hk hin hdp hbc
  go_enter Tryz.func78, Tryz.ntmps78
  have HS := Lib.hid hst
  clear hst
  go_wp2
  go_loopw [5, 6] (fun s i wr => ∃ (k : Nat) (z : Int) (R : Fo), s = .int .i64 z ∧ i = .int .i64 k ∧ 0 ≤ z ∧ z ≤ m - 1 ∧ RowKit.Hid (max z (min R.deep (m - 1)) = min (kids.deep : Int) (m - 1)) ∧ RowKit.Hid (Tail wr RDeepC kids R b o k) ∧ RowKit.Hid (wr.cell? ⟨w.heap.size, 4, none⟩ = some (.slice (some ⟨b, o, none⟩) kids.len cap)) ∧ w.heap.size < wr.heap.size ∧ Below w.heap.size w wr) (fun _ i _ => kids.len - (intOf i).toNat)
  case atStart =>
   refine ⟨0, 0, kids, rfl, rfl, by omega, by omega, Lib.hid (by omega), Lib.hid (HS.out.below ((Below.refl _ _).alloc (Nat.le_refl _) _)), HBC, by rw [alloc_size]; omega, (Below.refl _ _).alloc (Nat.le_refl _) _⟩
  case round =>
   obtain ⟨k, z, R, rfl, rfl, hz1, hzm, HM, HT, HBX, hsx, hbx⟩ := hrel
   have hbox := HBX.out
   cases R with
   | nil =>
    have hkl : k = kids.len := by have := HT.out.len; simpa [Fo.len] using this
    have hres : min (((kids.deep + 1 : Nat) : Int)) m = z + 1 := by
     have h1 := HM.out
     have h2 : max z (min ((0 : Nat) : Int) (m - 1)) = min (kids.deep : Int) (m - 1) := h1
     omega
    have HR := Lib.hid hres
    subst hkl
    clear HM HT HS hres HBX HBC
    go_wp2
    go_ret
    exact ⟨by rw [HR.out]; rfl, hbx⟩
   | cons op1 name1 n1 pos1 a1 cap1 kids1 rest =>
    obtain ⟨hnode, hin1, hP, hkl, hnext⟩ := HT.out.next
    have hkl' : (k : Int) < kids.len := by omega
    obtain ⟨c0, c1, c2, c3, c4⟩ := hnode
    have HN := Lib.hid hnext
    have hcall := hP (m - 1) wr (by omega) (by omega) hin1
    rw [Nd.val_def] at hcall
    have HC := Lib.hid hcall
    clear hcall hP hnext hin1 HT HS HBC
    go_wp2_with fail
    refine HC.out.mono ?_
    rintro e w2 ⟨rfl, hb2⟩
    have hbx2 := hbx.trans (hb2.mono hbx.size)
    have hd1 : (((Nd.mk op1 name1 n1 pos1 a1 cap1 kids1).deep : Nat) : Int) = kids1.deep + 1 := rfl
    generalize hy : min (((Nd.mk op1 name1 n1 pos1 a1 cap1 kids1).deep : Nat) : Int) (m - 1) = y
    have hy0 : 0 ≤ y ∧ y ≤ m - 1 := by omega
    have HT2 := HN.out.below hb2
    have HX2 := cell_below hb2 HBX.out
    have hsx2 : w.heap.size < w2.heap.size := Nat.lt_of_lt_of_le hsx hb2.size
    have HM2 : max (max z y) (min (rest.deep : Int) (m - 1)) = min (kids.deep : Int) (m - 1) := by
     rw [← HM.out]
     have : (((Fo.cons op1 name1 n1 pos1 a1 cap1 kids1 rest).deep : Nat) : Int) = max ((kids1.deep : Int) + 1) (rest.deep : Int) := by show ((max (kids1.deep + 1) rest.deep : Nat) : Int) = _; omega
     omega
    have HM3 := Lib.hid HM2
    have HT3 := Lib.hid HT2
    have HX3 := Lib.hid HX2
    clear HM HN HM2 HT2 HX2 HC hy hd1 hb2 HBX hbox
    have hmx : 0 ≤ max z y ∧ max z y ≤ m - 1 := by omega
    go_wp2
    go_roundw
    case rel => exact ⟨k + 1, max z y, rest, by go_num, by go_num, by omega, by omega, HM3, HT3, HX3, hsx2, hbx2⟩
    case measure => (try simp [intOf]); omega
end Go.Proofs.YtmpcmpeloebnhaaGreatDoor
