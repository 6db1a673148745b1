/- The walk of LexWords. -/
import Derived.Test.YtaejbjcajilagaaDoorLexKnown
import Derived.Test.YtaejbjcajilagaaDoorLexPure2
import Derived.Test.YtaejbjcajilagaaDoorRows
import Derived.WalkKit
import Derived.WalkLawsBesides
import Derived.WalkSpells
import Derived.ProofKit
import Derived.Outline
import Derived.Deep.QuietTactic
import Derived.BigQuiet
import Derived.Deep.Light
import Derived.Deep.CutBlock
import Derived.Deep.DeepCutAuto
import Derived.Deep.DeepFit
import Derived.Deep.LoopGhost
import Derived.Lib.Hide
import Derived.Lib.OthersKept
import Derived.IntWalk
import Derived.StillTailTactics
namespace Go.Proofs.YtaejbjcajilagaaDoor
open Go.RowKit
theorem words_toks : ∀ k : Fin 17, (toks (wrds[k.1]'k.2) = ([⟨3, wrds[k.1]'k.2, 0, 0⟩, ⟨4, ⟨#[]⟩, 0, ((wrds[k.1]'k.2).size : Int)⟩], ((wrds[k.1]'k.2).size : Int), 0)) ∧ toks ((wrds[k.1]'k.2) ++ ⟨#[120]⟩) = ([⟨1, (wrds[k.1]'k.2) ++ ⟨#[120]⟩, 0, 0⟩, ⟨4, ⟨#[]⟩, 0, (((wrds[k.1]'k.2) ++ ⟨#[120]⟩).size : Int)⟩], (((wrds[k.1]'k.2) ++ ⟨#[120]⟩).size : Int), 0) ∧ (wrds[k.1]'k.2).size ≤ 5 := by decide +kernel
theorem rwords_any (w : World) :
    Calls Tryd.prog 13 #[] w fun e w' => e = .returned (wrdsV w.heap.size) ∧ w' = w.alloc (.cells wrdsCells 9) := by
  go_enter Tryd.func13, Tryd.ntmps13
  go_wp2
  go_ret
  exact ⟨rfl, rfl⟩
set_option maxRecDepth 100000 in
set_option maxHeartbeats 4000000 in
theorem words_walk (i : Int) (w : World) (hT : LTabs w) :
    Calls Tryd.prog 4 #[.int .i64 i] w fun e w' => e = .returned (.bool true) ∧ Below w.heap.size w w' := by
  by_cases hi : 0 ≤ i ∧ i < 17
  · obtain ⟨k, rfl⟩ : ∃ k : Nat, i = k := ⟨i.toNat, by omega⟩
    have hk : k < 17 := by omega
    clear hi
    obtain ⟨t1, t2, hsz⟩ := words_toks ⟨k, hk⟩
    have hwd : wrds.getD k ByteArray.empty = wrds[k]'hk := by rw [List.getD_eq_getElem?_getD, List.getElem?_eq_getElem hk]; rfl
    obtain ⟨x, hx⟩ : ∃ x, x = wrds[k]'hk := ⟨_, rfl⟩
    rw [← hx] at hwd t1 t2 hsz
    have T1 := Lib.hid t1
    have T2 := Lib.hid t2
    have HW := Lib.hid hwd
    clear t1 t2 hx hwd
    go_enter Tryd.func4, Tryd.ntmps4
    go_wp2_with fail
    refine (rwords_any _).mono ?_
    rintro e w1 ⟨rfl, rfl⟩
    go_wp2_with fail
    refine (words_any _ (hT.below ((Below.refl _ _).alloc (Nat.le_refl _) _)).sp).mono ?_
    rintro e w1 ⟨rfl, rfl⟩
    have hT2 : LTabs ((w.alloc (.cells wrdsCells 9)).alloc (.cells wrdsCells 9)) := hT.below (((Below.refl _ _).alloc (Nat.le_refl _) _).alloc (by simp) _)
    have c2 := wrds_cells (w.alloc (.cells wrdsCells 9)) k hk
    have c1 : ((w.alloc (.cells wrdsCells 9)).alloc (.cells wrdsCells 9)).cell? ⟨w.heap.size, k, none⟩ = some (.string x) := by
      rw [Below.cell ((Below.refl (w.alloc (.cells wrdsCells 9)).heap.size _).alloc (Nat.le_refl _) _) (by simp), wrds_cells w k hk, HW.out]
    rw [HW.out] at c2
    obtain ⟨W, hW⟩ : ∃ W, W = (w.alloc (.cells wrdsCells 9)).alloc (.cells wrdsCells 9) := ⟨_, rfl⟩
    have hbW : Below w.heap.size w W := by rw [hW]; exact ((Below.refl _ _).alloc (Nat.le_refl _) _).alloc (by simp) _
    have hWs : W.heap.size = w.heap.size + 2 := by rw [hW]; simp
    rw [← hW] at hT2 c1 c2 ⊢
    have hs2 : (w.alloc (.cells wrdsCells 9)).heap.size = w.heap.size + 1 := by simp
    rw [hs2] at c2
    clear hs2 hW
    have HWs := Lib.hid hWs
    clear hWs
    unfold wrdsV
    go_wp2_with fail
    go_quiet (fail)
    go_wp2_with fail
    refine (tokens_is _ _ _ _ _ (hT2.below (below_drewN (Below.refl _ _) _)) (by omega) T1.out).mono ?_
    rintro e w2 ⟨v2, rfl, hown2, hb2⟩
    have hbd : Below W.heap.size W w2 := (below_drewN (Below.refl _ _) _).trans hb2
    have hz2 := hbd.size
    have d1 : w2.cell? ⟨w.heap.size, k, none⟩ = some (.string x) := by rw [hbd.cell (by have := HWs.out; simp; omega)]; exact c1
    go_wp2_with fail
    refine (tokens_is _ _ _ _ _ (hT2.below hbd) (by simp [ByteArray.size_append]; show x.size + 1 ≤ 1000000; omega) T2.out).mono ?_
    rintro e w3 ⟨v3, rfl, hown3, hb3⟩
    have d2 : w3.cell? ⟨w.heap.size, k, none⟩ = some (.string x) := by rw [hb3.cell (by have := HWs.out; simp; omega)]; exact d1
    have hown2' := own_below hown2 hb3
    obtain ⟨g2, p2, rfl⟩ : ∃ g cap, v2 = .slice (some ⟨g, 0, none⟩) 2 cap := by
      obtain ⟨a, cap, rfl, hs⟩ := tok_slice hown2
      obtain ⟨g, rfl⟩ := hs (by simp)
      exact ⟨g, cap, rfl⟩
    obtain ⟨g3, p3, rfl⟩ : ∃ g cap, v3 = .slice (some ⟨g, 0, none⟩) 2 cap := by
      obtain ⟨a, cap, rfl, hs⟩ := tok_slice hown3
      obtain ⟨g, rfl⟩ := hs (by simp)
      exact ⟨g, cap, rfl⟩
    have e20 := (hown2'.cellAt 0 (by decide)).trans (show _ = some (Value.int .i64 3) from rfl)
    have e21 := (hown2'.cellAt 1 (by decide)).trans (show _ = some (Value.string x) from rfl)
    have e30 := (hown3.cellAt 0 (by decide)).trans (show _ = some (Value.int .i64 1) from rfl)
    have e31 := (hown3.cellAt 1 (by decide)).trans (show _ = some (Value.string (x ++ ⟨#[120]⟩)) from rfl)
    have hT3 : LTabs w3 := (hT2.below hbd).below hb3
    have hbd3 : Below W.heap.size W w3 := hbd.trans (hb3.mono hz2)
    clear hown2 hown2' hown3 hb2 hb3 T1 T2 c1 c2 d1
    go_wp2_with fail
    go_still_tail 54, (by kernel_rfl)
    refine wpStill_step (fun K hK => ?_)
    go_simp
    rw [if_neg (by omega)]
    refine ⟨rfl, hK _ ?_⟩
    clear hK K
    repeat still_step
    refine wpStill_nil ?_
    change wpList _ _ _ _ _ w3.drew
    have hb4 : Below w3.heap.size w3 w3.drew := (Below.refl w3.heap.size w3).trans ⟨rfl, rfl, rfl, Nat.le_refl _, fun _ _ => rfl⟩
    have hT4 := hT3.below hb4
    have hbd4 : Below w.heap.size w w3.drew := hbW.trans ((hbd3.trans (hb4.mono hbd3.size)).mono hbW.size)
    generalize w3.drew = w4 at hT4 hbd4 ⊢
    clear hb4 hT3 hbd3 hT2
    go_wp2_with fail
    refine (known_any _ hT4).mono ?_
    rintro e w5 ⟨rfl, hb5⟩
    go_wp2
    go_ret
    exact ⟨rfl, hbd4.trans (hb5.mono hbd4.size)⟩
  · rcases (show i < 0 ∨ (0 ≤ i ∧ 17 ≤ i) by omega) with h | ⟨h, h2⟩
    all_goals
      go_enter Tryd.func4, Tryd.ntmps4
      go_wp2_with fail
      refine (rwords_any _).mono ?_
      rintro e w1 ⟨rfl, rfl⟩
      go_wp2_with fail
      refine (words_any _ (hT.below ((Below.refl _ _).alloc (Nat.le_refl _) _)).sp).mono ?_
      rintro e w1 ⟨rfl, rfl⟩
      unfold wrdsV
      go_wp2
      go_ret
      exact ⟨rfl, ((Below.refl _ _).alloc (Nat.le_refl _) _).alloc (by simp) _⟩
end Go.Proofs.YtaejbjcajilagaaDoor
