/- The walk of LexLong. -/
import Derived.Test.YtaejbjcajilagaaDoorLexKnown
import Derived.Test.YtaejbjcajilagaaDoorLexLongP
import Derived.Test.YtaejbjcajilagaaDoorLexPure2
import Derived.Test.YtaejbjcajilagaaDoorRows
import Derived.WalkKit
import Derived.WalkLawsBesides
import Derived.WalkSpells
import Derived.ProofKit
import Derived.Outline
import Derived.Deep.QuietTactic
import Derived.BigQuiet
import Derived.Deep.Light
import Derived.Deep.CutBlock
import Derived.Deep.DeepCutAuto
import Derived.Deep.DeepFit
import Derived.Deep.LoopGhost
import Derived.Lib.Hide
import Derived.Lib.OthersKept
import Derived.IntWalk
import Derived.StillTailTactics
namespace Go.Proofs.YtaejbjcajilagaaDoor
open Go.RowKit
theorem Tryd.infoU8 : (Tryd.prog.info? 5).map (fun i => (i.zero, i.size, i.bytes)) = some (some (.int .u8 0), 1, 1) := by kernel_rfl
/-- The first k cells are blanks, the others are 0. -/
def blk (m k : Nat) : List Value := List.replicate k (.int .u8 32) ++ List.replicate (m - k) (.int .u8 0)
theorem blk_set (m k : Nat) (h : k < m) : (blk m k).set k (.int .u8 32) = blk m (k + 1) := by
  unfold blk
  rw [List.set_append_right _ _ (by simp), List.length_replicate, Nat.sub_self, show m - k = (m - (k + 1)) + 1 by omega, List.replicate_succ, List.set_cons_zero, List.replicate_succ', List.append_assoc]
  rfl
theorem blk_at (m k : Nat) (h : k < m) : (blk m k)[k]? = some (.int .u8 0) := by
  unfold blk
  rw [List.getElem?_append_right (by simp), List.length_replicate, Nat.sub_self, List.getElem?_replicate]
  rw [if_pos (by omega)]
theorem blk_full (m j : Nat) (h : j < m) : (blk m m)[j]? = some (.int .u8 32) := by
  unfold blk
  rw [Nat.sub_self, List.replicate_zero, List.append_nil, List.getElem?_replicate, if_pos h]
theorem conv_bl (w : World) (g m c : Nat) (hc : ∀ j, j < m → w.cell? ⟨g, j, none⟩ = some (.int .u8 32)) : (convert 37 9 (.slice (some ⟨g, 0, none⟩) m c)).run Tryd.prog w = .ok (.string (bl m)) w := by
  have h := run_convert_bytes_back (P := Tryd.prog) w 37 9 5 ⟨g, 0, none⟩ c (List.replicate m (32 : UInt8)) Tryd.underlying37 Tryd.underlying5 Tryd.underlying9 (fun j hj => by
    have hj' : j < m := by simpa using hj
    have h1 := hc j hj'
    have h2 : (⟨g, 0, none⟩ : Addr).add j = ⟨g, j, none⟩ := by unfold Addr.add; split <;> simp_all
    rw [h2, h1]
    simp)
  rw [List.length_replicate] at h
  exact h
set_option maxRecDepth 100000 in
set_option maxHeartbeats 4000000 in
theorem long_walk (n m : Int) (w : World) (hT : LTabs w) :
    Calls Tryd.prog 7 #[.int .i64 n, .int .i64 m] w fun e w' => e = .returned (.bool true) ∧ Below w.heap.size w w' := by
  by_cases hr : (1 ≤ n ∧ n ≤ 20) ∧ (0 ≤ m ∧ m ≤ 2100)
  · obtain ⟨⟨hn0, hn1⟩, hm0, hm1⟩ := hr
    obtain ⟨N, rfl⟩ : ∃ N : Nat, n = N := ⟨n.toNat, by omega⟩
    obtain ⟨M, rfl⟩ : ∃ M : Nat, m = M := ⟨m.toNat, by omega⟩
    obtain ⟨i0, hi, hz0, hz1, hz2⟩ := info_parts Tryd.infoU8
    go_enter Tryd.func7, Tryd.ntmps7
    go_wp2
    go_loop [5, 6] (fun v i => ∃ k : Nat, v = .string (al k) ∧ i = .int .i64 k ∧ k ≤ N) (fun _ i => N - (intOf i).toNat)
    case atStart => exact ⟨0, rfl, rfl, by omega⟩
    case round =>
      obtain ⟨k, rfl, rfl, hk⟩ := hrel
      have hasz : (al k).size ≤ 40 := by rw [al_size]; omega
      by_cases hkn : k < N
      · go_wp2
        go_round
        case rel => exact ⟨k + 1, rfl, by go_num, by omega⟩
        case measure => simp [intOf]; omega
      · obtain rfl : k = N := by omega
        have htk := al_toks ⟨k, by omega⟩ (by show 1 ≤ k; omega)
        simp only [] at htk
        have hmain : ∀ (l : List Tok) (at' err : Int), toks (al k) = (l, at', err) → (err = 0 ∧ k ≤ 12 ∧ ∃ t1 t2, l = [t1, t2] ∧ t1.text = al k) ∨ (err = 2 ∧ at' = 0 ∧ 12 < k ∧ l = []) := by
          intro l at' err h
          by_cases h12 : k ≤ 12
          · have := htk.1 h12
            rw [h] at this
            simp only [Prod.mk.injEq] at this
            exact .inl ⟨this.2.2, h12, _, _, this.1, rfl⟩
          · have := htk.2 (by omega)
            rw [h] at this
            simp only [Prod.mk.injEq] at this
            exact .inr ⟨this.2.2, this.2.1, by omega, this.1⟩
        obtain ⟨⟨l, at', err⟩, hl⟩ : ∃ r, toks (al k) = r := ⟨_, rfl⟩
        have hcs := hmain l at' err hl
        have HL := Lib.hid hl
        have HC := Lib.hid hcs
        clear hl hcs hmain htk
        go_wp2_with fail
        refine (tokens_is _ l at' err _ hT (by omega) HL.out).mono ?_
        rintro e w2 ⟨v2, rfl, hown2, hb2⟩
        have hbz := hb2.size
        obtain ⟨W0, hmk, hown0, hg0⟩ := run_makeSlice_full (P := Tryd.prog) w2 w2.heap.size 37 5 i0 _ 1 Tryd.underlying37 hi hz0 hz1 .i64 .i64 M (by omega) (by rw [hz2]; omega) (by unfold maxLen; omega) (Nat.le_refl _)
        rw [show (madeCells (Value.int .u8 0).cells (M * 1)).toList = blk M 0 by rw [Nat.mul_one]; show (madeCells #[Value.int .u8 0] M).toList = _; rw [toList_madeCells_one]; rfl] at hown0
        have hb0 : Below w2.heap.size w2 W0 := (Below.refl _ w2).grown hg0 (Nat.le_refl _) (fun k hk => by cases hk)
        go_wp2
        go_loopw [11] (fun v wr => ∃ j : Nat, v = .int .i64 j ∧ j ≤ M ∧ wr.ownsRow w2.heap.size 5 1 (.slice (some ⟨w2.heap.size, 0, none⟩) M M) M (blk M j) ∧ Below w2.heap.size w2 wr) (fun v _ => M - (intOf v).toNat)
        case atStart => exact ⟨0, rfl, by omega, hown0, hb0⟩
        case round =>
          obtain ⟨j, rfl, hj, hownr, hbr⟩ := hrel
          clear hown0 hb0 hmk hg0
          by_cases hjm : j < M
          · have hc := (hownr.cellAt j (by omega)).trans (blk_at M j hjm)
            have hf := hownr.frozenAt j
            have hst := (hownr.stored j (.int .u8 32)).1
            rw [blk_set M j hjm] at hst
            clear hownr
            go_wp2
            go_roundw
            case rel => exact ⟨j + 1, by go_num, by omega, hst, hbr.setCell (by simp) _⟩
            case measure => simp [intOf]; omega
          · obtain rfl : j = M := by omega
            have hcv := conv_bl wr w2.heap.size j j (fun x hx => (hownr.cellAt x (by omega)).trans (blk_full j x hx))
            have hbt := bl_toks j
            have hbs := bl_size j
            have HBS := Lib.hid hbs
            have hown2' := own_below hown2 hbr
            have hbw : Below w.heap.size w wr := hb2.trans (hbr.mono hbz)
            clear hownr hown2 hbs
            obtain ⟨bx, hbx⟩ : ∃ bx, bx = bl j := ⟨_, rfl⟩
            rw [← hbx] at hcv hbt
            have HBX := Lib.hid hbx
            have hsz : bx.size ≤ 1000000 := by rw [hbx, HBS.out]; omega
            clear hbx
            by_cases h2000 : j ≤ 2000
            · rw [if_pos h2000] at hbt
              have h2i : (j : Int) ≤ 2000 := by omega
              have HB := Lib.hid hbt
              clear hbt h2000
              rcases HC.out with ⟨rfl, hk12, t1, t2, rfl, ht1⟩ | ⟨rfl, rfl, hk12, rfl⟩
              · have hki : (k : Int) ≤ 12 := by omega
                clear HC hk12
                obtain ⟨g2, p2, rfl⟩ : ∃ g cap, v2 = .slice (some ⟨g, 0, none⟩) 2 cap := by
                  obtain ⟨a, cap, rfl, hs⟩ := tok_slice hown2'
                  obtain ⟨g, rfl⟩ := hs (by simp)
                  exact ⟨g, cap, rfl⟩
                go_wp2_with fail
                refine (tokens_is _ _ _ _ _ (hT.below hbw) hsz HB.out).mono ?_
                rintro e w5 ⟨v5, rfl, hown5, hb5⟩
                have hownA := own_below hown2' hb5
                have e1 := (hownA.cellAt 1 (by decide)).trans (show _ = some (Value.string t1.text) from rfl)
                rw [ht1] at e1
                have hb6 : Below w.heap.size w w5 := hbw.trans (hb5.mono hbw.size)
                clear hown5 hown2' hownA ht1
                go_wp2_with fail
                refine (known_any _ ((hT.below hbw).below hb5)).mono ?_
                rintro e w7 ⟨rfl, hb7⟩
                go_wp2
                go_ret
                exact ⟨rfl, hb6.trans (hb7.mono hb6.size)⟩
              · have hki : ¬ (k : Int) ≤ 12 := by omega
                clear HC hk12 hown2'
                go_wp2_with fail
                refine (tokens_is _ _ _ _ _ (hT.below hbw) hsz HB.out).mono ?_
                rintro e w5 ⟨v5, rfl, hown5, hb5⟩
                have hb6 : Below w.heap.size w w5 := hbw.trans (hb5.mono hbw.size)
                clear hown5
                go_wp2_with fail
                refine (known_any _ ((hT.below hbw).below hb5)).mono ?_
                rintro e w7 ⟨rfl, hb7⟩
                go_wp2
                go_ret
                exact ⟨rfl, hb6.trans (hb7.mono hb6.size)⟩
            · rw [if_neg h2000] at hbt
              have h2i : (2000 : Int) < (j : Int) := by omega
              have h2j : decide ((j : Int) ≤ 2000) = false := by rw [decide_eq_false_iff_not]; omega
              have HB := Lib.hid hbt
              clear hbt h2000
              rcases HC.out with ⟨rfl, hk12, t1, t2, rfl, ht1⟩ | ⟨rfl, rfl, hk12, rfl⟩
              · have hki : (k : Int) ≤ 12 := by omega
                clear HC hk12
                obtain ⟨g2, p2, rfl⟩ : ∃ g cap, v2 = .slice (some ⟨g, 0, none⟩) 2 cap := by
                  obtain ⟨a, cap, rfl, hs⟩ := tok_slice hown2'
                  obtain ⟨g, rfl⟩ := hs (by simp)
                  exact ⟨g, cap, rfl⟩
                go_wp2_with fail
                refine (tokens_is _ _ _ _ _ (hT.below hbw) hsz HB.out).mono ?_
                rintro e w5 ⟨v5, rfl, hown5, hb5⟩
                have hownA := own_below hown2' hb5
                have e1 := (hownA.cellAt 1 (by decide)).trans (show _ = some (Value.string t1.text) from rfl)
                rw [ht1] at e1
                have hb6 : Below w.heap.size w w5 := hbw.trans (hb5.mono hbw.size)
                clear hown5 hown2' hownA ht1
                go_wp2_with fail
                refine (known_any _ ((hT.below hbw).below hb5)).mono ?_
                rintro e w7 ⟨rfl, hb7⟩
                go_wp2
                go_ret
                exact ⟨rfl, hb6.trans (hb7.mono hb6.size)⟩
              · have hki : ¬ (k : Int) ≤ 12 := by omega
                clear HC hk12 hown2'
                go_wp2_with fail
                refine (tokens_is _ _ _ _ _ (hT.below hbw) hsz HB.out).mono ?_
                rintro e w5 ⟨v5, rfl, hown5, hb5⟩
                have hb6 : Below w.heap.size w w5 := hbw.trans (hb5.mono hbw.size)
                clear hown5
                go_wp2_with fail
                refine (known_any _ ((hT.below hbw).below hb5)).mono ?_
                rintro e w7 ⟨rfl, hb7⟩
                go_wp2
                go_ret
                exact ⟨rfl, hb6.trans (hb7.mono hb6.size)⟩
  · rcases (show n < 1 ∨ (1 ≤ n ∧ 20 < n) ∨ ((1 ≤ n ∧ n ≤ 20) ∧ m < 0) ∨ ((1 ≤ n ∧ n ≤ 20) ∧ 0 ≤ m ∧ 2100 < m) by omega) with h | ⟨h, h2⟩ | ⟨⟨h, h2⟩, h3⟩ | ⟨⟨h, h2⟩, h3, h4⟩
    all_goals
      go_enter Tryd.func7, Tryd.ntmps7
      go_wp2
      go_ret
      exact ⟨rfl, Below.refl _ _⟩
end Go.Proofs.YtaejbjcajilagaaDoor
