/- The walk of LexNumbers. -/
import Derived.Test.YtaejbjcajilagaaDoorLexKnown
import Derived.Test.YtaejbjcajilagaaDoorLexNumbersP
import Derived.Test.YtaejbjcajilagaaDoorLexPure2
import Derived.Test.YtaejbjcajilagaaDoorRows
import Derived.WalkKit
import Derived.WalkLawsBesides
import Derived.WalkSpells
import Derived.ProofKit
import Derived.Outline
import Derived.Deep.QuietTactic
import Derived.BigQuiet
import Derived.Deep.Light
import Derived.Deep.CutBlock
import Derived.Deep.DeepCutAuto
import Derived.Deep.DeepFit
import Derived.Deep.LoopGhost
import Derived.Lib.Hide
import Derived.Lib.OthersKept
import Derived.IntWalk
import Derived.StillTailTactics
namespace Go.Proofs.YtaejbjcajilagaaDoor
open Go.RowKit
theorem conv_one (w : World) (k : Nat) (b : Int) (hb : b = 48 + (k : Int) % 10) : (convert 37 9 (.slice (some ⟨w.heap.size, 0, none⟩) 1 1)).run Tryd.prog (w.alloc (.cells #[.int .u8 b] 5)) = .ok (.string ⟨#[digB k]⟩) (w.alloc (.cells #[.int .u8 b] 5)) :=
  run_convert_bytes_back _ 37 9 5 ⟨w.heap.size, 0, none⟩ 1 [digB k] Tryd.underlying37 Tryd.underlying5 Tryd.underlying9 (fun j hj => by
    obtain rfl : j = 0 := by simpa using hj
    rw [hb]
    simp [Addr.add, digB_nat])
set_option maxRecDepth 100000 in
set_option maxHeartbeats 4000000 in
theorem numbers_walk (n z : Int) (w : World) (hT : LTabs w) :
    Calls Tryd.prog 6 #[.int .i64 n, .int .i64 z] w fun e w' => e = .returned (.bool true) ∧ Below w.heap.size w w' := by
  by_cases hr : (0 ≤ n ∧ n ≤ 1000) ∧ (0 ≤ z ∧ z ≤ 3)
  · obtain ⟨⟨hn0, hn1⟩, hz0, hz1⟩ := hr
    obtain ⟨N, rfl⟩ : ∃ N : Nat, n = N := ⟨n.toNat, by omega⟩
    obtain ⟨Z, rfl⟩ : ∃ Z : Nat, z = Z := ⟨z.toNat, by omega⟩
    go_enter Tryd.func6, Tryd.ntmps6
    go_wp2
    go_loopg [5, 6] 4 (fun gf v5 v6 wx => ∃ (k : Nat) (s : ByteArray), v5 = .string s ∧ v6 = .int .i64 k ∧ Hid (numStr gf k s = numStr 4 N ⟨#[]⟩) ∧ k ≤ 1000 ∧ k < 10 ^ gf ∧ s.size + gf = 4 ∧ Below w.heap.size w wx)
    case atStart => exact ⟨N, ⟨#[]⟩, rfl, rfl, (rfl : numStr 4 N _ = _), by omega, by omega, rfl, Below.refl _ _⟩
    case round =>
      obtain ⟨k, s, rfl, rfl, HN, hk1, hkf, hsz, hbx⟩ := hrel
      by_cases hc : 0 < k ∨ s.size = 0
      · obtain ⟨g', rfl⟩ : ∃ g', gk = g' + 1 := by
          refine ⟨gk - 1, ?_⟩
          rcases Nat.eq_zero_or_pos gk with h | h
          · subst h; simp at hkf; omega
          · omega
        have H1 := numStr_one g' k s hc
        have HN1 := Lib.hid (H1.symm.trans HN.out)
        have hkd : k / 10 < 10 ^ g' := by rw [Nat.pow_succ] at hkf; omega
        clear H1 HN
        rcases (show (0 < (k : Int)) ∨ (¬ 0 < (k : Int) ∧ s.toList = []) by
          rcases hc with h | h
          · left; omega
          · by_cases h0 : 0 < k
            · left; omega
            · right; exact ⟨by omega, by rw [Lib.toList_data]; exact List.eq_nil_of_length_eq_zero (by rw [← Lib.size_eq]; exact h)⟩) with h0 | ⟨h0, hnil⟩
        · have hcv := conv_one wr k _ rfl
          have HKD := Lib.hid hkd
          clear hkd hkf hc
          go_wp2
          go_roundg g'
          case rel => exact ⟨k / 10, _, rfl, by go_num, HN1.out, by omega, HKD.out, by rw [one_size]; omega, hbx.alloc hbx.size _⟩
          case measure => omega
        · obtain rfl : k = 0 := by omega
          have hcv := conv_one wr 0 48 rfl
          have HKD := Lib.hid hkd
          clear hkd hkf hc h0
          go_wp2
          go_roundg g'
          case rel => exact ⟨0, _, rfl, by go_num, HN1.out, by omega, HKD.out, by rw [one_size]; omega, hbx.alloc hbx.size _⟩
          case measure => omega
      · have hs : s = numStr 4 N ⟨#[]⟩ := by have := numStr_end gk k s hc; rw [HN.out] at this; exact this.symm
        have HS := Lib.hid hs
        have h0 : ¬ 0 < (k : Int) := by omega
        have hnil : ¬ s.toList = [] := by
          intro h
          rw [Lib.toList_data] at h
          exact hc (Or.inr (by rw [Lib.size_eq, h]; rfl))
        have hnil2 : s.toList.isEmpty = false := by cases h : s.toList with | nil => exact (hnil h).elim | cons a l => rfl
        have hbz := hbx.size
        obtain rfl : k = 0 := by omega
        clear HN hc hs hkf h0
        go_wp2
        go_loopw [5, 7] (fun v i wy => ∃ (j : Nat), v = .string (zs j s) ∧ i = .int .i64 j ∧ j ≤ Z ∧ Below w.heap.size w wy) (fun _ i _ => Z - (intOf i).toNat)
        case atStart => exact ⟨0, rfl, rfl, by omega, hbx⟩
        case round =>
          obtain ⟨j, rfl, rfl, hj, hby⟩ := hrel
          have hzsz : (zs j s).size ≤ 8 := by rw [zs_size]; omega
          by_cases hjz : j < Z
          · go_wp2
            go_roundw
            case rel => exact ⟨j + 1, rfl, by go_num, by omega, hby⟩
            case measure => simp [intOf]; omega
          · obtain rfl : j = Z := by omega
            have htx : (⟨#[32]⟩ : ByteArray) ++ zs j s = numText N j := by rw [HS.out]; rfl
            have hxs : (numText N j).size ≤ 1000000 := by rw [← htx, one_size]; omega
            have HTX := Lib.hid htx
            clear htx HS
            by_cases hok : j = 0 ∧ N ≤ 99
            · obtain ⟨t1, t2, at', ht, hn⟩ := num_yes N j (by omega) (by omega) hok
              obtain ⟨rfl, h99⟩ := hok
              have HT := Lib.hid ht
              have h99' : (N : Int) ≤ 99 := by omega
              clear ht h99
              go_wp2_with fail
              rw [HTX.out]
              refine (tokens_is _ _ _ _ _ (hT.below hby) hxs HT.out).mono ?_
              rintro e w2 ⟨v2, rfl, hown2, hb2⟩
              obtain ⟨g2, p2, rfl⟩ : ∃ g cap, v2 = .slice (some ⟨g, 0, none⟩) 2 cap := by
                obtain ⟨a, cap, rfl, hs⟩ := tok_slice hown2
                obtain ⟨g, rfl⟩ := hs (by simp)
                exact ⟨g, cap, rfl⟩
              have e2 := (hown2.cellAt 2 (by decide)).trans (show _ = some (Value.int .i64 t1.n) from rfl)
              rw [hn] at e2
              have hb3 : Below w.heap.size w w2 := hby.trans (hb2.mono hby.size)
              clear hown2 hn
              go_wp2_with fail
              refine (known_any _ ((hT.below hby).below hb2)).mono ?_
              rintro e w5 ⟨rfl, hb5⟩
              go_wp2
              go_ret
              exact ⟨rfl, hb3.trans (hb5.mono hb3.size)⟩
            · have HT := Lib.hid (num_no N j (by omega) (by omega) hok)
              go_wp2_with fail
              rw [HTX.out]
              refine (tokens_is _ _ _ _ _ (hT.below hby) hxs HT.out).mono ?_
              rintro e w2 ⟨v2, rfl, hown2, hb2⟩
              have hb3 : Below w.heap.size w w2 := hby.trans (hb2.mono hby.size)
              clear hown2
              rcases (show ((0 : Nat) < j) ∨ (j = 0 ∧ 99 < N) by omega) with hj0 | ⟨rfl, h99⟩
              · have hj1 : ((j : Int) == 0) = false := by rw [beq_eq_false_iff_ne]; omega
                clear hok
                go_wp2_with fail
                refine (known_any _ ((hT.below hby).below hb2)).mono ?_
                rintro e w5 ⟨rfl, hb5⟩
                go_wp2
                go_ret
                exact ⟨rfl, hb3.trans (hb5.mono hb3.size)⟩
              · have h99' : ¬ (N : Int) ≤ 99 := by omega
                clear hok
                go_wp2_with fail
                refine (known_any _ ((hT.below hby).below hb2)).mono ?_
                rintro e w5 ⟨rfl, hb5⟩
                go_wp2
                go_ret
                exact ⟨rfl, hb3.trans (hb5.mono hb3.size)⟩
  · rcases (show n < 0 ∨ (0 ≤ n ∧ 1000 < n) ∨ ((0 ≤ n ∧ n ≤ 1000) ∧ z < 0) ∨ ((0 ≤ n ∧ n ≤ 1000) ∧ 0 ≤ z ∧ 3 < z) by omega) with h | ⟨h, h2⟩ | ⟨⟨h, h2⟩, h3⟩ | ⟨⟨h, h2⟩, h3, h4⟩
    all_goals
      go_enter Tryd.func6, Tryd.ntmps6
      go_wp2
      go_ret
      exact ⟨rfl, Below.refl _ _⟩
end Go.Proofs.YtaejbjcajilagaaDoor
