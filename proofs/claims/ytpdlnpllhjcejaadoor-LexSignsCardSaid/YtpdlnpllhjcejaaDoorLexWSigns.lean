/- The walk of LexSigns. -/
import Derived.Test.YtpdlnpllhjcejaaDoorLexSgs
import Derived.Deep.RegionHeld3
import Derived.Test.YtpdlnpllhjcejaaDoorLexLens
import Derived.Test.YtpdlnpllhjcejaaDoorLexKnown
import Derived.Test.YtpdlnpllhjcejaaDoorLexPure2
import Derived.Test.YtpdlnpllhjcejaaDoorRows
import Derived.WalkKit
import Derived.WalkLawsBesides
import Derived.WalkSpells
import Derived.ProofKit
import Derived.Outline
import Derived.Deep.QuietTactic
import Derived.BigQuiet
import Derived.Deep.Light
import Derived.Deep.CutBlock
import Derived.Deep.DeepCutAuto
import Derived.Deep.DeepFit
import Derived.Deep.LoopGhost
import Derived.Lib.Hide
import Derived.Lib.OthersKept
import Derived.IntWalk
import Derived.StillTailTactics
namespace Go.Proofs.YtpdlnpllhjcejaaDoor
open Go.RowKit
theorem odd_list (x : ByteArray) : x.data.toList = x.toList := by
  exact (ByteArray.toList_eq x).symm
/-- Whatever was there at w is there at w'. -/
def From (w w' : World) : Prop := Below w.heap.size w w'
theorem From.refl (w : World) : From w w := Below.refl _ _
theorem From.drew {w w' : World} (h : From w w') : From w w'.drew := Below.drew h
theorem tokens_held (s x y : ByteArray) (l : List Tok) (at' err : Int) (w0 w : World) (a b : Addr) (hT : LTabs w0) (ha : w.cell? a = some (.string x)) (hb : w.cell? b = some (.string y)) (hF : From w0 w) (ha0 : a.block < w0.heap.size) (hb0 : b.block < w0.heap.size) (hs : s.size ≤ 1000000) (h : RowKit.Hid (toks s = (l, at', err))) :
    Calls Tryd.prog 11 #[.string s] w fun e w' => ∃ c cap, e = .returned (.tuple #[.slice c l.length cap, .int .i64 at', .int .i64 err]) ∧ w'.cell? a = some (.string x) ∧ w'.cell? b = some (.string y) ∧ From w0 w' := by
  refine (tokens_is s l at' err w (hT.below hF) hs h.out).mono fun e w' hp => ?_
  obtain ⟨v, rfl, hown, hb'⟩ := hp
  obtain ⟨c, cap, rfl, _⟩ := tok_slice hown
  have hz : w0.heap.size ≤ w.heap.size := Below.size hF
  exact ⟨c, cap, rfl, by rw [hb'.cell (Nat.lt_of_lt_of_le ha0 hz)]; exact ha, by rw [hb'.cell (Nat.lt_of_lt_of_le hb0 hz)]; exact hb, Below.trans hF (hb'.mono hz)⟩
set_option maxRecDepth 100000 in
set_option maxHeartbeats 4000000 in
theorem signs_walk (a b : Int) (w : World) (hTT : LTabs w ∧ Lib.Utf8Tabs 1 2 w) :
    Calls Tryd.prog 4 #[.int .i64 a, .int .i64 b] w fun e w' => e = .returned (.bool true) ∧ Below w.heap.size w w' := by
  obtain ⟨hT, hU⟩ := hTT
  by_cases hr : (0 ≤ a ∧ a < 19) ∧ (0 ≤ b ∧ b < 19)
  · obtain ⟨⟨ha0, ha1⟩, hb0, hb1⟩ := hr
    obtain ⟨A, rfl⟩ : ∃ A : Nat, a = A := ⟨a.toNat, by omega⟩
    obtain ⟨B, rfl⟩ : ∃ B : Nat, b = B := ⟨b.toNat, by omega⟩
    have hA : A < sgs.length := by show A < 19; omega
    have hB : B < sgs.length := by show B < 19; omega
    go_enter Tryd.func4, Tryd.ntmps4
    go_wp2_with fail
    obtain ⟨W0, hW0⟩ : ∃ W0, W0 = w.alloc (.cells sgsCells 9) := ⟨_, rfl⟩
    have hC0 : W0.heap[w.heap.size]? = some (.cells sgsCells 9) := by rw [hW0]; exact alloc_at _ _
    have hb0 : Below w.heap.size w W0 := by rw [hW0]; exact (Below.refl _ _).alloc (Nat.le_refl _) _
    rw [sgs_lit, ← hW0]
    have hsz0 : w.heap.size < W0.heap.size := by rw [hW0]; simp
    clear hW0
    have cA := sgs_cell hC0 A hA
    have cB := sgs_cell hC0 B hB
    have mA : (sgs[A]'hA) ∈ sgs := List.getElem_mem _
    have mB : (sgs[B]'hB) ∈ sgs := List.getElem_mem _
    generalize (sgs[A]'hA) = x at cA mA
    generalize (sgs[B]'hB) = y at cB mB
    have hxs := (two_all x mA).1
    have hys := (two_all y mB).1
    clear hC0
    have hai : (A : Int) < 19 := by omega
    have hbi : (B : Int) < 19 := by omega
    obtain ⟨⟨l1, at1, e1⟩, ht1⟩ : ∃ r, toks (x ++ y) = r := ⟨_, rfl⟩
    obtain ⟨⟨l2, at2, e2⟩, ht2⟩ : ∃ r, toks (x ++ ⟨#[32]⟩ ++ y) = r := ⟨_, rfl⟩
    have hl1 := toks_len (x ++ y)
    rw [ht1, cat_size] at hl1
    simp only [] at hl1
    have hodd := two_of x y mA mB l2 at2 e2 ht2
    have HT1 := Lib.hid ht1
    have HT2 := Lib.hid ht2
    have HO := Lib.hid hodd
    clear ht1 ht2 hodd mA mB
    go_quiet (fail)
    have cA1 : (W0.drewN nq).cell? ⟨w.heap.size, A, none⟩ = some (.string x) := cA
    have cB1 : (W0.drewN nq).cell? ⟨w.heap.size, B, none⟩ = some (.string y) := cB
    have hb1 := below_drewN hb0 nq
    have hsz1 : w.heap.size < (W0.drewN nq).heap.size := hsz0
    generalize W0.drewN nq = W1 at cA1 cB1 hb1 hsz1 ⊢
    clear cA cB hb0 hsz0
    have hxy : (x ++ y).size ≤ 1000000 := by rw [cat_size]; omega
    go_wp2_with fail
    refine (tokens_is (x ++ y) l1 at1 e1 _ (hT.below hb1) hxy HT1.out).mono ?_
    rintro e w2 ⟨v2, rfl, hown2, hb2⟩
    have hbb2 : Below w.heap.size w w2 := hb1.trans (hb2.mono hb1.size)
    have cA2 : w2.cell? ⟨w.heap.size, A, none⟩ = some (.string x) := by rw [hb2.cell hsz1]; exact cA1
    have cB2 : w2.cell? ⟨w.heap.size, B, none⟩ = some (.string y) := by rw [hb2.cell hsz1]; exact cB1
    have hsz2 : w.heap.size < w2.heap.size := Nat.lt_of_lt_of_le hsz1 hb2.size
    clear cA1 cB1 hb1 hsz1 hb2
    go_wp2_with fail
    refine (rtokens_is (x ++ y) l1 at1 e1 _ (Utf8Tabs_below hU hbb2) hxy HT1.out).mono ?_
    rintro e w3 ⟨v3, rfl, hown3, hb3⟩
    have hbb3 : Below w.heap.size w w3 := hbb2.trans (hb3.mono hbb2.size)
    have cA3 : w3.cell? ⟨w.heap.size, A, none⟩ = some (.string x) := by rw [hb3.cell hsz2]; exact cA2
    have cB3 : w3.cell? ⟨w.heap.size, B, none⟩ = some (.string y) := by rw [hb3.cell hsz2]; exact cB2
    have hown2' := own_below hown2 hb3
    have hsz3 : w.heap.size < w3.heap.size := Nat.lt_of_lt_of_le hsz2 hb3.size
    clear cA2 cB2 hbb2 hsz2 hb3 hown2
    have hxz : (x ++ ⟨#[32]⟩ ++ y).size ≤ 1000000 := by rw [cat_size, cat_size]; show x.size + 1 + y.size ≤ 1000000; omega
    have hq1 : ¬ 9223372036854775807 < x.size + 1 := by omega
    have hq2 : ¬ 9223372036854775807 < x.size + 1 + y.size := by omega
    go_wp2_with fail
    have hT3 := hT.below hbb3
    have hcall := tokens_held (x ++ ⟨#[32]⟩ ++ y) x y l2 at2 e2 w3 w3.drew ⟨w.heap.size, A, none⟩ ⟨w.heap.size, B, none⟩ hT3 cA3 cB3 (From.refl w3).drew hsz3 hsz3 hxz HT2
    have HC := Lib.hid hcall
    clear hcall
    go_region_held3 (fun w' => w'.cell? ⟨w.heap.size, A, none⟩ = some (.string x) ∧ w'.cell? ⟨w.heap.size, B, none⟩ = some (.string y)) (go_keep)
      (first | (go_at_call 11; refine HC.out.mono ?_; rintro e w4 ⟨c4, cap4, rfl, d1, d2, d3⟩))
    clear HC cA3 cB3
    have hw2 := own_below hown2' d3
    have hw3 := own_below hown3 d3
    clear hown2' hown3
    have k1 : ((at1 : Int) == at1) = true := by simp
    have k2 : ((e1 : Int) == e1) = true := by simp
    have hxo : isOdd x = (x.toList == [62]) := by unfold isOdd; rw [odd_list]
    have hyo : isOdd y = (y.toList == [62]) := by unfold isOdd; rw [odd_list]
    by_cases hx : x.toList = [62]
    · have hxb : (x.toList == [62]) = true := by simp [hx]
      have ho := HO.out.1 (by rw [hxo, hxb]; rfl)
      have ho1 : (e2 == 0) = false := by simpa using ho
      have ho2 : decide (e2 = 0) = false := by simpa using ho
      clear HT1 HT2 HO hxo hyo
      go_wp2_with fail
      refine (same_any l1 _ _ v2 v3 _ (by omega) hw2 hw3).mono ?_
      rintro e w5 ⟨rfl, hb5⟩
      have hb6 : Below w.heap.size w w5 := (hbb3.trans (Below.mono d3 hbb3.size)).trans (hb5.mono (Nat.le_trans hbb3.size (Below.size d3)))
      clear hw2 hw3
      go_wp2_with fail
      refine (known_any _ (hT.below hb6)).mono ?_
      rintro e w7 ⟨rfl, hb7⟩
      go_wp2
      go_ret
      exact ⟨rfl, hb6.trans (hb7.mono hb6.size)⟩
    · have hxb : (x.toList == [62]) = false := by simp [hx]
      by_cases hy : y.toList = [62]
      · have hyb : (y.toList == [62]) = true := by simp [hy]
        have ho := HO.out.1 (by rw [hyo, hyb]; simp)
        have ho1 : (e2 == 0) = false := by simpa using ho
        have ho2 : decide (e2 = 0) = false := by simpa using ho
        clear HT1 HT2 HO hxo hyo
        go_wp2_with fail
        refine (same_any l1 _ _ v2 v3 _ (by omega) hw2 hw3).mono ?_
        rintro e w5 ⟨rfl, hb5⟩
        have hb6 : Below w.heap.size w w5 := (hbb3.trans (Below.mono d3 hbb3.size)).trans (hb5.mono (Nat.le_trans hbb3.size (Below.size d3)))
        clear hw2 hw3
        go_wp2_with fail
        refine (known_any _ (hT.below hb6)).mono ?_
        rintro e w7 ⟨rfl, hb7⟩
        go_wp2
        go_ret
        exact ⟨rfl, hb6.trans (hb7.mono hb6.size)⟩
      · have hyb : (y.toList == [62]) = false := by simp [hy]
        obtain ⟨rfl, hl2⟩ := HO.out.2 (by rw [hxo, hyo, hxb, hyb]; rfl)
        rw [hl2]
        clear HT1 HT2 HO hxo hyo hl2
        go_wp2_with fail
        refine (same_any l1 _ _ v2 v3 _ (by omega) hw2 hw3).mono ?_
        rintro e w5 ⟨rfl, hb5⟩
        have hb6 : Below w.heap.size w w5 := (hbb3.trans (Below.mono d3 hbb3.size)).trans (hb5.mono (Nat.le_trans hbb3.size (Below.size d3)))
        clear hw2 hw3
        go_wp2_with fail
        refine (known_any _ (hT.below hb6)).mono ?_
        rintro e w7 ⟨rfl, hb7⟩
        go_wp2
        go_ret
        exact ⟨rfl, hb6.trans (hb7.mono hb6.size)⟩
  · rcases (show a < 0 ∨ (0 ≤ a ∧ 19 ≤ a) ∨ ((0 ≤ a ∧ a < 19) ∧ b < 0) ∨ ((0 ≤ a ∧ a < 19) ∧ 0 ≤ b ∧ 19 ≤ b) by omega) with h | ⟨h, h2⟩ | ⟨⟨h, h2⟩, h3⟩ | ⟨⟨h, h2⟩, h3, h4⟩
    all_goals
      go_enter Tryd.func4, Tryd.ntmps4
      go_wp2
      go_ret
      exact ⟨rfl, (Below.refl _ _).alloc (Nat.le_refl _) _⟩
end Go.Proofs.YtpdlnpllhjcejaaDoor
