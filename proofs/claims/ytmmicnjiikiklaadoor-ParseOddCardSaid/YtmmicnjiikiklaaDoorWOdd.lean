/- The walk of ParseOdd. -/
import Derived.Test.YtmmicnjiikiklaaDoorPOddP
import Derived.Test.YtmmicnjiikiklaaDoorLexA
import Derived.Test.YtmmicnjiikiklaaDoorRows
import Derived.WalkKit
import Derived.WalkLawsBesides
import Derived.WalkSpells
import Derived.ProofKit
import Derived.Outline
import Derived.Deep.QuietTactic
import Derived.BigQuiet
import Derived.Deep.Light
import Derived.Deep.CutBlock
import Derived.Deep.DeepCutAuto
import Derived.Deep.DeepFit
import Derived.Deep.LoopGhost
import Derived.Lib.Hide
import Derived.Lib.OthersKept
import Derived.IntWalk
import Derived.StillTailTactics
namespace Go.Proofs.YtmmicnjiikiklaaDoor
open Go.RowKit
/-! Texts that are no program: where they fall out of it; the walk of ParseOdd. -/
def oddTs : List ByteArray := [⟨#[]⟩, ⟨#[116, 114, 117, 101]⟩, ⟨#[120, 32, 43, 59]⟩, ⟨#[120, 32, 43, 32, 48, 32, 61, 32, 49, 59]⟩, ⟨#[51, 59]⟩, ⟨#[123, 49, 125, 59]⟩, ⟨#[120, 32, 105, 110, 32, 123, 123, 49, 125, 125, 59]⟩, ⟨#[101, 120, 49, 32, 58, 32, 116, 114, 117, 101, 59]⟩, ⟨#[118, 97, 114, 49, 32, 120, 32, 116, 114, 117, 101, 59]⟩, ⟨#[112, 114, 101, 100, 32, 112, 32, 61, 32, 116, 114, 117, 101, 59, 32, 116, 114, 117, 101, 59]⟩, ⟨#[116, 114, 117, 101, 59, 32, 116, 114, 117, 101, 59]⟩, ⟨#[120, 32, 60, 32, 59]⟩, ⟨#[112, 40, 49, 44, 50, 44, 51, 44, 52, 44, 53, 44, 54, 44, 55, 41, 59]⟩, ⟨#[120, 32, 105, 110, 32, 123, 49, 44, 50, 44, 51, 44, 52, 44, 53, 44, 54, 44, 55, 125, 59]⟩, ⟨#[112, 114, 101, 100, 32, 112, 40, 120, 41, 32, 61, 32, 116, 114, 117, 101, 59, 32, 116, 114, 117, 101, 59]⟩, ⟨#[112, 32, 38, 32, 59]⟩, ⟨#[40, 116, 114, 117, 101, 59]⟩]
def oddAts : List Int := [0, 4, 3, 4, 0, 0, 6, 4, 7, 7, 6, 4, 14, 18, 7, 4, 5]
def oddT (i : Nat) : ByteArray := oddTs.getD i ⟨#[]⟩
def oddAt (i : Nat) : Int := oddAts.getD i 0
def OddSays (i : Nat) : Prop := ∀ w : World, LTabs w → PTab w → Calls Tryd.prog 11 #[.string (oddT i)] w fun e w' => e = .returned (.tuple #[.agg #[.slice none 0 0, .slice none 0 0, .string ⟨#[]⟩, .string ⟨#[]⟩, .int .i64 0, .int .i64 0, .slice none 0 0], .int .i64 (oddAt i), .int .i64 2]) ∧ Below w.heap.size w w'
theorem odd_chk : ((List.range 17).all fun i => (i == 8 || i == 9 || i == 14 || chkR (toks (oddT i)) (some (oddAt i, 2))) && decide ((oddT i).size ≤ 1000000)) = true := by decide +kernel
theorem odd_size (i : Nat) (hi : i < 17) : (oddT i).size ≤ 1000000 := by
  have h := List.all_eq_true.1 odd_chk i (List.mem_range.2 hi)
  simp only [Bool.and_eq_true, decide_eq_true_eq] at h
  exact h.2
theorem odd_most (i : Nat) (hi : i < 17) (h8 : i ≠ 8) (h9 : i ≠ 9) (h14 : i ≠ 14) : OddSays i := by
  intro w hT hPT
  have h := List.all_eq_true.1 odd_chk i (List.mem_range.2 hi)
  simp only [Bool.and_eq_true, Bool.or_eq_true, decide_eq_true_eq, beq_iff_eq] at h
  obtain ⟨h1, h2⟩ := h
  exact parse_bad (oddT i) (oddAt i) 2 h2 (chk_of (by rcases h1 with ((h1 | h1) | h1) | h1 <;> first | exact absurd h1 (by assumption) | exact h1)) w hT hPT
theorem odd_of (i : Nat) (hi : i < 17) (h0 : (toks (oddT i)).2.2 = 0) (hr : ∀ W B, PTB B W → RdS W B ((0 : Nat) : Int) (.good (toks (oddT i)).1) → Calls Tryd.prog 26 #[.pointer (some ⟨B, 0, none⟩)] W (PostO B ((0 : Nat) : Int) W (oddAt i) 2)) : OddSays i := by
  intro w hT hPT
  refine (parse_odd (oddT i) (toks (oddT i)).1 (toks (oddT i)).2.1 w hT hPT (odd_size i hi) (by rw [← h0]) (oddAt i) 2 hr).mono fun e w' h => ⟨h.2, h.1⟩
theorem odd_8 : OddSays 8 := by
  refine odd_of 8 (by decide) (by decide +kernel) fun W B hP hR => prog_dcl (oddAt 8) 2 _ W B 0 (by decide) hP hR (by decide +kernel) fun W hP hR => ?_
  have h := decls_odd _ W B ((0 : Nat) : Int) (by decide +kernel) (by decide +kernel) (by decide +kernel) (by decide +kernel) hR
  rw [show (hd (toks (oddT 8)).1.tail.tail).pos = oddAt 8 by decide +kernel] at h
  exact h
theorem odd_9 : OddSays 9 := by
  refine odd_of 9 (by decide) (by decide +kernel) fun W B hP hR => prog_prd (oddAt 9) 2 _ W B 0 (by decide) hP hR (by decide +kernel) fun W hP hR => ?_
  exact pred_odd _ (.bad (oddAt 9) 2) (oddAt 9) 2 rfl W B 0 (by decide) (by decide +kernel) (by decide +kernel) (fun W h => by
    have h := must_no _ ⟨#[40]⟩ W B ((0 : Nat) : Int) (by decide +kernel) h
    rw [show (hd (toks (oddT 9)).1.tail.tail).pos = oddAt 9 by decide +kernel] at h
    exact h) (by decide +kernel) (by decide +kernel) (by decide +kernel) (by decide +kernel) hP hR
theorem odd_14 : OddSays 14 := by
  refine odd_of 14 (by decide) (by decide +kernel) fun W B hP hR => prog_prd (oddAt 14) 2 _ W B 0 (by decide) hP hR (by decide +kernel) fun W hP hR => ?_
  refine pred_odd _ (.good (toks (oddT 14)).1.tail.tail.tail) (oddAt 14) 2 ?_ W B 0 (by decide) (by decide +kernel) (by decide +kernel) (fun W h => must_yes _ ⟨#[40]⟩ W B ((0 : Nat) : Int) (by decide +kernel) h) (by decide +kernel) (by decide +kernel) (by decide +kernel) (by decide +kernel) hP hR
  show St.bad (hd (toks (oddT 14)).1.tail.tail.tail).pos 2 = _
  rw [show (hd (toks (oddT 14)).1.tail.tail.tail).pos = oddAt 14 by decide +kernel]
theorem odd_all (i : Nat) (hi : i < 17) : OddSays i := by
  by_cases h8 : i = 8
  · subst h8; exact odd_8
  by_cases h9 : i = 9
  · subst h9; exact odd_9
  by_cases h14 : i = 14
  · subst h14; exact odd_14
  exact odd_most i hi h8 h9 h14
theorem odd_alloc (i : Nat) (hi : i < 17) (w : World) (o o2 : Obj) (hT : LTabs w) (hPT : PTab w) : Calls Tryd.prog 11 #[.string (oddT i)] ((w.alloc o).alloc o2) fun e w' => e = .returned (.tuple #[.agg #[.slice none 0 0, .slice none 0 0, .string ⟨#[]⟩, .string ⟨#[]⟩, .int .i64 0, .int .i64 0, .slice none 0 0], .int .i64 (oddAt i), .int .i64 2]) ∧ Below ((w.alloc o).alloc o2).heap.size ((w.alloc o).alloc o2) w' ∧ Below w.heap.size w w' := by
  have hb := two_boxes w o o2
  refine (odd_all i hi _ (hT.below hb) (hPT.below hb)).mono fun e w' h => ⟨h.1, h.2, hb.trans (h.2.mono hb.size)⟩
theorem pknown_one (w0 w : World) (o : Obj) (hb : Below w0.heap.size w0 w) (hT : LTabs w0) (hPT : PTab w0) {R : Ending → World → Prop} (h : ∀ w', Below w0.heap.size w0 w' → R (.returned (.bool true)) w') : Calls Tryd.prog 13 #[] (w.alloc o) R := by
  have hbx := hb.alloc hb.size o
  refine (pknown_any _ (hT.below hbx) (hPT.below hbx)).mono ?_
  rintro e w2 ⟨rfl, hb2⟩
  exact h _ (hbx.trans (hb2.mono hbx.size))

set_option maxRecDepth 100000 in
set_option maxHeartbeats 4000000 in
theorem odd_walk0 (w : World) (hT : LTabs w) (hPT : PTab w) : Calls Tryd.prog 6 #[.int .i64 0] w fun e w' => e = .returned (.bool true) ∧ Below w.heap.size w w' := by
  have HT := Lib.hid hT
  have HPT := Lib.hid hPT
  clear hT hPT
  go_enter Tryd.func6, Tryd.ntmps6
  go_wp2_with fail
  refine (odd_alloc 0 (by decide) w _ _ HT.out HPT.out).mono ?_
  rintro e w1 ⟨rfl, hbb1, hw1⟩
  have hc1 : w1.cell? ⟨w.heap.size + 1, 0, none⟩ = some (.int .i64 0) := cell_below hbb1 (by simp only [World.cell?, second_at]; rfl)
  have hlt1 : w.heap.size + 1 < w1.heap.size := lt_of_cell hc1
  have hne1 : ¬ w.heap.size + 1 = w1.heap.size := by omega
  have hat : ((oddAt 0) == 0) = true := by decide +kernel
  have HW1 := Lib.hid hw1
  clear hbb1 hw1
  go_wp2_with fail
  refine pknown_one w w1 _ HW1.out HT.out HPT.out fun w2 hb2 => ?_
  have HB2 := Lib.hid hb2
  clear hb2 HW1 hc1
  go_wp2_with fail
  go_ret
  exact ⟨rfl, HB2.out⟩

set_option maxRecDepth 100000 in
set_option maxHeartbeats 4000000 in
theorem odd_walk1 (w : World) (hT : LTabs w) (hPT : PTab w) : Calls Tryd.prog 6 #[.int .i64 1] w fun e w' => e = .returned (.bool true) ∧ Below w.heap.size w w' := by
  have HT := Lib.hid hT
  have HPT := Lib.hid hPT
  clear hT hPT
  go_enter Tryd.func6, Tryd.ntmps6
  go_wp2_with fail
  refine (odd_alloc 1 (by decide) w _ _ HT.out HPT.out).mono ?_
  rintro e w1 ⟨rfl, hbb1, hw1⟩
  have hc1 : w1.cell? ⟨w.heap.size + 1, 1, none⟩ = some (.int .i64 4) := cell_below hbb1 (by simp only [World.cell?, second_at]; rfl)
  have hlt1 : w.heap.size + 1 < w1.heap.size := lt_of_cell hc1
  have hne1 : ¬ w.heap.size + 1 = w1.heap.size := by omega
  have hat : ((oddAt 1) == 4) = true := by decide +kernel
  have HW1 := Lib.hid hw1
  clear hbb1 hw1
  go_wp2_with fail
  refine pknown_one w w1 _ HW1.out HT.out HPT.out fun w2 hb2 => ?_
  have HB2 := Lib.hid hb2
  clear hb2 HW1 hc1
  go_wp2_with fail
  go_ret
  exact ⟨rfl, HB2.out⟩

set_option maxRecDepth 100000 in
set_option maxHeartbeats 4000000 in
theorem odd_walk2 (w : World) (hT : LTabs w) (hPT : PTab w) : Calls Tryd.prog 6 #[.int .i64 2] w fun e w' => e = .returned (.bool true) ∧ Below w.heap.size w w' := by
  have HT := Lib.hid hT
  have HPT := Lib.hid hPT
  clear hT hPT
  go_enter Tryd.func6, Tryd.ntmps6
  go_wp2_with fail
  refine (odd_alloc 2 (by decide) w _ _ HT.out HPT.out).mono ?_
  rintro e w1 ⟨rfl, hbb1, hw1⟩
  have hc1 : w1.cell? ⟨w.heap.size + 1, 2, none⟩ = some (.int .i64 3) := cell_below hbb1 (by simp only [World.cell?, second_at]; rfl)
  have hlt1 : w.heap.size + 1 < w1.heap.size := lt_of_cell hc1
  have hne1 : ¬ w.heap.size + 1 = w1.heap.size := by omega
  have hat : ((oddAt 2) == 3) = true := by decide +kernel
  have HW1 := Lib.hid hw1
  clear hbb1 hw1
  go_wp2_with fail
  refine pknown_one w w1 _ HW1.out HT.out HPT.out fun w2 hb2 => ?_
  have HB2 := Lib.hid hb2
  clear hb2 HW1 hc1
  go_wp2_with fail
  go_ret
  exact ⟨rfl, HB2.out⟩

set_option maxRecDepth 100000 in
set_option maxHeartbeats 4000000 in
theorem odd_walk3 (w : World) (hT : LTabs w) (hPT : PTab w) : Calls Tryd.prog 6 #[.int .i64 3] w fun e w' => e = .returned (.bool true) ∧ Below w.heap.size w w' := by
  have HT := Lib.hid hT
  have HPT := Lib.hid hPT
  clear hT hPT
  go_enter Tryd.func6, Tryd.ntmps6
  go_wp2_with fail
  refine (odd_alloc 3 (by decide) w _ _ HT.out HPT.out).mono ?_
  rintro e w1 ⟨rfl, hbb1, hw1⟩
  have hc1 : w1.cell? ⟨w.heap.size + 1, 3, none⟩ = some (.int .i64 4) := cell_below hbb1 (by simp only [World.cell?, second_at]; rfl)
  have hlt1 : w.heap.size + 1 < w1.heap.size := lt_of_cell hc1
  have hne1 : ¬ w.heap.size + 1 = w1.heap.size := by omega
  have hat : ((oddAt 3) == 4) = true := by decide +kernel
  have HW1 := Lib.hid hw1
  clear hbb1 hw1
  go_wp2_with fail
  refine pknown_one w w1 _ HW1.out HT.out HPT.out fun w2 hb2 => ?_
  have HB2 := Lib.hid hb2
  clear hb2 HW1 hc1
  go_wp2_with fail
  go_ret
  exact ⟨rfl, HB2.out⟩

set_option maxRecDepth 100000 in
set_option maxHeartbeats 4000000 in
theorem odd_walk4 (w : World) (hT : LTabs w) (hPT : PTab w) : Calls Tryd.prog 6 #[.int .i64 4] w fun e w' => e = .returned (.bool true) ∧ Below w.heap.size w w' := by
  have HT := Lib.hid hT
  have HPT := Lib.hid hPT
  clear hT hPT
  go_enter Tryd.func6, Tryd.ntmps6
  go_wp2_with fail
  refine (odd_alloc 4 (by decide) w _ _ HT.out HPT.out).mono ?_
  rintro e w1 ⟨rfl, hbb1, hw1⟩
  have hc1 : w1.cell? ⟨w.heap.size + 1, 4, none⟩ = some (.int .i64 0) := cell_below hbb1 (by simp only [World.cell?, second_at]; rfl)
  have hlt1 : w.heap.size + 1 < w1.heap.size := lt_of_cell hc1
  have hne1 : ¬ w.heap.size + 1 = w1.heap.size := by omega
  have hat : ((oddAt 4) == 0) = true := by decide +kernel
  have HW1 := Lib.hid hw1
  clear hbb1 hw1
  go_wp2_with fail
  refine pknown_one w w1 _ HW1.out HT.out HPT.out fun w2 hb2 => ?_
  have HB2 := Lib.hid hb2
  clear hb2 HW1 hc1
  go_wp2_with fail
  go_ret
  exact ⟨rfl, HB2.out⟩

set_option maxRecDepth 100000 in
set_option maxHeartbeats 4000000 in
theorem odd_walk5 (w : World) (hT : LTabs w) (hPT : PTab w) : Calls Tryd.prog 6 #[.int .i64 5] w fun e w' => e = .returned (.bool true) ∧ Below w.heap.size w w' := by
  have HT := Lib.hid hT
  have HPT := Lib.hid hPT
  clear hT hPT
  go_enter Tryd.func6, Tryd.ntmps6
  go_wp2_with fail
  refine (odd_alloc 5 (by decide) w _ _ HT.out HPT.out).mono ?_
  rintro e w1 ⟨rfl, hbb1, hw1⟩
  have hc1 : w1.cell? ⟨w.heap.size + 1, 5, none⟩ = some (.int .i64 0) := cell_below hbb1 (by simp only [World.cell?, second_at]; rfl)
  have hlt1 : w.heap.size + 1 < w1.heap.size := lt_of_cell hc1
  have hne1 : ¬ w.heap.size + 1 = w1.heap.size := by omega
  have hat : ((oddAt 5) == 0) = true := by decide +kernel
  have HW1 := Lib.hid hw1
  clear hbb1 hw1
  go_wp2_with fail
  refine pknown_one w w1 _ HW1.out HT.out HPT.out fun w2 hb2 => ?_
  have HB2 := Lib.hid hb2
  clear hb2 HW1 hc1
  go_wp2_with fail
  go_ret
  exact ⟨rfl, HB2.out⟩

set_option maxRecDepth 100000 in
set_option maxHeartbeats 4000000 in
theorem odd_walk6 (w : World) (hT : LTabs w) (hPT : PTab w) : Calls Tryd.prog 6 #[.int .i64 6] w fun e w' => e = .returned (.bool true) ∧ Below w.heap.size w w' := by
  have HT := Lib.hid hT
  have HPT := Lib.hid hPT
  clear hT hPT
  go_enter Tryd.func6, Tryd.ntmps6
  go_wp2_with fail
  refine (odd_alloc 6 (by decide) w _ _ HT.out HPT.out).mono ?_
  rintro e w1 ⟨rfl, hbb1, hw1⟩
  have hc1 : w1.cell? ⟨w.heap.size + 1, 6, none⟩ = some (.int .i64 6) := cell_below hbb1 (by simp only [World.cell?, second_at]; rfl)
  have hlt1 : w.heap.size + 1 < w1.heap.size := lt_of_cell hc1
  have hne1 : ¬ w.heap.size + 1 = w1.heap.size := by omega
  have hat : ((oddAt 6) == 6) = true := by decide +kernel
  have HW1 := Lib.hid hw1
  clear hbb1 hw1
  go_wp2_with fail
  refine pknown_one w w1 _ HW1.out HT.out HPT.out fun w2 hb2 => ?_
  have HB2 := Lib.hid hb2
  clear hb2 HW1 hc1
  go_wp2_with fail
  go_ret
  exact ⟨rfl, HB2.out⟩

set_option maxRecDepth 100000 in
set_option maxHeartbeats 4000000 in
theorem odd_walk7 (w : World) (hT : LTabs w) (hPT : PTab w) : Calls Tryd.prog 6 #[.int .i64 7] w fun e w' => e = .returned (.bool true) ∧ Below w.heap.size w w' := by
  have HT := Lib.hid hT
  have HPT := Lib.hid hPT
  clear hT hPT
  go_enter Tryd.func6, Tryd.ntmps6
  go_wp2_with fail
  refine (odd_alloc 7 (by decide) w _ _ HT.out HPT.out).mono ?_
  rintro e w1 ⟨rfl, hbb1, hw1⟩
  have hc1 : w1.cell? ⟨w.heap.size + 1, 7, none⟩ = some (.int .i64 4) := cell_below hbb1 (by simp only [World.cell?, second_at]; rfl)
  have hlt1 : w.heap.size + 1 < w1.heap.size := lt_of_cell hc1
  have hne1 : ¬ w.heap.size + 1 = w1.heap.size := by omega
  have hat : ((oddAt 7) == 4) = true := by decide +kernel
  have HW1 := Lib.hid hw1
  clear hbb1 hw1
  go_wp2_with fail
  refine pknown_one w w1 _ HW1.out HT.out HPT.out fun w2 hb2 => ?_
  have HB2 := Lib.hid hb2
  clear hb2 HW1 hc1
  go_wp2_with fail
  go_ret
  exact ⟨rfl, HB2.out⟩

set_option maxRecDepth 100000 in
set_option maxHeartbeats 4000000 in
theorem odd_walk8 (w : World) (hT : LTabs w) (hPT : PTab w) : Calls Tryd.prog 6 #[.int .i64 8] w fun e w' => e = .returned (.bool true) ∧ Below w.heap.size w w' := by
  have HT := Lib.hid hT
  have HPT := Lib.hid hPT
  clear hT hPT
  go_enter Tryd.func6, Tryd.ntmps6
  go_wp2_with fail
  refine (odd_alloc 8 (by decide) w _ _ HT.out HPT.out).mono ?_
  rintro e w1 ⟨rfl, hbb1, hw1⟩
  have hc1 : w1.cell? ⟨w.heap.size + 1, 8, none⟩ = some (.int .i64 7) := cell_below hbb1 (by simp only [World.cell?, second_at]; rfl)
  have hlt1 : w.heap.size + 1 < w1.heap.size := lt_of_cell hc1
  have hne1 : ¬ w.heap.size + 1 = w1.heap.size := by omega
  have hat : ((oddAt 8) == 7) = true := by decide +kernel
  have HW1 := Lib.hid hw1
  clear hbb1 hw1
  go_wp2_with fail
  refine pknown_one w w1 _ HW1.out HT.out HPT.out fun w2 hb2 => ?_
  have HB2 := Lib.hid hb2
  clear hb2 HW1 hc1
  go_wp2_with fail
  go_ret
  exact ⟨rfl, HB2.out⟩

set_option maxRecDepth 100000 in
set_option maxHeartbeats 4000000 in
theorem odd_walk9 (w : World) (hT : LTabs w) (hPT : PTab w) : Calls Tryd.prog 6 #[.int .i64 9] w fun e w' => e = .returned (.bool true) ∧ Below w.heap.size w w' := by
  have HT := Lib.hid hT
  have HPT := Lib.hid hPT
  clear hT hPT
  go_enter Tryd.func6, Tryd.ntmps6
  go_wp2_with fail
  refine (odd_alloc 9 (by decide) w _ _ HT.out HPT.out).mono ?_
  rintro e w1 ⟨rfl, hbb1, hw1⟩
  have hc1 : w1.cell? ⟨w.heap.size + 1, 9, none⟩ = some (.int .i64 7) := cell_below hbb1 (by simp only [World.cell?, second_at]; rfl)
  have hlt1 : w.heap.size + 1 < w1.heap.size := lt_of_cell hc1
  have hne1 : ¬ w.heap.size + 1 = w1.heap.size := by omega
  have hat : ((oddAt 9) == 7) = true := by decide +kernel
  have HW1 := Lib.hid hw1
  clear hbb1 hw1
  go_wp2_with fail
  refine pknown_one w w1 _ HW1.out HT.out HPT.out fun w2 hb2 => ?_
  have HB2 := Lib.hid hb2
  clear hb2 HW1 hc1
  go_wp2_with fail
  go_ret
  exact ⟨rfl, HB2.out⟩

set_option maxRecDepth 100000 in
set_option maxHeartbeats 4000000 in
theorem odd_walk10 (w : World) (hT : LTabs w) (hPT : PTab w) : Calls Tryd.prog 6 #[.int .i64 10] w fun e w' => e = .returned (.bool true) ∧ Below w.heap.size w w' := by
  have HT := Lib.hid hT
  have HPT := Lib.hid hPT
  clear hT hPT
  go_enter Tryd.func6, Tryd.ntmps6
  go_wp2_with fail
  refine (odd_alloc 10 (by decide) w _ _ HT.out HPT.out).mono ?_
  rintro e w1 ⟨rfl, hbb1, hw1⟩
  have hc1 : w1.cell? ⟨w.heap.size + 1, 10, none⟩ = some (.int .i64 6) := cell_below hbb1 (by simp only [World.cell?, second_at]; rfl)
  have hlt1 : w.heap.size + 1 < w1.heap.size := lt_of_cell hc1
  have hne1 : ¬ w.heap.size + 1 = w1.heap.size := by omega
  have hat : ((oddAt 10) == 6) = true := by decide +kernel
  have HW1 := Lib.hid hw1
  clear hbb1 hw1
  go_wp2_with fail
  refine pknown_one w w1 _ HW1.out HT.out HPT.out fun w2 hb2 => ?_
  have HB2 := Lib.hid hb2
  clear hb2 HW1 hc1
  go_wp2_with fail
  go_ret
  exact ⟨rfl, HB2.out⟩

set_option maxRecDepth 100000 in
set_option maxHeartbeats 4000000 in
theorem odd_walk11 (w : World) (hT : LTabs w) (hPT : PTab w) : Calls Tryd.prog 6 #[.int .i64 11] w fun e w' => e = .returned (.bool true) ∧ Below w.heap.size w w' := by
  have HT := Lib.hid hT
  have HPT := Lib.hid hPT
  clear hT hPT
  go_enter Tryd.func6, Tryd.ntmps6
  go_wp2_with fail
  refine (odd_alloc 11 (by decide) w _ _ HT.out HPT.out).mono ?_
  rintro e w1 ⟨rfl, hbb1, hw1⟩
  have hc1 : w1.cell? ⟨w.heap.size + 1, 11, none⟩ = some (.int .i64 4) := cell_below hbb1 (by simp only [World.cell?, second_at]; rfl)
  have hlt1 : w.heap.size + 1 < w1.heap.size := lt_of_cell hc1
  have hne1 : ¬ w.heap.size + 1 = w1.heap.size := by omega
  have hat : ((oddAt 11) == 4) = true := by decide +kernel
  have HW1 := Lib.hid hw1
  clear hbb1 hw1
  go_wp2_with fail
  refine pknown_one w w1 _ HW1.out HT.out HPT.out fun w2 hb2 => ?_
  have HB2 := Lib.hid hb2
  clear hb2 HW1 hc1
  go_wp2_with fail
  go_ret
  exact ⟨rfl, HB2.out⟩

set_option maxRecDepth 100000 in
set_option maxHeartbeats 4000000 in
theorem odd_walk12 (w : World) (hT : LTabs w) (hPT : PTab w) : Calls Tryd.prog 6 #[.int .i64 12] w fun e w' => e = .returned (.bool true) ∧ Below w.heap.size w w' := by
  have HT := Lib.hid hT
  have HPT := Lib.hid hPT
  clear hT hPT
  go_enter Tryd.func6, Tryd.ntmps6
  go_wp2_with fail
  refine (odd_alloc 12 (by decide) w _ _ HT.out HPT.out).mono ?_
  rintro e w1 ⟨rfl, hbb1, hw1⟩
  have hc1 : w1.cell? ⟨w.heap.size + 1, 12, none⟩ = some (.int .i64 14) := cell_below hbb1 (by simp only [World.cell?, second_at]; rfl)
  have hlt1 : w.heap.size + 1 < w1.heap.size := lt_of_cell hc1
  have hne1 : ¬ w.heap.size + 1 = w1.heap.size := by omega
  have hat : ((oddAt 12) == 14) = true := by decide +kernel
  have HW1 := Lib.hid hw1
  clear hbb1 hw1
  go_wp2_with fail
  refine pknown_one w w1 _ HW1.out HT.out HPT.out fun w2 hb2 => ?_
  have HB2 := Lib.hid hb2
  clear hb2 HW1 hc1
  go_wp2_with fail
  go_ret
  exact ⟨rfl, HB2.out⟩

set_option maxRecDepth 100000 in
set_option maxHeartbeats 4000000 in
theorem odd_walk13 (w : World) (hT : LTabs w) (hPT : PTab w) : Calls Tryd.prog 6 #[.int .i64 13] w fun e w' => e = .returned (.bool true) ∧ Below w.heap.size w w' := by
  have HT := Lib.hid hT
  have HPT := Lib.hid hPT
  clear hT hPT
  go_enter Tryd.func6, Tryd.ntmps6
  go_wp2_with fail
  refine (odd_alloc 13 (by decide) w _ _ HT.out HPT.out).mono ?_
  rintro e w1 ⟨rfl, hbb1, hw1⟩
  have hc1 : w1.cell? ⟨w.heap.size + 1, 13, none⟩ = some (.int .i64 18) := cell_below hbb1 (by simp only [World.cell?, second_at]; rfl)
  have hlt1 : w.heap.size + 1 < w1.heap.size := lt_of_cell hc1
  have hne1 : ¬ w.heap.size + 1 = w1.heap.size := by omega
  have hat : ((oddAt 13) == 18) = true := by decide +kernel
  have HW1 := Lib.hid hw1
  clear hbb1 hw1
  go_wp2_with fail
  refine pknown_one w w1 _ HW1.out HT.out HPT.out fun w2 hb2 => ?_
  have HB2 := Lib.hid hb2
  clear hb2 HW1 hc1
  go_wp2_with fail
  go_ret
  exact ⟨rfl, HB2.out⟩

set_option maxRecDepth 100000 in
set_option maxHeartbeats 4000000 in
theorem odd_walk14 (w : World) (hT : LTabs w) (hPT : PTab w) : Calls Tryd.prog 6 #[.int .i64 14] w fun e w' => e = .returned (.bool true) ∧ Below w.heap.size w w' := by
  have HT := Lib.hid hT
  have HPT := Lib.hid hPT
  clear hT hPT
  go_enter Tryd.func6, Tryd.ntmps6
  go_wp2_with fail
  refine (odd_alloc 14 (by decide) w _ _ HT.out HPT.out).mono ?_
  rintro e w1 ⟨rfl, hbb1, hw1⟩
  have hc1 : w1.cell? ⟨w.heap.size + 1, 14, none⟩ = some (.int .i64 7) := cell_below hbb1 (by simp only [World.cell?, second_at]; rfl)
  have hlt1 : w.heap.size + 1 < w1.heap.size := lt_of_cell hc1
  have hne1 : ¬ w.heap.size + 1 = w1.heap.size := by omega
  have hat : ((oddAt 14) == 7) = true := by decide +kernel
  have HW1 := Lib.hid hw1
  clear hbb1 hw1
  go_wp2_with fail
  refine pknown_one w w1 _ HW1.out HT.out HPT.out fun w2 hb2 => ?_
  have HB2 := Lib.hid hb2
  clear hb2 HW1 hc1
  go_wp2_with fail
  go_ret
  exact ⟨rfl, HB2.out⟩

set_option maxRecDepth 100000 in
set_option maxHeartbeats 4000000 in
theorem odd_walk15 (w : World) (hT : LTabs w) (hPT : PTab w) : Calls Tryd.prog 6 #[.int .i64 15] w fun e w' => e = .returned (.bool true) ∧ Below w.heap.size w w' := by
  have HT := Lib.hid hT
  have HPT := Lib.hid hPT
  clear hT hPT
  go_enter Tryd.func6, Tryd.ntmps6
  go_wp2_with fail
  refine (odd_alloc 15 (by decide) w _ _ HT.out HPT.out).mono ?_
  rintro e w1 ⟨rfl, hbb1, hw1⟩
  have hc1 : w1.cell? ⟨w.heap.size + 1, 15, none⟩ = some (.int .i64 4) := cell_below hbb1 (by simp only [World.cell?, second_at]; rfl)
  have hlt1 : w.heap.size + 1 < w1.heap.size := lt_of_cell hc1
  have hne1 : ¬ w.heap.size + 1 = w1.heap.size := by omega
  have hat : ((oddAt 15) == 4) = true := by decide +kernel
  have HW1 := Lib.hid hw1
  clear hbb1 hw1
  go_wp2_with fail
  refine pknown_one w w1 _ HW1.out HT.out HPT.out fun w2 hb2 => ?_
  have HB2 := Lib.hid hb2
  clear hb2 HW1 hc1
  go_wp2_with fail
  go_ret
  exact ⟨rfl, HB2.out⟩

set_option maxRecDepth 100000 in
set_option maxHeartbeats 4000000 in
theorem odd_walk16 (w : World) (hT : LTabs w) (hPT : PTab w) : Calls Tryd.prog 6 #[.int .i64 16] w fun e w' => e = .returned (.bool true) ∧ Below w.heap.size w w' := by
  have HT := Lib.hid hT
  have HPT := Lib.hid hPT
  clear hT hPT
  go_enter Tryd.func6, Tryd.ntmps6
  go_wp2_with fail
  refine (odd_alloc 16 (by decide) w _ _ HT.out HPT.out).mono ?_
  rintro e w1 ⟨rfl, hbb1, hw1⟩
  have hc1 : w1.cell? ⟨w.heap.size + 1, 16, none⟩ = some (.int .i64 5) := cell_below hbb1 (by simp only [World.cell?, second_at]; rfl)
  have hlt1 : w.heap.size + 1 < w1.heap.size := lt_of_cell hc1
  have hne1 : ¬ w.heap.size + 1 = w1.heap.size := by omega
  have hat : ((oddAt 16) == 5) = true := by decide +kernel
  have HW1 := Lib.hid hw1
  clear hbb1 hw1
  go_wp2_with fail
  refine pknown_one w w1 _ HW1.out HT.out HPT.out fun w2 hb2 => ?_
  have HB2 := Lib.hid hb2
  clear hb2 HW1 hc1
  go_wp2_with fail
  go_ret
  exact ⟨rfl, HB2.out⟩

set_option maxRecDepth 100000 in
theorem odd_walk (n : Int) (w : World) (hT : LTabs w) (hPT : PTab w) :
    Calls Tryd.prog 6 #[.int .i64 n] w fun e w' => e = .returned (.bool true) ∧ Below w.heap.size w w' := by
  by_cases hr : 0 ≤ n ∧ n ≤ 16
  · obtain ⟨hn0, hn1⟩ := hr
    rcases (show n = 0 ∨ n = 1 ∨ n = 2 ∨ n = 3 ∨ n = 4 ∨ n = 5 ∨ n = 6 ∨ n = 7 ∨ n = 8 ∨ n = 9 ∨ n = 10 ∨ n = 11 ∨ n = 12 ∨ n = 13 ∨ n = 14 ∨ n = 15 ∨ n = 16 by omega) with rfl | rfl | rfl | rfl | rfl | rfl | rfl | rfl | rfl | rfl | rfl | rfl | rfl | rfl | rfl | rfl | rfl
    · exact odd_walk0 w hT hPT
    · exact odd_walk1 w hT hPT
    · exact odd_walk2 w hT hPT
    · exact odd_walk3 w hT hPT
    · exact odd_walk4 w hT hPT
    · exact odd_walk5 w hT hPT
    · exact odd_walk6 w hT hPT
    · exact odd_walk7 w hT hPT
    · exact odd_walk8 w hT hPT
    · exact odd_walk9 w hT hPT
    · exact odd_walk10 w hT hPT
    · exact odd_walk11 w hT hPT
    · exact odd_walk12 w hT hPT
    · exact odd_walk13 w hT hPT
    · exact odd_walk14 w hT hPT
    · exact odd_walk15 w hT hPT
    · exact odd_walk16 w hT hPT
  · rcases (show n < 0 ∨ (0 ≤ n ∧ 17 ≤ n) by omega) with h | ⟨h, h2⟩
    all_goals
      go_enter Tryd.func6, Tryd.ntmps6
      go_wp2
      go_ret
      exact ⟨rfl, two_boxes _ _ _⟩

end Go.Proofs.YtmmicnjiikiklaaDoor
