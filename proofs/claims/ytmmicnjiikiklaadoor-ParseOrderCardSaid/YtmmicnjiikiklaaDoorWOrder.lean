/- The walk of ParseOrder. -/
import Derived.Test.YtmmicnjiikiklaaDoorPDeep
import Derived.Test.YtmmicnjiikiklaaDoorSameN
import Derived.Test.YtmmicnjiikiklaaDoorLexA
import Derived.Test.YtmmicnjiikiklaaDoorRows
import Derived.WalkKit
import Derived.WalkLawsBesides
import Derived.WalkSpells
import Derived.ProofKit
import Derived.Outline
import Derived.Deep.QuietTactic
import Derived.BigQuiet
import Derived.Deep.Light
import Derived.Deep.CutBlock
import Derived.Deep.DeepCutAuto
import Derived.Deep.DeepFit
import Derived.Deep.LoopGhost
import Derived.Lib.Hide
import Derived.Lib.OthersKept
import Derived.IntWalk
import Derived.StillTailTactics
import Derived.Deep.RegionHeld3
namespace Go.Proofs.YtmmicnjiikiklaaDoor
open Go.RowKit
/-! What binds closer: the texts, their answers by the kernel; the walk of ParseOrder. -/
def ordTs : List ByteArray := [⟨#[112, 32, 124, 32, 113, 32, 38, 32, 114, 59]⟩, ⟨#[40, 112, 32, 124, 32, 40, 113, 32, 38, 32, 114, 41, 41, 59]⟩, ⟨#[126, 112, 32, 38, 32, 113, 59]⟩, ⟨#[40, 126, 112, 32, 38, 32, 113, 41, 59]⟩, ⟨#[112, 32, 61, 62, 32, 113, 32, 61, 62, 32, 114, 59]⟩, ⟨#[40, 112, 32, 61, 62, 32, 40, 113, 32, 61, 62, 32, 114, 41, 41, 59]⟩, ⟨#[112, 32, 60, 61, 62, 32, 113, 32, 60, 61, 62, 32, 114, 59]⟩, ⟨#[40, 40, 112, 32, 60, 61, 62, 32, 113, 41, 32, 60, 61, 62, 32, 114, 41, 59]⟩, ⟨#[101, 120, 48, 32, 112, 58, 32, 112, 32, 38, 32, 113, 59]⟩, ⟨#[40, 101, 120, 48, 32, 112, 58, 32, 40, 112, 32, 38, 32, 113, 41, 41, 59]⟩, ⟨#[112, 32, 38, 32, 101, 120, 48, 32, 113, 58, 32, 113, 32, 124, 32, 114, 59]⟩, ⟨#[40, 112, 32, 38, 32, 40, 101, 120, 48, 32, 113, 58, 32, 40, 113, 32, 124, 32, 114, 41, 41, 41, 59]⟩, ⟨#[88, 32, 61, 32, 65, 32, 117, 110, 105, 111, 110, 32, 66, 32, 105, 110, 116, 101, 114, 32, 67, 59]⟩, ⟨#[88, 32, 61, 32, 65, 32, 117, 110, 105, 111, 110, 32, 66, 32, 105, 110, 116, 101, 114, 32, 67, 59]⟩, ⟨#[112, 32, 124, 32, 113, 32, 61, 62, 32, 114, 32, 60, 61, 62, 32, 115, 59]⟩, ⟨#[40, 40, 40, 112, 32, 124, 32, 113, 41, 32, 61, 62, 32, 114, 41, 32, 60, 61, 62, 32, 115, 41, 59]⟩]
def ordT (i : Nat) : ByteArray := ordTs.getD i ⟨#[]⟩
def sameB : Res Nd → Res Nd → Bool
  | .ok n _, .ok m _ => n.same m
  | _, _ => false
theorem ord_chk : ((List.range 16).all fun i => chkR (toks (ordT i)) none && decide ((ordT i).size ≤ 1000000)) = true := by decide +kernel
theorem ord_same : ((List.range 8).all fun i => sameB (pMain 4000 (toks (ordT (2 * i))).1) (pMain 4000 (toks (ordT (2 * i + 1))).1)) = true := by decide +kernel
theorem ord_ok (i : Nat) (hi : i < 16) : (∃ l a, toks (ordT i) = (l, a, 0) ∧ headOk l = true ∧ 7 + 20 * l.length ≤ 4000 ∧ outB (pMain 4000 l) = none) ∧ (ordT i).size ≤ 1000000 := by
  have h := List.all_eq_true.1 ord_chk i (List.mem_range.2 hi)
  simp only [Bool.and_eq_true, decide_eq_true_eq] at h
  exact ⟨chk_of h.1, h.2⟩
theorem ord_eq (i : Nat) (hi : i < 8) {T U : Nd} (hT : ∀ l, (toks (ordT (2 * i))).1 = l → ∃ l2, pMain 4000 l = .ok T.strip l2) (hU : ∀ l, (toks (ordT (2 * i + 1))).1 = l → ∃ l2, pMain 4000 l = .ok U.strip l2) : T.same U = true := by
  have h := List.all_eq_true.1 ord_same i (List.mem_range.2 hi)
  obtain ⟨l2, h2⟩ := hT _ rfl
  obtain ⟨l3, h3⟩ := hU _ rfl
  rw [h2, h3] at h
  rw [← Nd.strip_same]
  exact h
theorem pgood_alloc (w0 w : World) (o : Obj) (hb : Below w0.heap.size w0 w) (hT : LTabs w0) (hPT : PTab w0) (i : Nat) (hi : i < 16) : Calls Tryd.prog 11 #[.string (ordT i)] (w.alloc o) fun e w' => ∃ T : Nd, e = .returned (.tuple #[.agg #[.slice none 0 0, .slice none 0 0, .string T.op, .string T.name, .int .i64 T.n, .int .i64 T.pos, .slice T.a T.kids.len T.cap], .int .i64 (ordT i).size, .int .i64 0]) ∧ T.In w' ∧ Below w.heap.size w w' ∧ Below (w.alloc o).heap.size (w.alloc o) w' ∧ Below w0.heap.size w0 w' ∧ ∀ l, (toks (ordT i)).1 = l → ∃ l2, pMain 4000 l = .ok T.strip l2 := by
  have hbx := hb.alloc hb.size o
  refine (parse_good (ordT i) (ord_ok i hi).2 (ord_ok i hi).1 _ (hT.below hbx) (hPT.below hbx)).mono ?_
  rintro e w' ⟨T, rfl, hg, hb2, hs⟩
  exact ⟨T, rfl, hg.lies, ((Below.refl _ w).alloc (Nat.le_refl _) o).trans (hb2.mono (by simp)), hb2, hbx.trans (hb2.mono hbx.size), hs⟩

theorem same_alloc (w0 w : World) (T U : Nd) (o : Obj) (hb : Below w0.heap.size w0 w) (hT : T.In w) (hU : U.In w) {R : Ending → World → Prop} (h : ∀ w', Below w0.heap.size w0 w' → R (.returned (.bool (T.same U))) w') : Calls Tryd.prog 12 #[.agg #[.string T.op, .string T.name, .int .i64 T.n, .int .i64 T.pos, .slice T.a T.kids.len T.cap], .agg #[.string U.op, .string U.name, .int .i64 U.n, .int .i64 U.pos, .slice U.a U.kids.len U.cap]] (w.alloc o) R := by
  have hb2 := (Below.refl _ w).alloc (Nat.le_refl _) o
  have hc := same_any T U (w.alloc o) (hT.below hb2) (hU.below hb2)
  rw [Nd.val_def, Nd.val_def] at hc
  refine hc.mono ?_
  rintro e w' ⟨rfl, hb3⟩
  exact h w' ((hb.alloc hb.size o).trans (hb3.mono (hb.alloc hb.size o).size))

set_option maxRecDepth 100000 in
set_option maxHeartbeats 4000000 in
theorem order_walk0 (w : World) (hT : LTabs w) (hPT : PTab w) : Calls Tryd.prog 4 #[.int .i64 0] w fun e w' => e = .returned (.bool true) ∧ Below w.heap.size w w' := by
  have HT := Lib.hid hT
  have HPT := Lib.hid hPT
  clear hT hPT
  go_enter Tryd.func4, Tryd.ntmps4
  go_wp2_with fail
  refine (pgood_alloc w w _ (Below.refl _ _) HT.out HPT.out 0 (by decide)).mono ?_
  rintro e w1 ⟨T, rfl, hin1, -, hb1, hw1, hs1⟩
  have hc1 : w1.cell? ⟨w.heap.size, 1, none⟩ = some (.string ⟨#[40, 112, 32, 124, 32, 40, 113, 32, 38, 32, 114, 41, 41, 59]⟩) := cell_below hb1 (by simp only [World.cell?, new_at]; rfl)
  have hlt1 : w.heap.size < w1.heap.size := lt_of_cell hc1
  have hne1 : ¬ w.heap.size = w1.heap.size := by omega
  have HI1 := Lib.hid hin1
  have HW1 := Lib.hid hw1
  have HS1 := Lib.hid hs1
  clear hin1 hb1 hw1 hs1
  go_wp2_with fail
  refine (pgood_alloc w w1 _ HW1.out HT.out HPT.out 1 (by decide)).mono ?_
  rintro e w2 ⟨U, rfl, hin2, hb2, hbb2, hw2, hs2⟩
  have a2 : w2.cell? ⟨w1.heap.size, 2, none⟩ = some (.string T.op) := cell_below hbb2 (by simp only [World.cell?, new_at]; rfl)
  have a3 : w2.cell? ⟨w1.heap.size, 3, none⟩ = some (.string T.name) := cell_below hbb2 (by simp only [World.cell?, new_at]; rfl)
  have a4 : w2.cell? ⟨w1.heap.size, 4, none⟩ = some (.int .i64 T.n) := cell_below hbb2 (by simp only [World.cell?, new_at]; rfl)
  have a5 : w2.cell? ⟨w1.heap.size, 5, none⟩ = some (.int .i64 T.pos) := cell_below hbb2 (by simp only [World.cell?, new_at]; rfl)
  have a6 : w2.cell? ⟨w1.heap.size, 6, none⟩ = some (.slice T.a T.kids.len T.cap) := cell_below hbb2 (by simp only [World.cell?, new_at]; rfl)
  have hlt2 : w1.heap.size < w2.heap.size := lt_of_cell a2
  have hne2 : ¬ w1.heap.size = w2.heap.size := by omega
  have HI2 := Lib.hid hin2
  have HI3 := Lib.hid (Nd.In.below hb2 HI1.out)
  have HW2 := Lib.hid hw2
  have HB2 := Lib.hid hb2
  have hsame := ord_eq 0 (by decide) HS1.out hs2
  have HX := Lib.hid hsame
  clear hin2 hb2 hbb2 hw2 hs2 HS1 HI1 HW1 hc1 hsame
  go_wp2_with fail
  refine same_alloc w w2 T U _ HW2.out HI3.out HI2.out fun w3 hb3 => ?_
  rw [HX.out]
  have HB3 := Lib.hid hb3
  clear hb3 HX HI3 HI2 a2 a3 a4 a5 a6
  go_wp2_with fail
  refine (pknown_any _ (HT.out.below HB3.out) (HPT.out.below HB3.out)).mono ?_
  rintro e w4 ⟨rfl, hb4⟩
  have HB4 := Lib.hid (HB3.out.trans (hb4.mono HB3.out.size))
  clear hb4
  go_wp2_with fail
  go_ret
  exact ⟨rfl, HB4.out⟩

set_option maxRecDepth 100000 in
set_option maxHeartbeats 4000000 in
theorem order_walk1 (w : World) (hT : LTabs w) (hPT : PTab w) : Calls Tryd.prog 4 #[.int .i64 1] w fun e w' => e = .returned (.bool true) ∧ Below w.heap.size w w' := by
  have HT := Lib.hid hT
  have HPT := Lib.hid hPT
  clear hT hPT
  go_enter Tryd.func4, Tryd.ntmps4
  go_wp2_with fail
  refine (pgood_alloc w w _ (Below.refl _ _) HT.out HPT.out 2 (by decide)).mono ?_
  rintro e w1 ⟨T, rfl, hin1, -, hb1, hw1, hs1⟩
  have hc1 : w1.cell? ⟨w.heap.size, 3, none⟩ = some (.string ⟨#[40, 126, 112, 32, 38, 32, 113, 41, 59]⟩) := cell_below hb1 (by simp only [World.cell?, new_at]; rfl)
  have hlt1 : w.heap.size < w1.heap.size := lt_of_cell hc1
  have hne1 : ¬ w.heap.size = w1.heap.size := by omega
  have HI1 := Lib.hid hin1
  have HW1 := Lib.hid hw1
  have HS1 := Lib.hid hs1
  clear hin1 hb1 hw1 hs1
  go_wp2_with fail
  refine (pgood_alloc w w1 _ HW1.out HT.out HPT.out 3 (by decide)).mono ?_
  rintro e w2 ⟨U, rfl, hin2, hb2, hbb2, hw2, hs2⟩
  have a2 : w2.cell? ⟨w1.heap.size, 2, none⟩ = some (.string T.op) := cell_below hbb2 (by simp only [World.cell?, new_at]; rfl)
  have a3 : w2.cell? ⟨w1.heap.size, 3, none⟩ = some (.string T.name) := cell_below hbb2 (by simp only [World.cell?, new_at]; rfl)
  have a4 : w2.cell? ⟨w1.heap.size, 4, none⟩ = some (.int .i64 T.n) := cell_below hbb2 (by simp only [World.cell?, new_at]; rfl)
  have a5 : w2.cell? ⟨w1.heap.size, 5, none⟩ = some (.int .i64 T.pos) := cell_below hbb2 (by simp only [World.cell?, new_at]; rfl)
  have a6 : w2.cell? ⟨w1.heap.size, 6, none⟩ = some (.slice T.a T.kids.len T.cap) := cell_below hbb2 (by simp only [World.cell?, new_at]; rfl)
  have hlt2 : w1.heap.size < w2.heap.size := lt_of_cell a2
  have hne2 : ¬ w1.heap.size = w2.heap.size := by omega
  have HI2 := Lib.hid hin2
  have HI3 := Lib.hid (Nd.In.below hb2 HI1.out)
  have HW2 := Lib.hid hw2
  have HB2 := Lib.hid hb2
  have hsame := ord_eq 1 (by decide) HS1.out hs2
  have HX := Lib.hid hsame
  clear hin2 hb2 hbb2 hw2 hs2 HS1 HI1 HW1 hc1 hsame
  go_wp2_with fail
  refine same_alloc w w2 T U _ HW2.out HI3.out HI2.out fun w3 hb3 => ?_
  rw [HX.out]
  have HB3 := Lib.hid hb3
  clear hb3 HX HI3 HI2 a2 a3 a4 a5 a6
  go_wp2_with fail
  refine (pknown_any _ (HT.out.below HB3.out) (HPT.out.below HB3.out)).mono ?_
  rintro e w4 ⟨rfl, hb4⟩
  have HB4 := Lib.hid (HB3.out.trans (hb4.mono HB3.out.size))
  clear hb4
  go_wp2_with fail
  go_ret
  exact ⟨rfl, HB4.out⟩

set_option maxRecDepth 100000 in
set_option maxHeartbeats 4000000 in
theorem order_walk2 (w : World) (hT : LTabs w) (hPT : PTab w) : Calls Tryd.prog 4 #[.int .i64 2] w fun e w' => e = .returned (.bool true) ∧ Below w.heap.size w w' := by
  have HT := Lib.hid hT
  have HPT := Lib.hid hPT
  clear hT hPT
  go_enter Tryd.func4, Tryd.ntmps4
  go_wp2_with fail
  refine (pgood_alloc w w _ (Below.refl _ _) HT.out HPT.out 4 (by decide)).mono ?_
  rintro e w1 ⟨T, rfl, hin1, -, hb1, hw1, hs1⟩
  have hc1 : w1.cell? ⟨w.heap.size, 5, none⟩ = some (.string ⟨#[40, 112, 32, 61, 62, 32, 40, 113, 32, 61, 62, 32, 114, 41, 41, 59]⟩) := cell_below hb1 (by simp only [World.cell?, new_at]; rfl)
  have hlt1 : w.heap.size < w1.heap.size := lt_of_cell hc1
  have hne1 : ¬ w.heap.size = w1.heap.size := by omega
  have HI1 := Lib.hid hin1
  have HW1 := Lib.hid hw1
  have HS1 := Lib.hid hs1
  clear hin1 hb1 hw1 hs1
  go_wp2_with fail
  refine (pgood_alloc w w1 _ HW1.out HT.out HPT.out 5 (by decide)).mono ?_
  rintro e w2 ⟨U, rfl, hin2, hb2, hbb2, hw2, hs2⟩
  have a2 : w2.cell? ⟨w1.heap.size, 2, none⟩ = some (.string T.op) := cell_below hbb2 (by simp only [World.cell?, new_at]; rfl)
  have a3 : w2.cell? ⟨w1.heap.size, 3, none⟩ = some (.string T.name) := cell_below hbb2 (by simp only [World.cell?, new_at]; rfl)
  have a4 : w2.cell? ⟨w1.heap.size, 4, none⟩ = some (.int .i64 T.n) := cell_below hbb2 (by simp only [World.cell?, new_at]; rfl)
  have a5 : w2.cell? ⟨w1.heap.size, 5, none⟩ = some (.int .i64 T.pos) := cell_below hbb2 (by simp only [World.cell?, new_at]; rfl)
  have a6 : w2.cell? ⟨w1.heap.size, 6, none⟩ = some (.slice T.a T.kids.len T.cap) := cell_below hbb2 (by simp only [World.cell?, new_at]; rfl)
  have hlt2 : w1.heap.size < w2.heap.size := lt_of_cell a2
  have hne2 : ¬ w1.heap.size = w2.heap.size := by omega
  have HI2 := Lib.hid hin2
  have HI3 := Lib.hid (Nd.In.below hb2 HI1.out)
  have HW2 := Lib.hid hw2
  have HB2 := Lib.hid hb2
  have hsame := ord_eq 2 (by decide) HS1.out hs2
  have HX := Lib.hid hsame
  clear hin2 hb2 hbb2 hw2 hs2 HS1 HI1 HW1 hc1 hsame
  go_wp2_with fail
  refine same_alloc w w2 T U _ HW2.out HI3.out HI2.out fun w3 hb3 => ?_
  rw [HX.out]
  have HB3 := Lib.hid hb3
  clear hb3 HX HI3 HI2 a2 a3 a4 a5 a6
  go_wp2_with fail
  refine (pknown_any _ (HT.out.below HB3.out) (HPT.out.below HB3.out)).mono ?_
  rintro e w4 ⟨rfl, hb4⟩
  have HB4 := Lib.hid (HB3.out.trans (hb4.mono HB3.out.size))
  clear hb4
  go_wp2_with fail
  go_ret
  exact ⟨rfl, HB4.out⟩

set_option maxRecDepth 100000 in
set_option maxHeartbeats 4000000 in
theorem order_walk3 (w : World) (hT : LTabs w) (hPT : PTab w) : Calls Tryd.prog 4 #[.int .i64 3] w fun e w' => e = .returned (.bool true) ∧ Below w.heap.size w w' := by
  have HT := Lib.hid hT
  have HPT := Lib.hid hPT
  clear hT hPT
  go_enter Tryd.func4, Tryd.ntmps4
  go_wp2_with fail
  refine (pgood_alloc w w _ (Below.refl _ _) HT.out HPT.out 6 (by decide)).mono ?_
  rintro e w1 ⟨T, rfl, hin1, -, hb1, hw1, hs1⟩
  have hc1 : w1.cell? ⟨w.heap.size, 7, none⟩ = some (.string ⟨#[40, 40, 112, 32, 60, 61, 62, 32, 113, 41, 32, 60, 61, 62, 32, 114, 41, 59]⟩) := cell_below hb1 (by simp only [World.cell?, new_at]; rfl)
  have hlt1 : w.heap.size < w1.heap.size := lt_of_cell hc1
  have hne1 : ¬ w.heap.size = w1.heap.size := by omega
  have HI1 := Lib.hid hin1
  have HW1 := Lib.hid hw1
  have HS1 := Lib.hid hs1
  clear hin1 hb1 hw1 hs1
  go_wp2_with fail
  refine (pgood_alloc w w1 _ HW1.out HT.out HPT.out 7 (by decide)).mono ?_
  rintro e w2 ⟨U, rfl, hin2, hb2, hbb2, hw2, hs2⟩
  have a2 : w2.cell? ⟨w1.heap.size, 2, none⟩ = some (.string T.op) := cell_below hbb2 (by simp only [World.cell?, new_at]; rfl)
  have a3 : w2.cell? ⟨w1.heap.size, 3, none⟩ = some (.string T.name) := cell_below hbb2 (by simp only [World.cell?, new_at]; rfl)
  have a4 : w2.cell? ⟨w1.heap.size, 4, none⟩ = some (.int .i64 T.n) := cell_below hbb2 (by simp only [World.cell?, new_at]; rfl)
  have a5 : w2.cell? ⟨w1.heap.size, 5, none⟩ = some (.int .i64 T.pos) := cell_below hbb2 (by simp only [World.cell?, new_at]; rfl)
  have a6 : w2.cell? ⟨w1.heap.size, 6, none⟩ = some (.slice T.a T.kids.len T.cap) := cell_below hbb2 (by simp only [World.cell?, new_at]; rfl)
  have hlt2 : w1.heap.size < w2.heap.size := lt_of_cell a2
  have hne2 : ¬ w1.heap.size = w2.heap.size := by omega
  have HI2 := Lib.hid hin2
  have HI3 := Lib.hid (Nd.In.below hb2 HI1.out)
  have HW2 := Lib.hid hw2
  have HB2 := Lib.hid hb2
  have hsame := ord_eq 3 (by decide) HS1.out hs2
  have HX := Lib.hid hsame
  clear hin2 hb2 hbb2 hw2 hs2 HS1 HI1 HW1 hc1 hsame
  go_wp2_with fail
  refine same_alloc w w2 T U _ HW2.out HI3.out HI2.out fun w3 hb3 => ?_
  rw [HX.out]
  have HB3 := Lib.hid hb3
  clear hb3 HX HI3 HI2 a2 a3 a4 a5 a6
  go_wp2_with fail
  refine (pknown_any _ (HT.out.below HB3.out) (HPT.out.below HB3.out)).mono ?_
  rintro e w4 ⟨rfl, hb4⟩
  have HB4 := Lib.hid (HB3.out.trans (hb4.mono HB3.out.size))
  clear hb4
  go_wp2_with fail
  go_ret
  exact ⟨rfl, HB4.out⟩

set_option maxRecDepth 100000 in
set_option maxHeartbeats 4000000 in
theorem order_walk4 (w : World) (hT : LTabs w) (hPT : PTab w) : Calls Tryd.prog 4 #[.int .i64 4] w fun e w' => e = .returned (.bool true) ∧ Below w.heap.size w w' := by
  have HT := Lib.hid hT
  have HPT := Lib.hid hPT
  clear hT hPT
  go_enter Tryd.func4, Tryd.ntmps4
  go_wp2_with fail
  refine (pgood_alloc w w _ (Below.refl _ _) HT.out HPT.out 8 (by decide)).mono ?_
  rintro e w1 ⟨T, rfl, hin1, -, hb1, hw1, hs1⟩
  have hc1 : w1.cell? ⟨w.heap.size, 9, none⟩ = some (.string ⟨#[40, 101, 120, 48, 32, 112, 58, 32, 40, 112, 32, 38, 32, 113, 41, 41, 59]⟩) := cell_below hb1 (by simp only [World.cell?, new_at]; rfl)
  have hlt1 : w.heap.size < w1.heap.size := lt_of_cell hc1
  have hne1 : ¬ w.heap.size = w1.heap.size := by omega
  have HI1 := Lib.hid hin1
  have HW1 := Lib.hid hw1
  have HS1 := Lib.hid hs1
  clear hin1 hb1 hw1 hs1
  go_wp2_with fail
  refine (pgood_alloc w w1 _ HW1.out HT.out HPT.out 9 (by decide)).mono ?_
  rintro e w2 ⟨U, rfl, hin2, hb2, hbb2, hw2, hs2⟩
  have a2 : w2.cell? ⟨w1.heap.size, 2, none⟩ = some (.string T.op) := cell_below hbb2 (by simp only [World.cell?, new_at]; rfl)
  have a3 : w2.cell? ⟨w1.heap.size, 3, none⟩ = some (.string T.name) := cell_below hbb2 (by simp only [World.cell?, new_at]; rfl)
  have a4 : w2.cell? ⟨w1.heap.size, 4, none⟩ = some (.int .i64 T.n) := cell_below hbb2 (by simp only [World.cell?, new_at]; rfl)
  have a5 : w2.cell? ⟨w1.heap.size, 5, none⟩ = some (.int .i64 T.pos) := cell_below hbb2 (by simp only [World.cell?, new_at]; rfl)
  have a6 : w2.cell? ⟨w1.heap.size, 6, none⟩ = some (.slice T.a T.kids.len T.cap) := cell_below hbb2 (by simp only [World.cell?, new_at]; rfl)
  have hlt2 : w1.heap.size < w2.heap.size := lt_of_cell a2
  have hne2 : ¬ w1.heap.size = w2.heap.size := by omega
  have HI2 := Lib.hid hin2
  have HI3 := Lib.hid (Nd.In.below hb2 HI1.out)
  have HW2 := Lib.hid hw2
  have HB2 := Lib.hid hb2
  have hsame := ord_eq 4 (by decide) HS1.out hs2
  have HX := Lib.hid hsame
  clear hin2 hb2 hbb2 hw2 hs2 HS1 HI1 HW1 hc1 hsame
  go_wp2_with fail
  refine same_alloc w w2 T U _ HW2.out HI3.out HI2.out fun w3 hb3 => ?_
  rw [HX.out]
  have HB3 := Lib.hid hb3
  clear hb3 HX HI3 HI2 a2 a3 a4 a5 a6
  go_wp2_with fail
  refine (pknown_any _ (HT.out.below HB3.out) (HPT.out.below HB3.out)).mono ?_
  rintro e w4 ⟨rfl, hb4⟩
  have HB4 := Lib.hid (HB3.out.trans (hb4.mono HB3.out.size))
  clear hb4
  go_wp2_with fail
  go_ret
  exact ⟨rfl, HB4.out⟩

set_option maxRecDepth 100000 in
set_option maxHeartbeats 4000000 in
theorem order_walk5 (w : World) (hT : LTabs w) (hPT : PTab w) : Calls Tryd.prog 4 #[.int .i64 5] w fun e w' => e = .returned (.bool true) ∧ Below w.heap.size w w' := by
  have HT := Lib.hid hT
  have HPT := Lib.hid hPT
  clear hT hPT
  go_enter Tryd.func4, Tryd.ntmps4
  go_wp2_with fail
  refine (pgood_alloc w w _ (Below.refl _ _) HT.out HPT.out 10 (by decide)).mono ?_
  rintro e w1 ⟨T, rfl, hin1, -, hb1, hw1, hs1⟩
  have hc1 : w1.cell? ⟨w.heap.size, 11, none⟩ = some (.string ⟨#[40, 112, 32, 38, 32, 40, 101, 120, 48, 32, 113, 58, 32, 40, 113, 32, 124, 32, 114, 41, 41, 41, 59]⟩) := cell_below hb1 (by simp only [World.cell?, new_at]; rfl)
  have hlt1 : w.heap.size < w1.heap.size := lt_of_cell hc1
  have hne1 : ¬ w.heap.size = w1.heap.size := by omega
  have HI1 := Lib.hid hin1
  have HW1 := Lib.hid hw1
  have HS1 := Lib.hid hs1
  clear hin1 hb1 hw1 hs1
  go_wp2_with fail
  refine (pgood_alloc w w1 _ HW1.out HT.out HPT.out 11 (by decide)).mono ?_
  rintro e w2 ⟨U, rfl, hin2, hb2, hbb2, hw2, hs2⟩
  have a2 : w2.cell? ⟨w1.heap.size, 2, none⟩ = some (.string T.op) := cell_below hbb2 (by simp only [World.cell?, new_at]; rfl)
  have a3 : w2.cell? ⟨w1.heap.size, 3, none⟩ = some (.string T.name) := cell_below hbb2 (by simp only [World.cell?, new_at]; rfl)
  have a4 : w2.cell? ⟨w1.heap.size, 4, none⟩ = some (.int .i64 T.n) := cell_below hbb2 (by simp only [World.cell?, new_at]; rfl)
  have a5 : w2.cell? ⟨w1.heap.size, 5, none⟩ = some (.int .i64 T.pos) := cell_below hbb2 (by simp only [World.cell?, new_at]; rfl)
  have a6 : w2.cell? ⟨w1.heap.size, 6, none⟩ = some (.slice T.a T.kids.len T.cap) := cell_below hbb2 (by simp only [World.cell?, new_at]; rfl)
  have hlt2 : w1.heap.size < w2.heap.size := lt_of_cell a2
  have hne2 : ¬ w1.heap.size = w2.heap.size := by omega
  have HI2 := Lib.hid hin2
  have HI3 := Lib.hid (Nd.In.below hb2 HI1.out)
  have HW2 := Lib.hid hw2
  have HB2 := Lib.hid hb2
  have hsame := ord_eq 5 (by decide) HS1.out hs2
  have HX := Lib.hid hsame
  clear hin2 hb2 hbb2 hw2 hs2 HS1 HI1 HW1 hc1 hsame
  go_wp2_with fail
  refine same_alloc w w2 T U _ HW2.out HI3.out HI2.out fun w3 hb3 => ?_
  rw [HX.out]
  have HB3 := Lib.hid hb3
  clear hb3 HX HI3 HI2 a2 a3 a4 a5 a6
  go_wp2_with fail
  refine (pknown_any _ (HT.out.below HB3.out) (HPT.out.below HB3.out)).mono ?_
  rintro e w4 ⟨rfl, hb4⟩
  have HB4 := Lib.hid (HB3.out.trans (hb4.mono HB3.out.size))
  clear hb4
  go_wp2_with fail
  go_ret
  exact ⟨rfl, HB4.out⟩

set_option maxRecDepth 100000 in
set_option maxHeartbeats 4000000 in
theorem order_walk6 (w : World) (hT : LTabs w) (hPT : PTab w) : Calls Tryd.prog 4 #[.int .i64 6] w fun e w' => e = .returned (.bool true) ∧ Below w.heap.size w w' := by
  have HT := Lib.hid hT
  have HPT := Lib.hid hPT
  clear hT hPT
  go_enter Tryd.func4, Tryd.ntmps4
  go_wp2_with fail
  refine (pgood_alloc w w _ (Below.refl _ _) HT.out HPT.out 12 (by decide)).mono ?_
  rintro e w1 ⟨T, rfl, hin1, -, hb1, hw1, hs1⟩
  have hc1 : w1.cell? ⟨w.heap.size, 13, none⟩ = some (.string ⟨#[88, 32, 61, 32, 65, 32, 117, 110, 105, 111, 110, 32, 66, 32, 105, 110, 116, 101, 114, 32, 67, 59]⟩) := cell_below hb1 (by simp only [World.cell?, new_at]; rfl)
  have hlt1 : w.heap.size < w1.heap.size := lt_of_cell hc1
  have hne1 : ¬ w.heap.size = w1.heap.size := by omega
  have HI1 := Lib.hid hin1
  have HW1 := Lib.hid hw1
  have HS1 := Lib.hid hs1
  clear hin1 hb1 hw1 hs1
  go_wp2_with fail
  refine (pgood_alloc w w1 _ HW1.out HT.out HPT.out 13 (by decide)).mono ?_
  rintro e w2 ⟨U, rfl, hin2, hb2, hbb2, hw2, hs2⟩
  have a2 : w2.cell? ⟨w1.heap.size, 2, none⟩ = some (.string T.op) := cell_below hbb2 (by simp only [World.cell?, new_at]; rfl)
  have a3 : w2.cell? ⟨w1.heap.size, 3, none⟩ = some (.string T.name) := cell_below hbb2 (by simp only [World.cell?, new_at]; rfl)
  have a4 : w2.cell? ⟨w1.heap.size, 4, none⟩ = some (.int .i64 T.n) := cell_below hbb2 (by simp only [World.cell?, new_at]; rfl)
  have a5 : w2.cell? ⟨w1.heap.size, 5, none⟩ = some (.int .i64 T.pos) := cell_below hbb2 (by simp only [World.cell?, new_at]; rfl)
  have a6 : w2.cell? ⟨w1.heap.size, 6, none⟩ = some (.slice T.a T.kids.len T.cap) := cell_below hbb2 (by simp only [World.cell?, new_at]; rfl)
  have hlt2 : w1.heap.size < w2.heap.size := lt_of_cell a2
  have hne2 : ¬ w1.heap.size = w2.heap.size := by omega
  have HI2 := Lib.hid hin2
  have HI3 := Lib.hid (Nd.In.below hb2 HI1.out)
  have HW2 := Lib.hid hw2
  have HB2 := Lib.hid hb2
  have hsame := ord_eq 6 (by decide) HS1.out hs2
  have HX := Lib.hid hsame
  clear hin2 hb2 hbb2 hw2 hs2 HS1 HI1 HW1 hc1 hsame
  go_wp2_with fail
  refine same_alloc w w2 T U _ HW2.out HI3.out HI2.out fun w3 hb3 => ?_
  rw [HX.out]
  have HB3 := Lib.hid hb3
  clear hb3 HX HI3 HI2 a2 a3 a4 a5 a6
  go_wp2_with fail
  refine (pknown_any _ (HT.out.below HB3.out) (HPT.out.below HB3.out)).mono ?_
  rintro e w4 ⟨rfl, hb4⟩
  have HB4 := Lib.hid (HB3.out.trans (hb4.mono HB3.out.size))
  clear hb4
  go_wp2_with fail
  go_ret
  exact ⟨rfl, HB4.out⟩

set_option maxRecDepth 100000 in
set_option maxHeartbeats 4000000 in
theorem order_walk7 (w : World) (hT : LTabs w) (hPT : PTab w) : Calls Tryd.prog 4 #[.int .i64 7] w fun e w' => e = .returned (.bool true) ∧ Below w.heap.size w w' := by
  have HT := Lib.hid hT
  have HPT := Lib.hid hPT
  clear hT hPT
  go_enter Tryd.func4, Tryd.ntmps4
  go_wp2_with fail
  refine (pgood_alloc w w _ (Below.refl _ _) HT.out HPT.out 14 (by decide)).mono ?_
  rintro e w1 ⟨T, rfl, hin1, -, hb1, hw1, hs1⟩
  have hc1 : w1.cell? ⟨w.heap.size, 15, none⟩ = some (.string ⟨#[40, 40, 40, 112, 32, 124, 32, 113, 41, 32, 61, 62, 32, 114, 41, 32, 60, 61, 62, 32, 115, 41, 59]⟩) := cell_below hb1 (by simp only [World.cell?, new_at]; rfl)
  have hlt1 : w.heap.size < w1.heap.size := lt_of_cell hc1
  have hne1 : ¬ w.heap.size = w1.heap.size := by omega
  have HI1 := Lib.hid hin1
  have HW1 := Lib.hid hw1
  have HS1 := Lib.hid hs1
  clear hin1 hb1 hw1 hs1
  go_wp2_with fail
  refine (pgood_alloc w w1 _ HW1.out HT.out HPT.out 15 (by decide)).mono ?_
  rintro e w2 ⟨U, rfl, hin2, hb2, hbb2, hw2, hs2⟩
  have a2 : w2.cell? ⟨w1.heap.size, 2, none⟩ = some (.string T.op) := cell_below hbb2 (by simp only [World.cell?, new_at]; rfl)
  have a3 : w2.cell? ⟨w1.heap.size, 3, none⟩ = some (.string T.name) := cell_below hbb2 (by simp only [World.cell?, new_at]; rfl)
  have a4 : w2.cell? ⟨w1.heap.size, 4, none⟩ = some (.int .i64 T.n) := cell_below hbb2 (by simp only [World.cell?, new_at]; rfl)
  have a5 : w2.cell? ⟨w1.heap.size, 5, none⟩ = some (.int .i64 T.pos) := cell_below hbb2 (by simp only [World.cell?, new_at]; rfl)
  have a6 : w2.cell? ⟨w1.heap.size, 6, none⟩ = some (.slice T.a T.kids.len T.cap) := cell_below hbb2 (by simp only [World.cell?, new_at]; rfl)
  have hlt2 : w1.heap.size < w2.heap.size := lt_of_cell a2
  have hne2 : ¬ w1.heap.size = w2.heap.size := by omega
  have HI2 := Lib.hid hin2
  have HI3 := Lib.hid (Nd.In.below hb2 HI1.out)
  have HW2 := Lib.hid hw2
  have HB2 := Lib.hid hb2
  have hsame := ord_eq 7 (by decide) HS1.out hs2
  have HX := Lib.hid hsame
  clear hin2 hb2 hbb2 hw2 hs2 HS1 HI1 HW1 hc1 hsame
  go_wp2_with fail
  refine same_alloc w w2 T U _ HW2.out HI3.out HI2.out fun w3 hb3 => ?_
  rw [HX.out]
  have HB3 := Lib.hid hb3
  clear hb3 HX HI3 HI2 a2 a3 a4 a5 a6
  go_wp2_with fail
  refine (pknown_any _ (HT.out.below HB3.out) (HPT.out.below HB3.out)).mono ?_
  rintro e w4 ⟨rfl, hb4⟩
  have HB4 := Lib.hid (HB3.out.trans (hb4.mono HB3.out.size))
  clear hb4
  go_wp2_with fail
  go_ret
  exact ⟨rfl, HB4.out⟩

set_option maxRecDepth 100000 in
theorem order_walk (n : Int) (w : World) (hT : LTabs w) (hPT : PTab w) :
    Calls Tryd.prog 4 #[.int .i64 n] w fun e w' => e = .returned (.bool true) ∧ Below w.heap.size w w' := by
  by_cases hr : 0 ≤ n ∧ n ≤ 7
  · obtain ⟨hn0, hn1⟩ := hr
    rcases (show n = 0 ∨ n = 1 ∨ n = 2 ∨ n = 3 ∨ n = 4 ∨ n = 5 ∨ n = 6 ∨ n = 7 by omega) with rfl | rfl | rfl | rfl | rfl | rfl | rfl | rfl
    · exact order_walk0 w hT hPT
    · exact order_walk1 w hT hPT
    · exact order_walk2 w hT hPT
    · exact order_walk3 w hT hPT
    · exact order_walk4 w hT hPT
    · exact order_walk5 w hT hPT
    · exact order_walk6 w hT hPT
    · exact order_walk7 w hT hPT
  · rcases (show n < 0 ∨ (0 ≤ n ∧ 8 ≤ n) by omega) with h | ⟨h, h2⟩
    all_goals
      go_enter Tryd.func4, Tryd.ntmps4
      go_wp2
      go_ret
      exact ⟨rfl, (Below.refl _ _).alloc (Nat.le_refl _) _⟩

end Go.Proofs.YtmmicnjiikiklaaDoor
