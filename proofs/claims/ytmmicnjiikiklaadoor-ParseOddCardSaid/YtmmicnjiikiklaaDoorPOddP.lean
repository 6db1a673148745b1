/- Parse, of a text that errs ahead of its formula. -/
import Derived.Test.YtmmicnjiikiklaaDoorPOdd
import Derived.Test.YtmmicnjiikiklaaDoorPDeep
import Derived.Test.YtmmicnjiikiklaaDoorLexA
import Derived.Test.YtmmicnjiikiklaaDoorRows
import Derived.WalkKit
import Derived.WalkLawsBesides
import Derived.WalkSpells
import Derived.ProofKit
import Derived.Outline
import Derived.Deep.QuietTactic
import Derived.BigQuiet
import Derived.Deep.Light
import Derived.Deep.CutBlock
import Derived.Deep.DeepCutAuto
import Derived.Deep.DeepFit
import Derived.Deep.LoopGhost
import Derived.Lib.Hide
import Derived.Lib.OthersKept
import Derived.IntWalk
import Derived.StillTailTactics
import Derived.RegionTactic
import Derived.BigRegion
namespace Go.Proofs.YtmmicnjiikiklaaDoor
open Go.RowKit
/-! Parse, of a text that errs ahead of its formula. -/
set_option maxRecDepth 100000 in
set_option maxHeartbeats 16000000 in
theorem parse_odd (s : ByteArray) (l : List Tok) (at' : Int) (w : World) (hT : LTabs w) (hPT : PTab w) (hs : s.size ≤ 1000000) (ht : toks s = (l, at', 0)) (p q : Int) (hr : ∀ W B, PTB B W → RdS W B ((0 : Nat) : Int) (.good l) → Calls Tryd.prog 26 #[.pointer (some ⟨B, 0, none⟩)] W (PostO B ((0 : Nat) : Int) W p q)) : Calls Tryd.prog 11 #[.string s] w (ParseOut w at' (.bad p q)) := by
  have HC := Lib.hid (tokens_is s l at' 0 (w.alloc (pgBox none 0 0 none 0 0 ⟨#[]⟩ ⟨#[]⟩ 0 0 none 0 0)) (hT.below (below_box _ _)) hs ht)
  have HRR := Lib.hid hr
  have HPT := Lib.hid hPT
  clear hT ht hr hPT
  go_enter Tryd.func11, Tryd.ntmps11
  go_wp2_with fail
  refine HC.out.mono ?_
  rintro e w1 ⟨v, rfl, hown, hb⟩
  obtain ⟨a, cap, rfl, hl1, hl2, htk⟩ := toks_in hown
  have HB := Lib.hid (box_then hb)
  have HZ := Lib.hid (new_then hb)
  have hz := lt_heap HZ.out
  have HPW : RowKit.Hid (PTB w1.heap.size (w1.alloc (.cells (rdCells a l.length cap 0 0 0) 49))) := Lib.hid (by
    have h1 := HPT.out.below HB.out
    refine ⟨h1.below (below_box _ _), ?_⟩
    obtain ⟨t, f, h2⟩ := h1
    have := lt_heap h2
    omega)
  have HRW : RowKit.Hid (RdS (w1.alloc (.cells (rdCells a l.length cap 0 0 0) 49)) w1.heap.size ((0 : Nat) : Int) (.good l)) := Lib.hid ⟨a, cap, new_at _ _, hl1, hl2, htk.same fun g hg => Below.heap_alloc _ _ _ hg⟩
  have HC2 := Lib.hid (HRR.out _ _ HPW.out HRW.out)
  have HZ1 := Lib.hid ((Below.heap_alloc w1 (.cells (rdCells a l.length cap 0 0 0) 49) _ hz).trans HZ.out)
  clear hown hb HC hl1 hl2 htk HRR
  go_wp2_with fail
  refine HC2.out.mono ?_
  rintro e w2 ⟨da, dl, dc, pa, pl, pc, T, rfl, hk2, ho2⟩
  have HZ2 := Lib.hid (hk2.blk HZ1.out (by omega))
  have hz2 := lt_heap HZ2.out
  have HO := Lib.hid ho2
  have HBW : RowKit.Hid (Below w.heap.size w w2) := Lib.hid (HB.out.trans ((below_box w1 _).mono (by omega) |>.trans ⟨hk2.os, hk2.tape, hk2.output, hk2.size, fun i hi => hk2.block i (by simp; omega) (fun e => by have := Option.some.inj e; omega)⟩))
  have hzB : w1.heap.size < w2.heap.size := by have := hk2.size; simp only [alloc_size] at this; omega
  obtain ⟨p0, p1, p2, p3, p4, p5, p6⟩ := pg_cells HZ2.out
  obtain ⟨g0, g1, g2, g3, g4, g5, g6⟩ := pg_frozen HZ2.out
  have hne1 : ¬ w.heap.size = w1.heap.size := by omega
  have hne2 : ¬ w1.heap.size = w.heap.size := by omega
  clear hk2 ho2 HC2 HZ1 HPW HRW
  have hr : RdS w2 w1.heap.size ((0 : Nat) : Int) (.bad p q) := HO.out
  have hq := hr.2
  have hq2 : (q != 0) = true := by unfold bne; rw [hq]; rfl
  have k2 := hr.1.cells.1.2.2.1
  have k3 := hr.1.cells.1.2.2.2
  obtain ⟨w3, hW⟩ : ∃ x, x = (((((((w2.setCell ⟨w.heap.size, 0, none⟩ (.slice da dl dc)).setCell ⟨w.heap.size, 1, none⟩ (.slice pa pl pc)).setCell ⟨w.heap.size, 2, none⟩ (.string T.op)).setCell ⟨w.heap.size, 3, none⟩ (.string T.name)).setCell ⟨w.heap.size, 4, none⟩ (.int .i64 T.n)).setCell ⟨w.heap.size, 5, none⟩ (.int .i64 T.pos)).setCell ⟨w.heap.size, 6, none⟩ (.slice T.a T.kids.len T.cap)) := ⟨_, rfl⟩
  have k2' : w3.cell? ⟨w1.heap.size, 2, none⟩ = some (.int .i64 p) := by rw [hW]; exact cell_same (by rw [Below.heap_setCell _ _ _ _ (by simpa using hne2), Below.heap_setCell _ _ _ _ (by simpa using hne2), Below.heap_setCell _ _ _ _ (by simpa using hne2), Below.heap_setCell _ _ _ _ (by simpa using hne2), Below.heap_setCell _ _ _ _ (by simpa using hne2), Below.heap_setCell _ _ _ _ (by simpa using hne2), Below.heap_setCell _ _ _ _ (by simpa using hne2)]) k2
  have k3' : w3.cell? ⟨w1.heap.size, 3, none⟩ = some (.int .i64 q) := by rw [hW]; exact cell_same (by rw [Below.heap_setCell _ _ _ _ (by simpa using hne2), Below.heap_setCell _ _ _ _ (by simpa using hne2), Below.heap_setCell _ _ _ _ (by simpa using hne2), Below.heap_setCell _ _ _ _ (by simpa using hne2), Below.heap_setCell _ _ _ _ (by simpa using hne2), Below.heap_setCell _ _ _ _ (by simpa using hne2), Below.heap_setCell _ _ _ _ (by simpa using hne2)]) k3
  have HZ3 : RowKit.Hid (w3.heap[w.heap.size]? = some (pgBox da dl dc pa pl pc T.op T.name T.n T.pos T.a T.kids.len T.cap)) := Lib.hid (by rw [hW]; exact pg_set HZ2.out _ _ _ _ _ _ _ _ _ _ _ _ _)
  have HBW3 : RowKit.Hid (Below w.heap.size w w3) := Lib.hid (by rw [hW]; exact (by repeat (with_reducible first | exact HBW.out | refine below_set ?_ _ _)))
  clear hr HO
  go_wp2_with fail
  rw [← hW]
  clear hW k2 k3 p0 p1 p2 p3 p4 p5 p6 g0 g1 g2 g3 g4 g5 g6
  obtain ⟨p0, p1, p2, p3, p4, p5, p6⟩ := pg_cells HZ3.out
  obtain ⟨g0, g1, g2, g3, g4, g5, g6⟩ := pg_frozen HZ3.out
  go_region
  all_goals
    go_wp2_with fail
    refine ret_parse (Z := w.heap.size) none 0 0 none 0 0 ⟨#[]⟩ ⟨#[]⟩ 0 0 none 0 0 Tryd.results11 rfl rfl (drew_heap (pg_set HZ3.out _ _ _ _ _ _ _ _ _ _ _ _ _)) ⟨?_, rfl⟩
    exact (by repeat (with_reducible first | exact HBW3.out | refine Below.drew ?_ | refine below_set ?_ _ _))

end Go.Proofs.YtmmicnjiikiklaaDoor
