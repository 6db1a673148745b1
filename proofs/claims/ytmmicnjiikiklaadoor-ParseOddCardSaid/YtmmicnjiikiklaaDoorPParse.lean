/- Parse, of texts that begin with their formula. -/
import Derived.Test.YtmmicnjiikiklaaDoorPProg
import Derived.Test.YtmmicnjiikiklaaDoorLexA
import Derived.Test.YtmmicnjiikiklaaDoorRows
import Derived.WalkKit
import Derived.WalkLawsBesides
import Derived.WalkSpells
import Derived.ProofKit
import Derived.Outline
import Derived.Deep.QuietTactic
import Derived.BigQuiet
import Derived.Deep.Light
import Derived.Deep.CutBlock
import Derived.Deep.DeepCutAuto
import Derived.Deep.DeepFit
import Derived.Deep.LoopGhost
import Derived.Lib.Hide
import Derived.Lib.OthersKept
import Derived.IntWalk
import Derived.StillTailTactics
import Derived.RegionTactic
import Derived.BigRegion
namespace Go.Proofs.YtmmicnjiikiklaaDoor
open Go.RowKit
/-! Parse, of texts that begin with their formula. -/
theorem toks_good {s : ByteArray} {l : List Tok} {at' : Int} (h : toks s = (l, at', 0)) : EndsOk l ∧ at' = s.size := by
  unfold toks at h
  split at h
  · split at h
    · cases h
    · split at h
      · have e1 := congrArg Prod.fst h
        have e2 := congrArg (fun x => x.2.1) h
        simp only [] at e1 e2
        refine ⟨fun t ht => ?_, e2.symm⟩
        rw [← e1, List.getLast?_concat] at ht
        cases ht
        rfl
      · cases h
  · cases h
theorem prog_main (f : Nat) (l : List Tok) (w : World) (B : Nat) (hP : PTB B w) (hE : EndsOk l) (hneed : 7 + 20 * l.length ≤ f) (hS : RdS w B ((0 : Nat) : Int) (.good l)) (hw0 : ((wrd l).toList == [118, 97, 114, 48]) = false) (hw1 : ((wrd l).toList == [118, 97, 114, 49]) = false) (hw2 : ((wrd l).toList == [118, 97, 114, 50]) = false) (hw3 : ((wrd l).toList == [112, 114, 101, 100]) = false) :
    Calls Tryd.prog 26 #[.pointer (some ⟨B, 0, none⟩)] w (PostG B ((0 : Nat) : Int) w (pMain f l)) := by
  have hform := fun W (hp : PTB B W) (hr : RdS W B ((0 : Nat) : Int) (.good l)) => (forms_all f).2.2.2.2 l W B 0 (by omega) hp hE hneed hr
  unfold pMain
  cases hq : pForm f 0 l with
  | bad a e =>
    rw [hq] at hform
    exact prog_bad a e l w B 0 hP hS hw0 hw1 hw2 hw3 hform
  | ok n l' =>
    rw [hq] at hform
    show Calls _ _ _ w (PostG B ((0 : Nat) : Int) w (if ((wrd l').toList == [59]) = true then _ else _))
    have e59 : (ByteArray.mk #[59]).toList = [59] := by decide +kernel
    cases hm : ((wrd l').toList == [59]) with
    | false =>
      rw [if_neg (by decide)]
      exact prog_semi n l' l w B 0 hP hS hw0 hw1 hw2 hw3 hform (by rw [e59]; exact hm)
    | true =>
      rw [if_pos rfl]
      cases hk : ((hd l'.tail).kind == 4) with
      | false =>
        rw [if_neg (by decide)]
        exact prog_end n l' l w B 0 hP hS hw0 hw1 hw2 hw3 hform (by rw [e59]; exact hm) hk
      | true =>
        rw [if_pos rfl]
        exact prog_ok n l' l w B 0 hP hS hw0 hw1 hw2 hw3 hform (by rw [e59]; exact hm) hk
theorem ret_parse {f : Func} {i j k : Tmp} {R : Ending → World → Prop} {a : Act} {w : World} {Z : Nat} (da : Option Addr) (dlen dc : Nat) (pa : Option Addr) (pl pc : Nat) (op name : ByteArray) (n pos : Int) (b : Option Addr) (kl cap : Nat) (hf : f.results = #[.cell i 28, .tmp j, .tmp k]) (hs : a.tmps.getD i undef = .pointer (some ⟨Z, 0, none⟩)) (hd : a.defers = []) (h : w.heap[Z]? = some (pgBox da dlen dc pa pl pc op name n pos b kl cap))
    (hR : R (.returned (.tuple #[.agg (pgCells da dlen dc pa pl pc op name n pos b kl cap), a.tmps.getD j undef, a.tmps.getD k undef])) w) : bodyPost Tryd.prog f R .ret a w := by
  refine bodyPost_ret (v := .tuple #[.agg (pgCells da dlen dc pa pl pc op name n pos b kl cap), a.tmps.getD j undef, a.tmps.getD k undef]) ?_ hd hR
  have hs' : a.tmps[i]?.getD undef = .pointer (some ⟨Z, 0, none⟩) := by simpa using hs
  simp [results, hf, hs', asAddr, run_loadVar_row w Z _ _ (pgCells da dlen dc pa pl pc op name n pos b kl cap) _ _ h Tryd.underlying28 rfl infoProg]
/-- What Parse says of a text's formula. -/
def ParseOut (w : World) (at' : Int) (r : Res Nd) (e : Ending) (w' : World) : Prop := Below w.heap.size w w' ∧ match r with
  | .ok n _ => ∃ T : Nd, e = .returned (.tuple #[.agg #[.slice none 0 0, .slice none 0 0, .string T.op, .string T.name, .int .i64 T.n, .int .i64 T.pos, .slice T.a T.kids.len T.cap], .int .i64 at', .int .i64 0]) ∧ T.Good (fun b => w.heap.size ≤ b) w' ∧ T.strip = n
  | .bad p q => e = .returned (.tuple #[.agg #[.slice none 0 0, .slice none 0 0, .string ⟨#[]⟩, .string ⟨#[]⟩, .int .i64 0, .int .i64 0, .slice none 0 0], .int .i64 p, .int .i64 q])
theorem toks_in {w : World} {b : Nat} {v : Value} {l : List Tok} (h : w.ownsRow b 53 4 v l.length (flatT l)) : ∃ a cap, v = .slice a l.length cap ∧ l.length ≤ cap ∧ cap ≤ 9223372036854775807 ∧ ToksIn w w.heap.size a l := by
  rcases h.2 with ⟨rfl, h0⟩ | ⟨g, cap, cur, rfl, hb, hg, hle, hmax, _⟩
  · exact ⟨none, 0, by rw [h0], by omega, by omega, .inl (List.eq_nil_of_length_eq_zero h0)⟩
  · refine ⟨some ⟨g, 0, none⟩, cap, rfl, hle, hmax, .inr ⟨g, 0, rfl, lt_heap hg, fun i t hi => ?_⟩⟩
    obtain ⟨hil, rfl⟩ := List.getElem?_eq_some_iff.1 hi
    obtain ⟨g0, g1, g2, g3⟩ := flatT_get l i hil
    rw [Nat.zero_add]
    exact ⟨(h.cellAt (i * 4) (by omega)).trans g0, (h.cellAt (i * 4 + 1) (by omega)).trans g1, (h.cellAt (i * 4 + 2) (by omega)).trans g2, (h.cellAt (i * 4 + 3) (by omega)).trans g3⟩
theorem below_set {w0 w : World} (h : Below w0.heap.size w0 w) (i : Nat) (v : Value) : Below w0.heap.size w0 (w.setCell ⟨w0.heap.size, i, none⟩ v) := h.setCell (Nat.le_refl _) v
set_option maxRecDepth 100000 in
set_option maxHeartbeats 16000000 in
theorem parse_err (s : ByteArray) (l : List Tok) (at' err : Int) (w : World) (hT : LTabs w) (hs : s.size ≤ 1000000) (ht : toks s = (l, at', err)) (he : (err == 0) = false) : Calls Tryd.prog 11 #[.string s] w (ParseOut w at' (.bad at' err)) := by
  have HC := Lib.hid (tokens_is s l at' err (w.alloc (pgBox none 0 0 none 0 0 ⟨#[]⟩ ⟨#[]⟩ 0 0 none 0 0)) (hT.below (below_box _ _)) hs ht)
  have he2 : (err != 0) = true := by unfold bne; rw [he]; rfl
  clear hT ht he
  go_enter Tryd.func11, Tryd.ntmps11
  go_wp2_with fail
  refine HC.out.mono ?_
  rintro e w1 ⟨v, rfl, _, hb⟩
  have HB := Lib.hid hb
  have HZ := Lib.hid (new_then hb)
  obtain ⟨p0, p1, p2, p3, p4, p5, p6⟩ := pg_cells HZ.out
  obtain ⟨g0, g1, g2, g3, g4, g5, g6⟩ := pg_frozen HZ.out
  have hz := lt_heap HZ.out
  clear hb HC
  go_wp2_with fail
  refine ret_parse (Z := w.heap.size) none 0 0 none 0 0 ⟨#[]⟩ ⟨#[]⟩ 0 0 none 0 0 Tryd.results11 rfl rfl (pg_set HZ.out _ _ _ _ _ _ _ _ _ _ _ _ _) ⟨?_, rfl⟩
  exact ((((((((box_then HB.out).setCell (Nat.le_refl _) _).setCell (Nat.le_refl _) _).setCell (Nat.le_refl _) _).setCell (Nat.le_refl _) _).setCell (Nat.le_refl _) _).setCell (Nat.le_refl _) _).setCell (Nat.le_refl _) _)
set_option maxRecDepth 100000 in
set_option maxHeartbeats 16000000 in
theorem parse_of (s : ByteArray) (l : List Tok) (at' : Int) (w : World) (hT : LTabs w) (hPT : PTab w) (hs : s.size ≤ 1000000) (ht : toks s = (l, at', 0)) (r : Res Nd) (hr : ∀ W B, PTB B W → RdS W B ((0 : Nat) : Int) (.good l) → Calls Tryd.prog 26 #[.pointer (some ⟨B, 0, none⟩)] W (PostG B ((0 : Nat) : Int) W r)) : Calls Tryd.prog 11 #[.string s] w (ParseOut w at' r) := by
  have HC := Lib.hid (tokens_is s l at' 0 (w.alloc (pgBox none 0 0 none 0 0 ⟨#[]⟩ ⟨#[]⟩ 0 0 none 0 0)) (hT.below (below_box _ _)) hs ht)
  have HRR := Lib.hid hr
  have HPT := Lib.hid hPT
  clear hT ht hr hPT
  go_enter Tryd.func11, Tryd.ntmps11
  go_wp2_with fail
  refine HC.out.mono ?_
  rintro e w1 ⟨v, rfl, hown, hb⟩
  obtain ⟨a, cap, rfl, hl1, hl2, htk⟩ := toks_in hown
  have HB := Lib.hid (box_then hb)
  have HZ := Lib.hid (new_then hb)
  have hz := lt_heap HZ.out
  have HPW : RowKit.Hid (PTB w1.heap.size (w1.alloc (.cells (rdCells a l.length cap 0 0 0) 49))) := Lib.hid (by
    have h1 := HPT.out.below HB.out
    refine ⟨h1.below (below_box _ _), ?_⟩
    obtain ⟨t, f, h2⟩ := h1
    have := lt_heap h2
    omega)
  have HRW : RowKit.Hid (RdS (w1.alloc (.cells (rdCells a l.length cap 0 0 0) 49)) w1.heap.size ((0 : Nat) : Int) (.good l)) := Lib.hid ⟨a, cap, new_at _ _, hl1, hl2, htk.same fun g hg => Below.heap_alloc _ _ _ hg⟩
  have HC2 := Lib.hid (HRR.out _ _ HPW.out HRW.out)
  have HZ1 := Lib.hid ((Below.heap_alloc w1 (.cells (rdCells a l.length cap 0 0 0) 49) _ hz).trans HZ.out)
  clear hown hb HC hl1 hl2 htk HRR
  go_wp2_with fail
  refine HC2.out.mono ?_
  rintro e w2 ⟨T, rfl, hk2, ho2⟩
  have HZ2 := Lib.hid (hk2.blk HZ1.out (by omega))
  have hz2 := lt_heap HZ2.out
  have HO := Lib.hid ho2
  have HBW : RowKit.Hid (Below w.heap.size w w2) := Lib.hid (HB.out.trans ((below_box w1 _).mono (by omega) |>.trans ⟨hk2.os, hk2.tape, hk2.output, hk2.size, fun i hi => hk2.block i (by simp; omega) (fun e => by have := Option.some.inj e; omega)⟩))
  have hzB : w1.heap.size < w2.heap.size := by have := hk2.size; simp only [alloc_size] at this; omega
  obtain ⟨p0, p1, p2, p3, p4, p5, p6⟩ := pg_cells HZ2.out
  obtain ⟨g0, g1, g2, g3, g4, g5, g6⟩ := pg_frozen HZ2.out
  have hne1 : ¬ w.heap.size = w1.heap.size := by omega
  have hne2 : ¬ w1.heap.size = w.heap.size := by omega
  clear hk2 ho2 HC2 HZ1 HPW HRW
  cases r with
  | ok n l2 =>
    obtain ⟨hr, hg, hst⟩ := HO.out
    have HG := Lib.hid hg
    have HST := Lib.hid hst
    obtain ⟨a2, cap2, hr2, _⟩ := hr
    have k3 := hr2.cells.1.2.2.2
    clear hr2 hg hst HO
    go_wp2_with fail
    refine ret_parse (Z := w.heap.size) none 0 0 none 0 0 T.op T.name T.n T.pos T.a T.kids.len T.cap Tryd.results11 rfl rfl (pg_set (pg_set HZ2.out none 0 0 none 0 0 T.op T.name T.n T.pos T.a T.kids.len T.cap) _ _ _ _ _ _ _ _ _ _ _ _ _) ⟨(by repeat (with_reducible first | exact HBW.out | refine below_set ?_ _ _)), T, rfl, ?_, HST.out⟩
    refine Nd.Good.mono (S := fun b => w.heap.size + 1 ≤ b) ?_ (fun b hb => by omega)
    exact (HG.out.mono (S' := fun b => w.heap.size + 1 ≤ b) (fun b hb => by have h5 : w1.heap.size + 1 ≤ b := (by simpa using hb); omega)).from (sets_from _ (by omega) [(0, _), (1, _), (2, _), (3, _), (4, _), (5, _), (6, _), (0, _), (1, _), (2, _), (3, _), (4, _), (5, _), (6, _)])
  | bad p q =>
    have hr : RdS w2 w1.heap.size ((0 : Nat) : Int) (.bad p q) := HO.out
    have hq := hr.2
    have hq2 : (q != 0) = true := by unfold bne; rw [hq]; rfl
    have k2 := hr.1.cells.1.2.2.1
    have k3 := hr.1.cells.1.2.2.2
    obtain ⟨w3, hW⟩ : ∃ x, x = (((((((w2.setCell ⟨w.heap.size, 0, none⟩ (.slice none 0 0)).setCell ⟨w.heap.size, 1, none⟩ (.slice none 0 0)).setCell ⟨w.heap.size, 2, none⟩ (.string T.op)).setCell ⟨w.heap.size, 3, none⟩ (.string T.name)).setCell ⟨w.heap.size, 4, none⟩ (.int .i64 T.n)).setCell ⟨w.heap.size, 5, none⟩ (.int .i64 T.pos)).setCell ⟨w.heap.size, 6, none⟩ (.slice T.a T.kids.len T.cap)) := ⟨_, rfl⟩
    have k2' : w3.cell? ⟨w1.heap.size, 2, none⟩ = some (.int .i64 p) := by rw [hW]; exact cell_same (by rw [Below.heap_setCell _ _ _ _ (by simpa using hne2), Below.heap_setCell _ _ _ _ (by simpa using hne2), Below.heap_setCell _ _ _ _ (by simpa using hne2), Below.heap_setCell _ _ _ _ (by simpa using hne2), Below.heap_setCell _ _ _ _ (by simpa using hne2), Below.heap_setCell _ _ _ _ (by simpa using hne2), Below.heap_setCell _ _ _ _ (by simpa using hne2)]) k2
    have k3' : w3.cell? ⟨w1.heap.size, 3, none⟩ = some (.int .i64 q) := by rw [hW]; exact cell_same (by rw [Below.heap_setCell _ _ _ _ (by simpa using hne2), Below.heap_setCell _ _ _ _ (by simpa using hne2), Below.heap_setCell _ _ _ _ (by simpa using hne2), Below.heap_setCell _ _ _ _ (by simpa using hne2), Below.heap_setCell _ _ _ _ (by simpa using hne2), Below.heap_setCell _ _ _ _ (by simpa using hne2), Below.heap_setCell _ _ _ _ (by simpa using hne2)]) k3
    have HZ3 : RowKit.Hid (w3.heap[w.heap.size]? = some (pgBox none 0 0 none 0 0 T.op T.name T.n T.pos T.a T.kids.len T.cap)) := Lib.hid (by rw [hW]; exact pg_set HZ2.out _ _ _ _ _ _ _ _ _ _ _ _ _)
    have HBW3 : RowKit.Hid (Below w.heap.size w w3) := Lib.hid (by rw [hW]; exact (by repeat (with_reducible first | exact HBW.out | refine below_set ?_ _ _)))
    clear hr HO
    go_wp2_with fail
    rw [← hW]
    clear hW k2 k3 p0 p1 p2 p3 p4 p5 p6 g0 g1 g2 g3 g4 g5 g6
    obtain ⟨p0, p1, p2, p3, p4, p5, p6⟩ := pg_cells HZ3.out
    obtain ⟨g0, g1, g2, g3, g4, g5, g6⟩ := pg_frozen HZ3.out
    go_region
    all_goals
      go_wp2_with fail
      refine ret_parse (Z := w.heap.size) none 0 0 none 0 0 ⟨#[]⟩ ⟨#[]⟩ 0 0 none 0 0 Tryd.results11 rfl rfl (drew_heap (pg_set HZ3.out _ _ _ _ _ _ _ _ _ _ _ _ _)) ⟨?_, rfl⟩
      exact (by repeat (with_reducible first | exact HBW3.out | refine Below.drew ?_ | refine below_set ?_ _ _))
end Go.Proofs.YtmmicnjiikiklaaDoor
