/- What the reader of sibylref2 is, and what its looks answer: the class of a rune, whether it is this, its place. -/
import Derived.Test.YtpdlnpllhjcejaaDoorLexSame
import Derived.Test.YtpdlnpllhjcejaaDoorRunesRCls
import Derived.Test.YtpdlnpllhjcejaaDoorRunesREach
import Derived.Test.YtpdlnpllhjcejaaDoorLexPure2
import Derived.Test.YtpdlnpllhjcejaaDoorRows
import Derived.WalkKit
import Derived.WalkLawsBesides
import Derived.WalkSpells
import Derived.ProofKit
import Derived.Outline
import Derived.Deep.QuietTactic
import Derived.BigQuiet
import Derived.Deep.Light
import Derived.Deep.CutBlock
import Derived.Deep.DeepCutAuto
import Derived.Deep.DeepFit
import Derived.Deep.LoopGhost
import Derived.Lib.Hide
import Derived.Lib.OthersKept
import Derived.IntWalk
import Derived.StillTailTactics
namespace Go.Proofs.YtpdlnpllhjcejaaDoor
open Go.RowKit
/-- The reader s block, known whole. -/
def Rd (w : World) (R : Nat) (s : ByteArray) (lv : Value) (bad i : Int) : Prop := w.heap[R]? = some (.cells #[.string s, lv, .int .i64 bad, .int .i64 i] 55)
structure RS (w : World) (R : Nat) (s : ByteArray) (lv : Value) (L : RL) (bad : Int) (i : Nat) : Prop where
  rd : Rd w R s lv bad i
  row : w.ownsRow (R + 1) 84 2 lv L.length (flat L)
  le : i ≤ L.length
  sz : L.length ≤ 1000000
theorem rd_cells {w : World} {R : Nat} {s : ByteArray} {lv : Value} {bad i : Int} (h : Rd w R s lv bad i) : (w.cell? ⟨R, 0, none⟩ = some (.string s) ∧ w.cell? ⟨R, 1, none⟩ = some lv ∧ w.cell? ⟨R, 2, none⟩ = some (.int .i64 bad) ∧ w.cell? ⟨R, 3, none⟩ = some (.int .i64 i)) ∧ (w.frozen? ⟨R, 0, none⟩ = false ∧ w.frozen? ⟨R, 1, none⟩ = false ∧ w.frozen? ⟨R, 2, none⟩ = false ∧ w.frozen? ⟨R, 3, none⟩ = false) := by
  unfold Rd at h
  refine ⟨⟨?_, ?_, ?_, ?_⟩, ⟨?_, ?_, ?_, ?_⟩⟩
  all_goals first | (rw [cell_of_row w R _ _ _ _ h]; rfl) | simp [World.frozen?, h]
theorem Rd.lt {w : World} {R : Nat} {s : ByteArray} {lv : Value} {bad i : Int} (h : Rd w R s lv bad i) : R < w.heap.size := (Array.getElem?_eq_some_iff.1 h).1
theorem Rd.below {w w' : World} {R : Nat} {s : ByteArray} {lv : Value} {bad i : Int} (h : Rd w R s lv bad i) (hb : Below w.heap.size w w') : Rd w' R s lv bad i := by
  unfold Rd at *
  rw [hb.block R (Array.getElem?_eq_some_iff.1 h).1]; exact h
theorem RS.below {w w' : World} {R : Nat} {s : ByteArray} {lv : Value} {L : RL} {bad : Int} {i : Nat} (h : RS w R s lv L bad i) (hb : Below w.heap.size w w') : RS w' R s lv L bad i :=
  ⟨h.rd.below hb, own_below h.row hb, h.le, h.sz⟩
theorem RS.slice {w : World} {R : Nat} {s : ByteArray} {lv : Value} {L : RL} {bad : Int} {i : Nat} (h : RS w R s lv L bad i) : ∃ a cap, lv = .slice a L.length cap ∧ (0 < L.length → ∃ g, a = some ⟨g, 0, none⟩ ∧ R < g ∧ g < w.heap.size ∧ ∀ j (hj : j < L.length), w.cell? ⟨g, j * 2, none⟩ = some (.int .i32 (L[j]'hj).1) ∧ w.cell? ⟨g, j * 2 + 1, none⟩ = some (.int .i64 (L[j]'hj).2)) := by
  have hr := h.row
  rcases h.row.2 with ⟨rfl, h0⟩ | ⟨g, cap, cur, rfl, hg, hc⟩
  · exact ⟨none, 0, by rw [h0], fun hn => by omega⟩
  · refine ⟨_, cap, rfl, fun _ => ⟨g, rfl, by omega, (hr.lt g rfl).2, fun j hj => ?_⟩⟩
    exact ⟨(hr.cellAt (j * 2) (by omega)).trans (flat_get0 L j hj), (hr.cellAt (j * 2 + 1) (by omega)).trans (flat_get1 L j hj)⟩
def clsAt (L : RL) (j : Nat) : Int := match L[j]? with
  | some q => cls q.1
  | none => -1
def isAt (L : RL) (j : Nat) (c : Int) : Bool := match L[j]? with
  | some q => q.1 == c
  | none => false
def posAt (s : ByteArray) (L : RL) (j : Nat) : Int := match L[j]? with
  | some q => q.2
  | none => s.size
/-- A quiet call behind a quiet region. -/
theorem quiet_more {P : Program} {f : FuncId} {args : Array Value} {w : World} {a n : Nat} {v : Value}
    (h : Calls P f args (w.drewN (a + n)) fun e w' => e = .returned v ∧ w.drewN (a + n) = w') :
    Calls P f args (w.drewN (a + n)) fun e w'' => e = .returned v ∧ ∃ m, w'' = w.drewN (a + m) :=
  h.mono fun _ _ hx => ⟨hx.1, n, hx.2.symm⟩
set_option maxRecDepth 100000 in
set_option maxHeartbeats 2000000 in
theorem rdclass_any (w : World) (R : Nat) (s : ByteArray) (lv : Value) (L : RL) (bad : Int) (i k : Nat) (hS : RS w R s lv L bad i) (hk : k ≤ 1000000) :
    Calls Tryd.prog 55 #[.pointer (some ⟨R, 0, none⟩), .int .i64 k] w fun e w' => e = .returned (.int .i64 (clsAt L (i + k))) ∧ ∃ q, w' = w.drewN q := by
  obtain ⟨⟨k0, k1, k2, k3⟩, f0, f1, f2, f3⟩ := rd_cells hS.rd
  obtain ⟨a, cap, rfl, hrow⟩ := hS.slice
  have hle := hS.le
  have hsz := hS.sz
  have hw1 : IntKind.i64.wrap ((i : Int) + (k : Int)) = (i : Int) + (k : Int) := by rw [IntKind.wrap_i64]; omega
  by_cases h : i + k < L.length
  · obtain ⟨g, rfl, hg, hgs, hcells⟩ := hrow (by omega)
    have hc0 := (hcells (i + k) h).1
    have hv : clsAt L (i + k) = cls (L[i + k]'h).1 := by unfold clsAt; rw [List.getElem?_eq_getElem h]
    rw [hv]
    generalize (L[i + k]'h) = q at hc0
    have hlt : (i : Int) + (k : Int) < (L.length : Int) := by omega
    have h0 : 0 ≤ (i : Int) + (k : Int) := by omega
    have hnat : ((i : Int) + (k : Int)).toNat = i + k := by omega
    clear hrow hcells hv hS h
    go_enter Tryd.func55, Tryd.ntmps55
    go_wp2
    go_quiet (fail)
    go_wp2
    go_quiet ((go_at_call 81; exact quiet_more (rclass_any _ _)))
    go_wp2
    go_ret
    exact ⟨rfl, _, by rw [World.drewN_drewN]⟩
  · have hv : clsAt L (i + k) = -1 := by unfold clsAt; rw [List.getElem?_eq_none (by omega)]
    rw [hv]
    have hge : (L.length : Int) ≤ (i : Int) + (k : Int) := by omega
    have hge' : L.length ≤ i + k := by omega
    have hgd : decide ((L.length : Int) ≤ (i : Int) + (k : Int)) = true := by rw [decide_eq_true_iff]; omega
    clear hrow hv hS h
    go_enter Tryd.func55, Tryd.ntmps55
    go_wp2
    go_quiet (fail)
    go_wp2
    go_ret
    exact ⟨rfl, _, rfl⟩
set_option maxRecDepth 100000 in
set_option maxHeartbeats 2000000 in
theorem rdis_any (w : World) (R : Nat) (s : ByteArray) (lv : Value) (L : RL) (bad c : Int) (i k : Nat) (hS : RS w R s lv L bad i) (hk : k ≤ 1000000) :
    Calls Tryd.prog 56 #[.pointer (some ⟨R, 0, none⟩), .int .i64 k, .int .i32 c] w fun e w' => e = .returned (.bool (isAt L (i + k) c)) ∧ ∃ q, w' = w.drewN q := by
  obtain ⟨⟨k0, k1, k2, k3⟩, f0, f1, f2, f3⟩ := rd_cells hS.rd
  obtain ⟨a, cap, rfl, hrow⟩ := hS.slice
  have hle := hS.le
  have hsz := hS.sz
  have hw1 : IntKind.i64.wrap ((i : Int) + (k : Int)) = (i : Int) + (k : Int) := by rw [IntKind.wrap_i64]; omega
  by_cases h : i + k < L.length
  · obtain ⟨g, rfl, hg, hgs, hcells⟩ := hrow (by omega)
    have hc0 := (hcells (i + k) h).1
    have hv : isAt L (i + k) c = ((L[i + k]'h).1 == c) := by unfold isAt; rw [List.getElem?_eq_getElem h]
    rw [hv]
    generalize (L[i + k]'h) = q at hc0
    have hlt : (i : Int) + (k : Int) < (L.length : Int) := by omega
    have h0 : 0 ≤ (i : Int) + (k : Int) := by omega
    have hnat : ((i : Int) + (k : Int)).toNat = i + k := by omega
    clear hrow hcells hv hS h
    go_enter Tryd.func56, Tryd.ntmps56
    go_wp2
    go_quiet (fail)
    go_wp2
    go_ret
    exact ⟨rfl, _, rfl⟩
  · have hv : isAt L (i + k) c = false := by unfold isAt; rw [List.getElem?_eq_none (by omega)]
    rw [hv]
    have hge : (L.length : Int) ≤ (i : Int) + (k : Int) := by omega
    have hge' : L.length ≤ i + k := by omega
    have hgd : decide ((i : Int) + (k : Int) < (L.length : Int)) = false := by rw [decide_eq_false_iff_not]; omega
    clear hrow hv hS h
    go_enter Tryd.func56, Tryd.ntmps56
    go_wp2
    go_quiet (fail)
    go_wp2
    go_ret
    exact ⟨rfl, _, rfl⟩
set_option maxRecDepth 100000 in
set_option maxHeartbeats 2000000 in
theorem rdat_any (w : World) (R : Nat) (s : ByteArray) (lv : Value) (L : RL) (bad : Int) (i k : Nat) (hS : RS w R s lv L bad i) (hk : k ≤ 1000000) :
    Calls Tryd.prog 32 #[.pointer (some ⟨R, 0, none⟩), .int .i64 k] w fun e w' => e = .returned (.int .i64 (posAt s L (i + k))) ∧ ∃ q, w' = w.drewN q := by
  obtain ⟨⟨k0, k1, k2, k3⟩, f0, f1, f2, f3⟩ := rd_cells hS.rd
  obtain ⟨a, cap, rfl, hrow⟩ := hS.slice
  have hle := hS.le
  have hsz := hS.sz
  have hw1 : IntKind.i64.wrap ((i : Int) + (k : Int)) = (i : Int) + (k : Int) := by rw [IntKind.wrap_i64]; omega
  by_cases h : i + k < L.length
  · obtain ⟨g, rfl, hg, hgs, hcells⟩ := hrow (by omega)
    have hc0 := (hcells (i + k) h).2
    have hv : posAt s L (i + k) = (L[i + k]'h).2 := by unfold posAt; rw [List.getElem?_eq_getElem h]
    rw [hv]
    generalize (L[i + k]'h) = q at hc0
    have hlt : (i : Int) + (k : Int) < (L.length : Int) := by omega
    have h0 : 0 ≤ (i : Int) + (k : Int) := by omega
    have hnat : ((i : Int) + (k : Int)).toNat = i + k := by omega
    clear hrow hcells hv hS h
    go_enter Tryd.func32, Tryd.ntmps32
    go_wp2
    go_quiet (fail)
    go_wp2
    refine wp_region_quiet_lit (by kernel_rfl) (by kernel_rfl) ?_
    repeat (any_goals (first | go_big_quiet_step (fail) | quiet_step (fail)))
    all_goals (refine wpQuiet_nil ?_; intro _ hw'; obtain ⟨nq2, hw''⟩ := hw'; subst hw'')
    go_wp2
    go_ret
    exact ⟨rfl, _, by rw [World.drewN_drewN]⟩
  · have hv : posAt s L (i + k) = s.size := by unfold posAt; rw [List.getElem?_eq_none (by omega)]
    rw [hv]
    have hge : (L.length : Int) ≤ (i : Int) + (k : Int) := by omega
    have hge' : L.length ≤ i + k := by omega
    clear hrow hv hS h
    go_enter Tryd.func32, Tryd.ntmps32
    go_wp2
    go_quiet (fail)
    go_wp2
    go_ret
    exact ⟨rfl, _, rfl⟩
end Go.Proofs.YtpdlnpllhjcejaaDoor
