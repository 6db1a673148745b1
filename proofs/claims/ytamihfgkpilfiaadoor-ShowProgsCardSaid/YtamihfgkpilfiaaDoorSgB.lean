/- The writer: variables. -/
import Derived.Test.YtamihfgkpilfiaaDoorSgA
import Derived.Test.YtamihfgkpilfiaaDoorShG
import Derived.Test.YtamihfgkpilfiaaDoorLexA
import Derived.Test.YtamihfgkpilfiaaDoorRows
import Derived.WalkKit
import Derived.WalkLawsBesides
import Derived.WalkSpells
import Derived.ProofKit
import Derived.Outline
import Derived.Deep.QuietTactic
import Derived.BigQuiet
import Derived.Deep.Light
import Derived.Deep.CutBlock
import Derived.Deep.DeepCutAuto
import Derived.Deep.DeepFit
import Derived.Deep.LoopGhost
import Derived.Lib.Hide
import Derived.Lib.OthersKept
import Derived.IntWalk
import Derived.StillTailTactics
import Derived.Deep.RegionHeld3
namespace Go.Proofs.YtamihfgkpilfiaaDoor
open Go.RowKit
/-! The writer: variables. -/
abbrev boxD (name : ByteArray) (order pos : Int) : Obj := .cells #[.string name, .int .i64 order, .int .i64 pos] 55
theorem boxD_cells {w : World} {B : Nat} {name : ByteArray} {order pos : Int} (h : w.heap[B]? = some (boxD name order pos)) : w.cell? ⟨B, 0, none⟩ = some (.string name) ∧ w.cell? ⟨B, 1, none⟩ = some (.int .i64 order) ∧ w.cell? ⟨B, 2, none⟩ = some (.int .i64 pos) := by
  refine ⟨?_, ?_, ?_⟩ <;> (rw [cell_of_row _ _ _ _ _ _ h]; rfl)
theorem obj_kept {b k : Nat} {cs : Array Value} {t : TypeId} {w w' : World} (h : w.heap[k]? = some (.cells cs t)) (ht : t ≠ tU) (hk : k ≠ b) (hK : KeptW b w w') : w'.heap[k]? = some (.cells cs t) := by
  refine hK k _ h (by simpa using hk) ?_
  intro c fz hx
  injection hx with _ h2 _
  exact absurd h2 ht
set_option maxRecDepth 100000 in
set_option maxHeartbeats 4000000 in
theorem wdecl_any (d : Dc) (hd : d.ok = true) (B b : Nat) (l t : L8) (w : World) (h : WB B b l w) (ht : t = dTx d) (hlen : l.length + t.length ≤ 140737488351232) :
    Calls Tryd.prog 32 #[wAt b, .agg #[.string d.name, .int .i64 d.order, .int .i64 d.pos]] w (WPost B b (l ++ t) w) := by
  obtain ⟨hn, h0, h1⟩ := dok_parts hd
  obtain ⟨name, n, pos⟩ := d
  simp only at hn h0 h1
  have hBw : B ≤ w.heap.size := by have := h.lt; omega
  have hbw := h.lt
  have hpx : Calls Tryd.prog 33 #[wAt b, .slice (some ⟨w.heap.size + 1, 0, none⟩) 4 4] ((w.alloc (boxD name n pos)).drew.alloc (.cells #[.string ⟨#[118, 97, 114]⟩, .string ⟨(dgs n).toArray⟩, .string ⟨#[32]⟩, .string name] 9)) (WPost B b (l ++ t) (w.alloc (boxD name n pos)).drew) := by
    have := put4 B b l ⟨#[118, 97, 114]⟩ ⟨(dgs n).toArray⟩ ⟨#[32]⟩ name (w.alloc (boxD name n pos)).drew ((h.alloc _).below (Below.drew (Below.refl _ _))) (by rw [ht] at hlen; exact hlen)
    rw [show (w.alloc (boxD name n pos)).drew.heap.size = w.heap.size + 1 from alloc_size _ _] at this
    rw [ht]
    exact this
  have HPx := Lib.hid hpx
  have HI := Lib.hid (fun W => itoa_any n W h0 (by omega))
  have HN1 := Lib.hid (new_at w (boxD name n pos))
  obtain ⟨c0, c1, c2⟩ := boxD_cells HN1.out
  clear hpx h ht hlen hd hn
  have hc3 := cellsDecl
  go_enter Tryd.func32, Tryd.ntmps32
  go_wp2_with fail
  go_region_held3 (fun wz => wz.cell? ⟨w.heap.size, 0, none⟩ = some (.string name) ∧ wz.cell? ⟨w.heap.size, 1, none⟩ = some (.int .i64 n)) (go_keep) (first | (go_at_call 55; refine (HI.out _).mono ?_; rintro e w2 ⟨rfl, rfl⟩) | (go_at_call 33; refine HPx.out.mono ?_; rintro e w2 ⟨rfl, hW2, hb2, hk2⟩; have HN2 := Lib.hid (obj_kept (w := (w.alloc (boxD name n pos)).drew) HN1.out (by decide) (by omega) hk2); clear c0 c1 c2; obtain ⟨c0, c1, c2⟩ := boxD_cells HN2.out; have HW2 := Lib.hid hW2; have Hb2 := Lib.hid hb2; have Hk2 := Lib.hid hk2; clear hW2 hb2 hk2))
  have HZ := Lib.hid (show WPost B b (l ++ t) w (.returned (.tuple #[])) w2 from ⟨rfl, HW2.out, (((below_box w (boxD name n pos)).mono hBw).drew).trans Hb2.out, ((kept_below (b := b) (below_box w (boxD name n pos))).drew).trans Hk2.out⟩)
  clear c0 c1 c2 HN1 HN2 HPx HI Hb2 Hk2 HW2
  go_wp2_with fail
  go_end0
  exact HZ.out
end Go.Proofs.YtamihfgkpilfiaaDoor
