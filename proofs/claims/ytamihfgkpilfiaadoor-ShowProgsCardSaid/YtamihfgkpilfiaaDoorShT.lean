/- The writer of package show: terms. -/
import Derived.Test.YtamihfgkpilfiaaDoorShH
import Derived.Test.YtamihfgkpilfiaaDoorLexA
import Derived.Test.YtamihfgkpilfiaaDoorRows
import Derived.WalkKit
import Derived.WalkLawsBesides
import Derived.WalkSpells
import Derived.ProofKit
import Derived.Outline
import Derived.Deep.QuietTactic
import Derived.BigQuiet
import Derived.Deep.Light
import Derived.Deep.CutBlock
import Derived.Deep.DeepCutAuto
import Derived.Deep.DeepFit
import Derived.Deep.LoopGhost
import Derived.Lib.Hide
import Derived.Lib.OthersKept
import Derived.IntWalk
import Derived.StillTailTactics
namespace Go.Proofs.YtamihfgkpilfiaaDoor
open Go.RowKit
/-! Terms. -/
def twoN (op : ByteArray) (pos : Int) (a : Option Addr) (cap : Nat) (x y : Nd) : Nd := ⟨op, ⟨#[]⟩, 0, pos, a, cap, .cons x.op x.name x.n x.pos x.a x.cap x.kids (.cons y.op y.name y.n y.pos y.a y.cap y.kids .nil)⟩
def TmC (T : Nd) : Prop := T.okT = true → ∀ (B b : Nat) (l : L8) (w : World), TIn B T w → WB B b l w → l.length + T.tx.length ≤ 140737488351232 → Calls Tryd.prog 30 #[wAt b, T.val] w (WPost B b (l ++ T.tx) w)
set_option maxRecDepth 100000 in
set_option maxHeartbeats 4000000 in
theorem two_t (op : ByteArray) (pos : Int) (a : Option Addr) (cap : Nat) (x y : Nd) (ho : isJoin op = true ∨ opF2 op = true ∨ opFr op = true) (hx : TmC x) (hy : TmC y) (kx : x.okT = true) (ky : y.okT = true)
    (B b : Nat) (l t : L8) (w : World) (hT : TIn B (twoN op pos a cap x y) w) (h : WB B b l w)
    (ht : t = x.tx ++ ([32] ++ opSign op ++ [32]) ++ y.tx) (hlen : l.length + t.length ≤ 140737488351232) :
    Calls Tryd.prog 54 #[wAt b, .agg #[.string op, .string ⟨#[]⟩, .int .i64 0, .int .i64 pos, .slice a 2 cap], .func (.func 30) #[wAt b] #[]] w (WPost B b (l ++ t) w) := by
  have hBw := hT.size
  have hbw := h.lt
  have hL1 : l.length + x.tx.length ≤ 140737488351232 := by rw [ht] at hlen; simp only [List.length_append] at hlen; omega
  have hL2 : (l ++ x.tx).length + ([32] ++ opSign op ++ [32]).length ≤ 140737488351232 := by rw [ht] at hlen; simp only [List.length_append] at hlen ⊢; omega
  have hL3 : (l ++ x.tx ++ ([32] ++ opSign op ++ [32])).length + y.tx.length ≤ 140737488351232 := by rw [ht] at hlen; simp only [List.length_append] at hlen ⊢; omega
  have HE := Lib.hid (show l ++ x.tx ++ ([32] ++ opSign op ++ [32]) ++ y.tx = l ++ t by rw [ht]; simp only [List.append_assoc])
  have HT1 := hT.alloc (boxOf op ⟨#[]⟩ 0 pos a 2 cap)
  have HW1 := h.alloc (boxOf op ⟨#[]⟩ 0 pos a 2 cap)
  have HN1 := Lib.hid (new_at w (boxOf op ⟨#[]⟩ 0 pos a 2 cap))
  have HK0 : Calls Tryd.prog 53 #[.agg #[.string op, .string ⟨#[]⟩, .int .i64 0, .int .i64 pos, .slice a 2 cap], .int .i64 0] (w.alloc (boxOf op ⟨#[]⟩ 0 pos a 2 cap)) fun e w' => e = .returned x.val ∧ Below (w.alloc (boxOf op ⟨#[]⟩ 0 pos a 2 cap)).heap.size (w.alloc (boxOf op ⟨#[]⟩ 0 pos a 2 cap)) w' := kid_any (twoN op pos a cap x y) x 0 _ HT1.now rfl
  have HL1 := Lib.hid hL1
  have HL2 := Lib.hid hL2
  have HL3 := Lib.hid hL3
  have HH1 := Lib.hid HT1
  have HWW := Lib.hid HW1
  have HKK := Lib.hid HK0
  clear HT1 HW1 HK0 hL1 hL2 hL3 ht hlen hT h
  have hc5 := cellsNode
  go_enter Tryd.func54, Tryd.ntmps54
  go_wp2_with fail
  refine HKK.out.mono ?_
  rintro e w2 ⟨rfl, hb2⟩
  have hT2 := HH1.out.next (hb2.mono (by simp; omega))
  have hW2 := HWW.out.below hb2
  have HB2 := Lib.hid (((below_box w (boxOf op ⟨#[]⟩ 0 pos a 2 cap)).mono hBw).trans (hb2.mono (by simp; omega)))
  have HKP2 := Lib.hid ((kept_below (b := b) (below_box w (boxOf op ⟨#[]⟩ 0 pos a 2 cap))).trans (kept_below hb2))
  have HN2 := Lib.hid (box_kept HN1.out (by omega) (kept_below (b := b) hb2))
  have HC1 := Lib.hid (hx kx B b l w2 (hT2.kid (i := 0) rfl) hW2 HL1.out)
  have HT2 := Lib.hid hT2
  clear hb2 hT2 hW2 HKK HH1 HWW HN1 hx
  go_wp2_with fail
  refine HC1.out.mono ?_
  rintro e w3 ⟨rfl, hW3, hb3, hk3⟩
  have HT3 := Lib.hid (HT2.out.next hb3)
  have HN3 := Lib.hid (box_kept HN2.out (by omega) hk3)
  obtain ⟨c0, c1, c2, c3, c4⟩ := box_cells HN3.out
  have HB3 := Lib.hid (HB2.out.trans hb3)
  have HKP3 := Lib.hid (HKP2.out.trans hk3)
  have HP := Lib.hid (put3 B b (l ++ x.tx) ⟨#[32]⟩ ⟨(opSign op).toArray⟩ ⟨#[32]⟩ w3 hW3 HL2.out)
  have HS := Lib.hid (wsign_any op ho w3)
  clear hb3 hk3 hW3 HC1 HT2 HN2 HB2 HKP2
  go_wp2_with fail
  refine HS.out.mono ?_
  rintro e w3' ⟨rfl, rfl⟩
  clear HS
  go_wp2_with fail
  refine HP.out.mono ?_
  rintro e w4 ⟨rfl, hW4, hb4, hk4⟩
  have hN4 := box_kept HN3.out (by omega) hk4
  obtain ⟨d0, d1, d2, d3, d4⟩ := box_cells hN4
  have HT4 := HT3.out.next hb4
  have HB4 := Lib.hid (HB3.out.trans hb4)
  have HKP4 := Lib.hid (HKP3.out.trans hk4)
  have HK4 : Calls Tryd.prog 53 #[.agg #[.string op, .string ⟨#[]⟩, .int .i64 0, .int .i64 pos, .slice a 2 cap], .int .i64 1] w4 fun e w' => e = .returned y.val ∧ Below w4.heap.size w4 w' := kid_any (twoN op pos a cap x y) y 1 _ HT4.now rfl
  have HKK := Lib.hid HK4
  have HH4 := Lib.hid HT4
  have HW4 := Lib.hid hW4
  clear HP hN4 hb4 hk4 HK4 HT4 hW4 c0 c1 c2 c3 c4 HT3 HN3 HB3 HKP3
  go_wp2_with fail
  refine HKK.out.mono ?_
  rintro e w5 ⟨rfl, hb5⟩
  have hT5 := HH4.out.next (hb5.mono HH4.out.size)
  have HC5 := Lib.hid (hy ky B b _ w5 (hT5.kid (i := 1) rfl) (HW4.out.below hb5) HL3.out)
  have HB5 := Lib.hid (HB4.out.trans (hb5.mono HH4.out.size))
  have HKP5 := Lib.hid (HKP4.out.trans (kept_below hb5))
  clear hb5 hT5 hy HKK HH4 HW4 HB4 HKP4 d0 d1 d2 d3 d4
  go_wp2_with fail
  refine HC5.out.mono ?_
  rintro e w6 ⟨rfl, hW6, hb6, hk6⟩
  rw [HE.out] at hW6
  have HZ := Lib.hid (show WPost B b (l ++ t) w (.returned (.tuple #[])) w6 from ⟨rfl, hW6, HB5.out.trans hb6, HKP5.out.trans hk6⟩)
  clear hW6 hb6 hk6 HC5 HB5 HKP5
  go_wp2_with fail
  go_end0
  exact HZ.out
end Go.Proofs.YtamihfgkpilfiaaDoor
