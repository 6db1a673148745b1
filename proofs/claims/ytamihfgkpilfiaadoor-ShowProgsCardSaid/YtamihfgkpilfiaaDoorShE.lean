/- The writer of package show: ex and all. -/
import Derived.Test.YtamihfgkpilfiaaDoorShF
import Derived.Test.YtamihfgkpilfiaaDoorLexA
import Derived.Test.YtamihfgkpilfiaaDoorRows
import Derived.WalkKit
import Derived.WalkLawsBesides
import Derived.WalkSpells
import Derived.ProofKit
import Derived.Outline
import Derived.Deep.QuietTactic
import Derived.BigQuiet
import Derived.Deep.Light
import Derived.Deep.CutBlock
import Derived.Deep.DeepCutAuto
import Derived.Deep.DeepFit
import Derived.Deep.LoopGhost
import Derived.Lib.Hide
import Derived.Lib.OthersKept
import Derived.IntWalk
import Derived.StillTailTactics
import Derived.Deep.RegionHeld3
namespace Go.Proofs.YtamihfgkpilfiaaDoor
open Go.RowKit
set_option maxRecDepth 100000 in
set_option maxHeartbeats 4000000 in
theorem form_ex (name : ByteArray) (n pos : Int) (a : Option Addr) (cap : Nat) (x : Nd) (B b : Nat) (l t : L8) (w : World) (hT : TIn B ⟨⟨#[101, 120]⟩, name, n, pos, a, cap, .cons x.op x.name x.n x.pos x.a x.cap x.kids .nil⟩ w) (h : WB B b l w) (hx : FmC x) (kx : x.okF = true) (h0 : 0 ≤ n) (h1 : n ≤ 99) (ht : t = ([40] ++ (⟨#[101, 120]⟩ : ByteArray).data.toList ++ dgs n ++ [32] ++ name.data.toList ++ [58, 32]) ++ x.fx ++ [41]) (hlen : l.length + t.length ≤ 140737488351232) :
    Calls Tryd.prog 25 #[wAt b, .agg #[.string ⟨#[101, 120]⟩, .string name, .int .i64 n, .int .i64 pos, .slice a 1 cap]] w (WPost B b (l ++ t) w) := by
  have hBw := hT.size
  have hbw := h.lt
  obtain ⟨r, hr⟩ : ∃ r, r = [40] ++ (⟨#[101, 120]⟩ : ByteArray).data.toList ++ dgs n ++ [32] ++ name.data.toList ++ [58, 32] := ⟨_, rfl⟩
  rw [← hr] at ht
  have hL1 : l.length + r.length ≤ 140737488351232 := by rw [ht] at hlen; simp only [List.length_append] at hlen ⊢; omega
  have hL2 : (l ++ r).length + x.fx.length ≤ 140737488351232 := by rw [ht] at hlen; simp only [List.length_append] at hlen ⊢; omega
  have hL3 : (l ++ r ++ x.fx).length + ([41] : L8).length ≤ 140737488351232 := by rw [ht] at hlen; simp only [List.length_append] at hlen ⊢; omega
  have HE := Lib.hid (show l ++ r ++ x.fx ++ [41] = l ++ t by rw [ht]; simp only [List.append_assoc])
  have HP1 : Hid (∀ W : World, WB B b l W → Calls Tryd.prog 33 #[wAt b, .slice (some ⟨W.heap.size, 0, none⟩) 6 6] (W.alloc (.cells #[.string ⟨#[40]⟩, .string ⟨#[101, 120]⟩, .string ⟨(dgs n).toArray⟩, .string ⟨#[32]⟩, .string name, .string ⟨#[58, 32]⟩] 9)) (WPost B b (l ++ r) W)) := by
    subst hr
    exact Lib.hid fun W hW => put6 B b l ⟨#[40]⟩ ⟨#[101, 120]⟩ ⟨(dgs n).toArray⟩ ⟨#[32]⟩ name ⟨#[58, 32]⟩ W hW hL1
  have HI := Lib.hid (fun W => itoa_any n W h0 h1)
  have HT1 := Lib.hid (hT.alloc (boxOf ⟨#[101, 120]⟩ name n pos a 1 cap))
  have HN1 := Lib.hid (new_at w (boxOf ⟨#[101, 120]⟩ name n pos a 1 cap))
  have HW1 := Lib.hid (h.alloc (boxOf ⟨#[101, 120]⟩ name n pos a 1 cap))
  have HL2 := Lib.hid hL2
  have HL3 := Lib.hid hL3
  clear hT h hL1 hL2 hL3 ht hlen hr
  have hc5 := cellsNode
  go_enter Tryd.func25, Tryd.ntmps25
  go_wp2_with fail
  have HPx : Hid (Calls Tryd.prog 33 #[wAt b, .slice (some ⟨w.heap.size + 1, 0, none⟩) 6 6] ((w.alloc (boxOf ⟨#[101, 120]⟩ name n pos a 1 cap)).drew.alloc (.cells #[.string ⟨#[40]⟩, .string ⟨#[101, 120]⟩, .string ⟨(dgs n).toArray⟩, .string ⟨#[32]⟩, .string name, .string ⟨#[58, 32]⟩] 9)) (WPost B b (l ++ r) (w.alloc (boxOf ⟨#[101, 120]⟩ name n pos a 1 cap)).drew)) := by
    have := HP1.out (w.alloc (boxOf ⟨#[101, 120]⟩ name n pos a 1 cap)).drew (HW1.out.below ((Below.refl _ _).drew))
    rw [show (w.alloc (boxOf ⟨#[101, 120]⟩ name n pos a 1 cap)).drew.heap.size = w.heap.size + 1 from alloc_size _ _] at this
    exact Lib.hid this
  obtain ⟨c0, c1, c2, c3, c4⟩ := box_cells HN1.out
  clear HP1
  go_region_held3 (fun wz => wz.cell? ⟨w.heap.size, 0, none⟩ = some (.string ⟨#[101, 120]⟩) ∧ wz.cell? ⟨w.heap.size, 1, none⟩ = some (.string name) ∧ wz.cell? ⟨w.heap.size, 2, none⟩ = some (.int .i64 n)) (go_keep) (first | (go_at_call 55; refine (HI.out _).mono ?_; rintro e w2 ⟨rfl, rfl⟩) | (go_at_call 33; refine HPx.out.mono ?_; rintro e w2 ⟨rfl, hW2, hb2, hk2⟩; have HN2 := Lib.hid (box_kept (w := (w.alloc (boxOf ⟨#[101, 120]⟩ name n pos a 1 cap)).drew) HN1.out (by omega) hk2); clear c0 c1 c2 c3 c4; obtain ⟨c0, c1, c2, c3, c4⟩ := box_cells HN2.out; have HW2 := Lib.hid hW2; have Hb2 := Lib.hid hb2; have Hk2 := Lib.hid hk2; clear hW2 hb2 hk2))
  have HB2 := Lib.hid ((((below_box w (boxOf ⟨#[101, 120]⟩ name n pos a 1 cap)).mono hBw).drew).trans Hb2.out)
  have HKP2 := Lib.hid (((kept_below (b := b) (below_box w (boxOf ⟨#[101, 120]⟩ name n pos a 1 cap))).drew).trans Hk2.out)
  have HT2 := (HT1.out.next (Below.drew (Below.refl _ _))).next Hb2.out
  have HK2 : Calls Tryd.prog 53 #[.agg #[.string ⟨#[101, 120]⟩, .string name, .int .i64 n, .int .i64 pos, .slice a 1 cap], .int .i64 0] w2 fun e w' => e = .returned x.val ∧ Below w2.heap.size w2 w' := kid_any ⟨⟨#[101, 120]⟩, name, n, pos, a, cap, .cons x.op x.name x.n x.pos x.a x.cap x.kids .nil⟩ x 0 _ HT2.now rfl
  have HKK := Lib.hid HK2
  have HH2 := Lib.hid HT2
  clear HT1 HN1 HW1 HT2 HK2 HPx HI Hb2 Hk2
  go_wp2_with fail
  refine HKK.out.mono ?_
  rintro e w3 ⟨rfl, hb3⟩
  have hT3 := HH2.out.next (hb3.mono HH2.out.size)
  have HC3 := Lib.hid (hx kx B b _ w3 (hT3.kid (i := 0) rfl) (HW2.out.below hb3) HL2.out)
  have HB3 := Lib.hid (HB2.out.trans (hb3.mono HH2.out.size))
  have HKP3 := Lib.hid (HKP2.out.trans (kept_below hb3))
  clear hb3 hT3 hx HKK HH2 HW2 HB2 HKP2 c0 c1 c2 c3 c4 HN2
  go_wp2_with fail
  refine HC3.out.mono ?_
  rintro e w4 ⟨rfl, hW4, hb4, hk4⟩
  have HP4 := Lib.hid (put1 B b _ ⟨#[41]⟩ w4 hW4 HL3.out)
  have HB4 := Lib.hid (HB3.out.trans hb4)
  have HKP4 := Lib.hid (HKP3.out.trans hk4)
  clear hb4 hk4 hW4 HC3 HB3 HKP3
  go_wp2_with fail
  refine HP4.out.mono ?_
  rintro e w5 ⟨rfl, hW5, hb5, hk5⟩
  have hW5' : WB B b (l ++ t) w5 := by rw [← HE.out]; exact hW5
  have HZ := Lib.hid (show WPost B b (l ++ t) w (.returned (.tuple #[])) w5 from ⟨rfl, hW5', HB4.out.trans hb5, HKP4.out.trans hk5⟩)
  clear HP4 hW5 hW5' hb5 hk5 HB4 HKP4
  go_wp2_with fail
  go_end0
  exact HZ.out

set_option maxRecDepth 100000 in
set_option maxHeartbeats 4000000 in
theorem form_all (name : ByteArray) (n pos : Int) (a : Option Addr) (cap : Nat) (x : Nd) (B b : Nat) (l t : L8) (w : World) (hT : TIn B ⟨⟨#[97, 108, 108]⟩, name, n, pos, a, cap, .cons x.op x.name x.n x.pos x.a x.cap x.kids .nil⟩ w) (h : WB B b l w) (hx : FmC x) (kx : x.okF = true) (h0 : 0 ≤ n) (h1 : n ≤ 99) (ht : t = ([40] ++ (⟨#[97, 108, 108]⟩ : ByteArray).data.toList ++ dgs n ++ [32] ++ name.data.toList ++ [58, 32]) ++ x.fx ++ [41]) (hlen : l.length + t.length ≤ 140737488351232) :
    Calls Tryd.prog 25 #[wAt b, .agg #[.string ⟨#[97, 108, 108]⟩, .string name, .int .i64 n, .int .i64 pos, .slice a 1 cap]] w (WPost B b (l ++ t) w) := by
  have hBw := hT.size
  have hbw := h.lt
  obtain ⟨r, hr⟩ : ∃ r, r = [40] ++ (⟨#[97, 108, 108]⟩ : ByteArray).data.toList ++ dgs n ++ [32] ++ name.data.toList ++ [58, 32] := ⟨_, rfl⟩
  rw [← hr] at ht
  have hL1 : l.length + r.length ≤ 140737488351232 := by rw [ht] at hlen; simp only [List.length_append] at hlen ⊢; omega
  have hL2 : (l ++ r).length + x.fx.length ≤ 140737488351232 := by rw [ht] at hlen; simp only [List.length_append] at hlen ⊢; omega
  have hL3 : (l ++ r ++ x.fx).length + ([41] : L8).length ≤ 140737488351232 := by rw [ht] at hlen; simp only [List.length_append] at hlen ⊢; omega
  have HE := Lib.hid (show l ++ r ++ x.fx ++ [41] = l ++ t by rw [ht]; simp only [List.append_assoc])
  have HP1 : Hid (∀ W : World, WB B b l W → Calls Tryd.prog 33 #[wAt b, .slice (some ⟨W.heap.size, 0, none⟩) 6 6] (W.alloc (.cells #[.string ⟨#[40]⟩, .string ⟨#[97, 108, 108]⟩, .string ⟨(dgs n).toArray⟩, .string ⟨#[32]⟩, .string name, .string ⟨#[58, 32]⟩] 9)) (WPost B b (l ++ r) W)) := by
    subst hr
    exact Lib.hid fun W hW => put6 B b l ⟨#[40]⟩ ⟨#[97, 108, 108]⟩ ⟨(dgs n).toArray⟩ ⟨#[32]⟩ name ⟨#[58, 32]⟩ W hW hL1
  have HI := Lib.hid (fun W => itoa_any n W h0 h1)
  have HT1 := Lib.hid (hT.alloc (boxOf ⟨#[97, 108, 108]⟩ name n pos a 1 cap))
  have HN1 := Lib.hid (new_at w (boxOf ⟨#[97, 108, 108]⟩ name n pos a 1 cap))
  have HW1 := Lib.hid (h.alloc (boxOf ⟨#[97, 108, 108]⟩ name n pos a 1 cap))
  have HL2 := Lib.hid hL2
  have HL3 := Lib.hid hL3
  clear hT h hL1 hL2 hL3 ht hlen hr
  have hc5 := cellsNode
  go_enter Tryd.func25, Tryd.ntmps25
  go_wp2_with fail
  have HPx : Hid (Calls Tryd.prog 33 #[wAt b, .slice (some ⟨w.heap.size + 1, 0, none⟩) 6 6] ((w.alloc (boxOf ⟨#[97, 108, 108]⟩ name n pos a 1 cap)).drew.alloc (.cells #[.string ⟨#[40]⟩, .string ⟨#[97, 108, 108]⟩, .string ⟨(dgs n).toArray⟩, .string ⟨#[32]⟩, .string name, .string ⟨#[58, 32]⟩] 9)) (WPost B b (l ++ r) (w.alloc (boxOf ⟨#[97, 108, 108]⟩ name n pos a 1 cap)).drew)) := by
    have := HP1.out (w.alloc (boxOf ⟨#[97, 108, 108]⟩ name n pos a 1 cap)).drew (HW1.out.below ((Below.refl _ _).drew))
    rw [show (w.alloc (boxOf ⟨#[97, 108, 108]⟩ name n pos a 1 cap)).drew.heap.size = w.heap.size + 1 from alloc_size _ _] at this
    exact Lib.hid this
  obtain ⟨c0, c1, c2, c3, c4⟩ := box_cells HN1.out
  clear HP1
  go_region_held3 (fun wz => wz.cell? ⟨w.heap.size, 0, none⟩ = some (.string ⟨#[97, 108, 108]⟩) ∧ wz.cell? ⟨w.heap.size, 1, none⟩ = some (.string name) ∧ wz.cell? ⟨w.heap.size, 2, none⟩ = some (.int .i64 n)) (go_keep) (first | (go_at_call 55; refine (HI.out _).mono ?_; rintro e w2 ⟨rfl, rfl⟩) | (go_at_call 33; refine HPx.out.mono ?_; rintro e w2 ⟨rfl, hW2, hb2, hk2⟩; have HN2 := Lib.hid (box_kept (w := (w.alloc (boxOf ⟨#[97, 108, 108]⟩ name n pos a 1 cap)).drew) HN1.out (by omega) hk2); clear c0 c1 c2 c3 c4; obtain ⟨c0, c1, c2, c3, c4⟩ := box_cells HN2.out; have HW2 := Lib.hid hW2; have Hb2 := Lib.hid hb2; have Hk2 := Lib.hid hk2; clear hW2 hb2 hk2))
  have HB2 := Lib.hid ((((below_box w (boxOf ⟨#[97, 108, 108]⟩ name n pos a 1 cap)).mono hBw).drew).trans Hb2.out)
  have HKP2 := Lib.hid (((kept_below (b := b) (below_box w (boxOf ⟨#[97, 108, 108]⟩ name n pos a 1 cap))).drew).trans Hk2.out)
  have HT2 := (HT1.out.next (Below.drew (Below.refl _ _))).next Hb2.out
  have HK2 : Calls Tryd.prog 53 #[.agg #[.string ⟨#[97, 108, 108]⟩, .string name, .int .i64 n, .int .i64 pos, .slice a 1 cap], .int .i64 0] w2 fun e w' => e = .returned x.val ∧ Below w2.heap.size w2 w' := kid_any ⟨⟨#[97, 108, 108]⟩, name, n, pos, a, cap, .cons x.op x.name x.n x.pos x.a x.cap x.kids .nil⟩ x 0 _ HT2.now rfl
  have HKK := Lib.hid HK2
  have HH2 := Lib.hid HT2
  clear HT1 HN1 HW1 HT2 HK2 HPx HI Hb2 Hk2
  go_wp2_with fail
  refine HKK.out.mono ?_
  rintro e w3 ⟨rfl, hb3⟩
  have hT3 := HH2.out.next (hb3.mono HH2.out.size)
  have HC3 := Lib.hid (hx kx B b _ w3 (hT3.kid (i := 0) rfl) (HW2.out.below hb3) HL2.out)
  have HB3 := Lib.hid (HB2.out.trans (hb3.mono HH2.out.size))
  have HKP3 := Lib.hid (HKP2.out.trans (kept_below hb3))
  clear hb3 hT3 hx HKK HH2 HW2 HB2 HKP2 c0 c1 c2 c3 c4 HN2
  go_wp2_with fail
  refine HC3.out.mono ?_
  rintro e w4 ⟨rfl, hW4, hb4, hk4⟩
  have HP4 := Lib.hid (put1 B b _ ⟨#[41]⟩ w4 hW4 HL3.out)
  have HB4 := Lib.hid (HB3.out.trans hb4)
  have HKP4 := Lib.hid (HKP3.out.trans hk4)
  clear hb4 hk4 hW4 HC3 HB3 HKP3
  go_wp2_with fail
  refine HP4.out.mono ?_
  rintro e w5 ⟨rfl, hW5, hb5, hk5⟩
  have hW5' : WB B b (l ++ t) w5 := by rw [← HE.out]; exact hW5
  have HZ := Lib.hid (show WPost B b (l ++ t) w (.returned (.tuple #[])) w5 from ⟨rfl, hW5', HB4.out.trans hb5, HKP4.out.trans hk5⟩)
  clear HP4 hW5 hW5' hb5 hk5 HB4 HKP4
  go_wp2_with fail
  go_end0
  exact HZ.out

end Go.Proofs.YtamihfgkpilfiaaDoor
