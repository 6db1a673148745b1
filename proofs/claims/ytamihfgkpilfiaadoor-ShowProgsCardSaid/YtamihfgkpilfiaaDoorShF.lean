/- The writer of package show: formulas, case by case but ex and all. -/
import Derived.Test.YtamihfgkpilfiaaDoorShV
import Derived.Test.YtamihfgkpilfiaaDoorLexA
import Derived.Test.YtamihfgkpilfiaaDoorRows
import Derived.WalkKit
import Derived.WalkLawsBesides
import Derived.WalkSpells
import Derived.ProofKit
import Derived.Outline
import Derived.Deep.QuietTactic
import Derived.BigQuiet
import Derived.Deep.Light
import Derived.Deep.CutBlock
import Derived.Deep.DeepCutAuto
import Derived.Deep.DeepFit
import Derived.Deep.LoopGhost
import Derived.Lib.Hide
import Derived.Lib.OthersKept
import Derived.IntWalk
import Derived.StillTailTactics
namespace Go.Proofs.YtamihfgkpilfiaaDoor
open Go.RowKit
def FmC (T : Nd) : Prop := T.okF = true → ∀ (B b : Nat) (l : L8) (w : World), TIn B T w → WB B b l w → l.length + T.fx.length ≤ 140737488351232 → Calls Tryd.prog 25 #[wAt b, T.val] w (WPost B b (l ++ T.fx) w)
theorem put2_box (B b : Nat) (l : L8) (x y : ByteArray) (w : World) (o : Obj) (h : WB B b l (w.alloc o)) (hlen : l.length + (x.data.toList ++ y.data.toList).length ≤ 140737488351232) :
    Calls Tryd.prog 33 #[wAt b, .slice (some ⟨w.heap.size + 1, 0, none⟩) 2 2] ((w.alloc o).alloc (.cells #[.string x, .string y] 9)) (WPost B b (l ++ (x.data.toList ++ y.data.toList)) (w.alloc o)) := by
  have := put2 B b l x y (w.alloc o) h hlen
  rw [alloc_size] at this
  exact this
set_option maxRecDepth 100000 in
set_option maxHeartbeats 4000000 in
theorem two_f (op : ByteArray) (pos : Int) (a : Option Addr) (cap : Nat) (x y : Nd) (ho : isJoin op = true ∨ opF2 op = true ∨ opFr op = true) (hx : FmC x) (hy : FmC y) (kx : x.okF = true) (ky : y.okF = true)
    (B b : Nat) (l t : L8) (w : World) (hT : TIn B (twoN op pos a cap x y) w) (h : WB B b l w)
    (ht : t = x.fx ++ ([32] ++ opSign op ++ [32]) ++ y.fx) (hlen : l.length + t.length ≤ 140737488351232) :
    Calls Tryd.prog 54 #[wAt b, .agg #[.string op, .string ⟨#[]⟩, .int .i64 0, .int .i64 pos, .slice a 2 cap], .func (.func 25) #[wAt b] #[]] w (WPost B b (l ++ t) w) := by
  have hBw := hT.size
  have hbw := h.lt
  have hL1 : l.length + x.fx.length ≤ 140737488351232 := by rw [ht] at hlen; simp only [List.length_append] at hlen; omega
  have hL2 : (l ++ x.fx).length + ([32] ++ opSign op ++ [32]).length ≤ 140737488351232 := by rw [ht] at hlen; simp only [List.length_append] at hlen ⊢; omega
  have hL3 : (l ++ x.fx ++ ([32] ++ opSign op ++ [32])).length + y.fx.length ≤ 140737488351232 := by rw [ht] at hlen; simp only [List.length_append] at hlen ⊢; omega
  have HE := Lib.hid (show l ++ x.fx ++ ([32] ++ opSign op ++ [32]) ++ y.fx = l ++ t by rw [ht]; simp only [List.append_assoc])
  have HT1 := hT.alloc (boxOf op ⟨#[]⟩ 0 pos a 2 cap)
  have HW1 := h.alloc (boxOf op ⟨#[]⟩ 0 pos a 2 cap)
  have HN1 := Lib.hid (new_at w (boxOf op ⟨#[]⟩ 0 pos a 2 cap))
  have HK0 : Calls Tryd.prog 53 #[.agg #[.string op, .string ⟨#[]⟩, .int .i64 0, .int .i64 pos, .slice a 2 cap], .int .i64 0] (w.alloc (boxOf op ⟨#[]⟩ 0 pos a 2 cap)) fun e w' => e = .returned x.val ∧ Below (w.alloc (boxOf op ⟨#[]⟩ 0 pos a 2 cap)).heap.size (w.alloc (boxOf op ⟨#[]⟩ 0 pos a 2 cap)) w' := kid_any (twoN op pos a cap x y) x 0 _ HT1.now rfl
  have HL1 := Lib.hid hL1
  have HL2 := Lib.hid hL2
  have HL3 := Lib.hid hL3
  have HH1 := Lib.hid HT1
  have HWW := Lib.hid HW1
  have HKK := Lib.hid HK0
  clear HT1 HW1 HK0 hL1 hL2 hL3 ht hlen hT h
  have hc5 := cellsNode
  go_enter Tryd.func54, Tryd.ntmps54
  go_wp2_with fail
  refine HKK.out.mono ?_
  rintro e w2 ⟨rfl, hb2⟩
  have hT2 := HH1.out.next (hb2.mono (by simp; omega))
  have hW2 := HWW.out.below hb2
  have HB2 := Lib.hid (((below_box w (boxOf op ⟨#[]⟩ 0 pos a 2 cap)).mono hBw).trans (hb2.mono (by simp; omega)))
  have HKP2 := Lib.hid ((kept_below (b := b) (below_box w (boxOf op ⟨#[]⟩ 0 pos a 2 cap))).trans (kept_below hb2))
  have HN2 := Lib.hid (box_kept HN1.out (by omega) (kept_below (b := b) hb2))
  have HC1 := Lib.hid (hx kx B b l w2 (hT2.kid (i := 0) rfl) hW2 HL1.out)
  have HT2 := Lib.hid hT2
  clear hb2 hT2 hW2 HKK HH1 HWW HN1 hx
  go_wp2_with fail
  refine HC1.out.mono ?_
  rintro e w3 ⟨rfl, hW3, hb3, hk3⟩
  have HT3 := Lib.hid (HT2.out.next hb3)
  have HN3 := Lib.hid (box_kept HN2.out (by omega) hk3)
  obtain ⟨c0, c1, c2, c3, c4⟩ := box_cells HN3.out
  have HB3 := Lib.hid (HB2.out.trans hb3)
  have HKP3 := Lib.hid (HKP2.out.trans hk3)
  have HP := Lib.hid (put3 B b (l ++ x.fx) ⟨#[32]⟩ ⟨(opSign op).toArray⟩ ⟨#[32]⟩ w3 hW3 HL2.out)
  have HS := Lib.hid (wsign_any op ho w3)
  clear hb3 hk3 hW3 HC1 HT2 HN2 HB2 HKP2
  go_wp2_with fail
  refine HS.out.mono ?_
  rintro e w3' ⟨rfl, rfl⟩
  clear HS
  go_wp2_with fail
  refine HP.out.mono ?_
  rintro e w4 ⟨rfl, hW4, hb4, hk4⟩
  have hN4 := box_kept HN3.out (by omega) hk4
  obtain ⟨d0, d1, d2, d3, d4⟩ := box_cells hN4
  have HT4 := HT3.out.next hb4
  have HB4 := Lib.hid (HB3.out.trans hb4)
  have HKP4 := Lib.hid (HKP3.out.trans hk4)
  have HK4 : Calls Tryd.prog 53 #[.agg #[.string op, .string ⟨#[]⟩, .int .i64 0, .int .i64 pos, .slice a 2 cap], .int .i64 1] w4 fun e w' => e = .returned y.val ∧ Below w4.heap.size w4 w' := kid_any (twoN op pos a cap x y) y 1 _ HT4.now rfl
  have HKK := Lib.hid HK4
  have HH4 := Lib.hid HT4
  have HW4 := Lib.hid hW4
  clear HP hN4 hb4 hk4 HK4 HT4 hW4 c0 c1 c2 c3 c4 HT3 HN3 HB3 HKP3
  go_wp2_with fail
  refine HKK.out.mono ?_
  rintro e w5 ⟨rfl, hb5⟩
  have hT5 := HH4.out.next (hb5.mono HH4.out.size)
  have HC5 := Lib.hid (hy ky B b _ w5 (hT5.kid (i := 1) rfl) (HW4.out.below hb5) HL3.out)
  have HB5 := Lib.hid (HB4.out.trans (hb5.mono HH4.out.size))
  have HKP5 := Lib.hid (HKP4.out.trans (kept_below hb5))
  clear hb5 hT5 hy HKK HH4 HW4 HB4 HKP4 d0 d1 d2 d3 d4
  go_wp2_with fail
  refine HC5.out.mono ?_
  rintro e w6 ⟨rfl, hW6, hb6, hk6⟩
  rw [HE.out] at hW6
  have HZ := Lib.hid (show WPost B b (l ++ t) w (.returned (.tuple #[])) w6 from ⟨rfl, hW6, HB5.out.trans hb6, HKP5.out.trans hk6⟩)
  clear hW6 hb6 hk6 HC5 HB5 HKP5
  go_wp2_with fail
  go_end0
  exact HZ.out

set_option maxRecDepth 100000 in
set_option maxHeartbeats 4000000 in
theorem form_true (pos : Int) (a : Option Addr) (cap B b : Nat) (l : L8) (w : World) (h : WB B b l w) (hlen : l.length + (⟨#[116, 114, 117, 101]⟩ : ByteArray).data.toList.length ≤ 140737488351232) :
    Calls Tryd.prog 25 #[wAt b, .agg #[.string ⟨#[116, 114, 117, 101]⟩, .string ⟨#[]⟩, .int .i64 0, .int .i64 pos, .slice a 0 cap]] w (WPost B b (l ++ (⟨#[116, 114, 117, 101]⟩ : ByteArray).data.toList) w) := by
  have hBw : B ≤ w.heap.size := by have := h.lt; omega
  obtain ⟨tt, htt⟩ : ∃ tt, tt = (⟨#[116, 114, 117, 101]⟩ : ByteArray).data.toList := ⟨_, rfl⟩
  have HP := Lib.hid (put1_box B b l ⟨#[116, 114, 117, 101]⟩ w _ (h.alloc (boxOf ⟨#[116, 114, 117, 101]⟩ ⟨#[]⟩ 0 pos a 0 cap)) hlen)
  rw [← htt] at HP ⊢
  clear h hlen
  have hc5 := cellsNode
  go_enter Tryd.func25, Tryd.ntmps25
  go_wp2_with fail
  refine HP.out.mono ?_
  rintro e w2 hp
  have HZ := Lib.hid (WPost.box hp hBw)
  obtain ⟨rfl, _⟩ := hp
  clear HP
  go_wp2_with fail
  go_end0
  exact HZ.out
set_option maxRecDepth 100000 in
set_option maxHeartbeats 4000000 in
theorem form_false (pos : Int) (a : Option Addr) (cap B b : Nat) (l : L8) (w : World) (h : WB B b l w) (hlen : l.length + (⟨#[102, 97, 108, 115, 101]⟩ : ByteArray).data.toList.length ≤ 140737488351232) :
    Calls Tryd.prog 25 #[wAt b, .agg #[.string ⟨#[102, 97, 108, 115, 101]⟩, .string ⟨#[]⟩, .int .i64 0, .int .i64 pos, .slice a 0 cap]] w (WPost B b (l ++ (⟨#[102, 97, 108, 115, 101]⟩ : ByteArray).data.toList) w) := by
  have hBw : B ≤ w.heap.size := by have := h.lt; omega
  obtain ⟨tt, htt⟩ : ∃ tt, tt = (⟨#[102, 97, 108, 115, 101]⟩ : ByteArray).data.toList := ⟨_, rfl⟩
  have HP := Lib.hid (put1_box B b l ⟨#[102, 97, 108, 115, 101]⟩ w _ (h.alloc (boxOf ⟨#[102, 97, 108, 115, 101]⟩ ⟨#[]⟩ 0 pos a 0 cap)) hlen)
  rw [← htt] at HP ⊢
  clear h hlen
  have hc5 := cellsNode
  go_enter Tryd.func25, Tryd.ntmps25
  go_wp2_with fail
  refine HP.out.mono ?_
  rintro e w2 hp
  have HZ := Lib.hid (WPost.box hp hBw)
  obtain ⟨rfl, _⟩ := hp
  clear HP
  go_wp2_with fail
  go_end0
  exact HZ.out
set_option maxRecDepth 100000 in
set_option maxHeartbeats 4000000 in
theorem form_is (name : ByteArray) (pos : Int) (a : Option Addr) (cap B b : Nat) (l : L8) (w : World) (h : WB B b l w) (hlen : l.length + name.data.toList.length ≤ 140737488351232) :
    Calls Tryd.prog 25 #[wAt b, .agg #[.string ⟨#[105, 115]⟩, .string name, .int .i64 0, .int .i64 pos, .slice a 0 cap]] w (WPost B b (l ++ name.data.toList) w) := by
  have hBw : B ≤ w.heap.size := by have := h.lt; omega
  have HP := Lib.hid (put1_box B b l name w _ (h.alloc (boxOf ⟨#[105, 115]⟩ name 0 pos a 0 cap)) hlen)
  clear h hlen
  have hc5 := cellsNode
  go_enter Tryd.func25, Tryd.ntmps25
  go_wp2_with fail
  refine HP.out.mono ?_
  rintro e w2 hp
  have HZ := Lib.hid (WPost.box hp hBw)
  obtain ⟨rfl, _⟩ := hp
  clear HP
  go_wp2_with fail
  go_end0
  exact HZ.out
set_option maxRecDepth 100000 in
set_option maxHeartbeats 4000000 in
theorem form_eq (pos : Int) (a : Option Addr) (cap : Nat) (x y : Nd) (B b : Nat) (l t : L8) (w : World) (hT : TIn B (twoN ⟨#[101, 113]⟩ pos a cap x y) w) (h : WB B b l w) (kx : x.okT = true) (ky : y.okT = true) (ht : t = x.tx ++ ([32] ++ opSign ⟨#[101, 113]⟩ ++ [32]) ++ y.tx) (hlen : l.length + t.length ≤ 140737488351232) :
    Calls Tryd.prog 25 #[wAt b, .agg #[.string ⟨#[101, 113]⟩, .string ⟨#[]⟩, .int .i64 0, .int .i64 pos, .slice a 2 cap]] w (WPost B b (l ++ t) w) := by
  have hBw := hT.size
  have HC := Lib.hid (two_t ⟨#[101, 113]⟩ pos a cap x y (.inr (.inr (by simp [opFr, Lib.toList_data]))) (term_any x) (term_any y) kx ky B b l t _ (hT.alloc (boxOf ⟨#[101, 113]⟩ ⟨#[]⟩ 0 pos a 2 cap)) (h.alloc (boxOf ⟨#[101, 113]⟩ ⟨#[]⟩ 0 pos a 2 cap)) ht hlen)
  clear hT h ht hlen
  have hc5 := cellsNode
  go_enter Tryd.func25, Tryd.ntmps25
  go_wp2_with fail
  refine HC.out.mono ?_
  rintro e w2 hp
  have HZ := Lib.hid (WPost.box hp hBw)
  obtain ⟨rfl, _⟩ := hp
  clear HC
  go_wp2_with fail
  go_end0
  exact HZ.out
set_option maxRecDepth 100000 in
set_option maxHeartbeats 4000000 in
theorem form_ne (pos : Int) (a : Option Addr) (cap : Nat) (x y : Nd) (B b : Nat) (l t : L8) (w : World) (hT : TIn B (twoN ⟨#[110, 101]⟩ pos a cap x y) w) (h : WB B b l w) (kx : x.okT = true) (ky : y.okT = true) (ht : t = x.tx ++ ([32] ++ opSign ⟨#[110, 101]⟩ ++ [32]) ++ y.tx) (hlen : l.length + t.length ≤ 140737488351232) :
    Calls Tryd.prog 25 #[wAt b, .agg #[.string ⟨#[110, 101]⟩, .string ⟨#[]⟩, .int .i64 0, .int .i64 pos, .slice a 2 cap]] w (WPost B b (l ++ t) w) := by
  have hBw := hT.size
  have HC := Lib.hid (two_t ⟨#[110, 101]⟩ pos a cap x y (.inr (.inr (by simp [opFr, Lib.toList_data]))) (term_any x) (term_any y) kx ky B b l t _ (hT.alloc (boxOf ⟨#[110, 101]⟩ ⟨#[]⟩ 0 pos a 2 cap)) (h.alloc (boxOf ⟨#[110, 101]⟩ ⟨#[]⟩ 0 pos a 2 cap)) ht hlen)
  clear hT h ht hlen
  have hc5 := cellsNode
  go_enter Tryd.func25, Tryd.ntmps25
  go_wp2_with fail
  refine HC.out.mono ?_
  rintro e w2 hp
  have HZ := Lib.hid (WPost.box hp hBw)
  obtain ⟨rfl, _⟩ := hp
  clear HC
  go_wp2_with fail
  go_end0
  exact HZ.out
set_option maxRecDepth 100000 in
set_option maxHeartbeats 4000000 in
theorem form_lt (pos : Int) (a : Option Addr) (cap : Nat) (x y : Nd) (B b : Nat) (l t : L8) (w : World) (hT : TIn B (twoN ⟨#[108, 116]⟩ pos a cap x y) w) (h : WB B b l w) (kx : x.okT = true) (ky : y.okT = true) (ht : t = x.tx ++ ([32] ++ opSign ⟨#[108, 116]⟩ ++ [32]) ++ y.tx) (hlen : l.length + t.length ≤ 140737488351232) :
    Calls Tryd.prog 25 #[wAt b, .agg #[.string ⟨#[108, 116]⟩, .string ⟨#[]⟩, .int .i64 0, .int .i64 pos, .slice a 2 cap]] w (WPost B b (l ++ t) w) := by
  have hBw := hT.size
  have HC := Lib.hid (two_t ⟨#[108, 116]⟩ pos a cap x y (.inr (.inr (by simp [opFr, Lib.toList_data]))) (term_any x) (term_any y) kx ky B b l t _ (hT.alloc (boxOf ⟨#[108, 116]⟩ ⟨#[]⟩ 0 pos a 2 cap)) (h.alloc (boxOf ⟨#[108, 116]⟩ ⟨#[]⟩ 0 pos a 2 cap)) ht hlen)
  clear hT h ht hlen
  have hc5 := cellsNode
  go_enter Tryd.func25, Tryd.ntmps25
  go_wp2_with fail
  refine HC.out.mono ?_
  rintro e w2 hp
  have HZ := Lib.hid (WPost.box hp hBw)
  obtain ⟨rfl, _⟩ := hp
  clear HC
  go_wp2_with fail
  go_end0
  exact HZ.out
set_option maxRecDepth 100000 in
set_option maxHeartbeats 4000000 in
theorem form_le (pos : Int) (a : Option Addr) (cap : Nat) (x y : Nd) (B b : Nat) (l t : L8) (w : World) (hT : TIn B (twoN ⟨#[108, 101]⟩ pos a cap x y) w) (h : WB B b l w) (kx : x.okT = true) (ky : y.okT = true) (ht : t = x.tx ++ ([32] ++ opSign ⟨#[108, 101]⟩ ++ [32]) ++ y.tx) (hlen : l.length + t.length ≤ 140737488351232) :
    Calls Tryd.prog 25 #[wAt b, .agg #[.string ⟨#[108, 101]⟩, .string ⟨#[]⟩, .int .i64 0, .int .i64 pos, .slice a 2 cap]] w (WPost B b (l ++ t) w) := by
  have hBw := hT.size
  have HC := Lib.hid (two_t ⟨#[108, 101]⟩ pos a cap x y (.inr (.inr (by simp [opFr, Lib.toList_data]))) (term_any x) (term_any y) kx ky B b l t _ (hT.alloc (boxOf ⟨#[108, 101]⟩ ⟨#[]⟩ 0 pos a 2 cap)) (h.alloc (boxOf ⟨#[108, 101]⟩ ⟨#[]⟩ 0 pos a 2 cap)) ht hlen)
  clear hT h ht hlen
  have hc5 := cellsNode
  go_enter Tryd.func25, Tryd.ntmps25
  go_wp2_with fail
  refine HC.out.mono ?_
  rintro e w2 hp
  have HZ := Lib.hid (WPost.box hp hBw)
  obtain ⟨rfl, _⟩ := hp
  clear HC
  go_wp2_with fail
  go_end0
  exact HZ.out
set_option maxRecDepth 100000 in
set_option maxHeartbeats 4000000 in
theorem form_in (pos : Int) (a : Option Addr) (cap : Nat) (x y : Nd) (B b : Nat) (l t : L8) (w : World) (hT : TIn B (twoN ⟨#[105, 110]⟩ pos a cap x y) w) (h : WB B b l w) (kx : x.okT = true) (ky : y.okT = true) (ht : t = x.tx ++ ([32] ++ opSign ⟨#[105, 110]⟩ ++ [32]) ++ y.tx) (hlen : l.length + t.length ≤ 140737488351232) :
    Calls Tryd.prog 25 #[wAt b, .agg #[.string ⟨#[105, 110]⟩, .string ⟨#[]⟩, .int .i64 0, .int .i64 pos, .slice a 2 cap]] w (WPost B b (l ++ t) w) := by
  have hBw := hT.size
  have HC := Lib.hid (two_t ⟨#[105, 110]⟩ pos a cap x y (.inr (.inr (by simp [opFr, Lib.toList_data]))) (term_any x) (term_any y) kx ky B b l t _ (hT.alloc (boxOf ⟨#[105, 110]⟩ ⟨#[]⟩ 0 pos a 2 cap)) (h.alloc (boxOf ⟨#[105, 110]⟩ ⟨#[]⟩ 0 pos a 2 cap)) ht hlen)
  clear hT h ht hlen
  have hc5 := cellsNode
  go_enter Tryd.func25, Tryd.ntmps25
  go_wp2_with fail
  refine HC.out.mono ?_
  rintro e w2 hp
  have HZ := Lib.hid (WPost.box hp hBw)
  obtain ⟨rfl, _⟩ := hp
  clear HC
  go_wp2_with fail
  go_end0
  exact HZ.out
set_option maxRecDepth 100000 in
set_option maxHeartbeats 4000000 in
theorem form_notin (pos : Int) (a : Option Addr) (cap : Nat) (x y : Nd) (B b : Nat) (l t : L8) (w : World) (hT : TIn B (twoN ⟨#[110, 111, 116, 105, 110]⟩ pos a cap x y) w) (h : WB B b l w) (kx : x.okT = true) (ky : y.okT = true) (ht : t = x.tx ++ ([32] ++ opSign ⟨#[110, 111, 116, 105, 110]⟩ ++ [32]) ++ y.tx) (hlen : l.length + t.length ≤ 140737488351232) :
    Calls Tryd.prog 25 #[wAt b, .agg #[.string ⟨#[110, 111, 116, 105, 110]⟩, .string ⟨#[]⟩, .int .i64 0, .int .i64 pos, .slice a 2 cap]] w (WPost B b (l ++ t) w) := by
  have hBw := hT.size
  have HC := Lib.hid (two_t ⟨#[110, 111, 116, 105, 110]⟩ pos a cap x y (.inr (.inr (by simp [opFr, Lib.toList_data]))) (term_any x) (term_any y) kx ky B b l t _ (hT.alloc (boxOf ⟨#[110, 111, 116, 105, 110]⟩ ⟨#[]⟩ 0 pos a 2 cap)) (h.alloc (boxOf ⟨#[110, 111, 116, 105, 110]⟩ ⟨#[]⟩ 0 pos a 2 cap)) ht hlen)
  clear hT h ht hlen
  have hc5 := cellsNode
  go_enter Tryd.func25, Tryd.ntmps25
  go_wp2_with fail
  refine HC.out.mono ?_
  rintro e w2 hp
  have HZ := Lib.hid (WPost.box hp hBw)
  obtain ⟨rfl, _⟩ := hp
  clear HC
  go_wp2_with fail
  go_end0
  exact HZ.out
set_option maxRecDepth 100000 in
set_option maxHeartbeats 4000000 in
theorem form_sub (pos : Int) (a : Option Addr) (cap : Nat) (x y : Nd) (B b : Nat) (l t : L8) (w : World) (hT : TIn B (twoN ⟨#[115, 117, 98]⟩ pos a cap x y) w) (h : WB B b l w) (kx : x.okT = true) (ky : y.okT = true) (ht : t = x.tx ++ ([32] ++ opSign ⟨#[115, 117, 98]⟩ ++ [32]) ++ y.tx) (hlen : l.length + t.length ≤ 140737488351232) :
    Calls Tryd.prog 25 #[wAt b, .agg #[.string ⟨#[115, 117, 98]⟩, .string ⟨#[]⟩, .int .i64 0, .int .i64 pos, .slice a 2 cap]] w (WPost B b (l ++ t) w) := by
  have hBw := hT.size
  have HC := Lib.hid (two_t ⟨#[115, 117, 98]⟩ pos a cap x y (.inr (.inr (by simp [opFr, Lib.toList_data]))) (term_any x) (term_any y) kx ky B b l t _ (hT.alloc (boxOf ⟨#[115, 117, 98]⟩ ⟨#[]⟩ 0 pos a 2 cap)) (h.alloc (boxOf ⟨#[115, 117, 98]⟩ ⟨#[]⟩ 0 pos a 2 cap)) ht hlen)
  clear hT h ht hlen
  have hc5 := cellsNode
  go_enter Tryd.func25, Tryd.ntmps25
  go_wp2_with fail
  refine HC.out.mono ?_
  rintro e w2 hp
  have HZ := Lib.hid (WPost.box hp hBw)
  obtain ⟨rfl, _⟩ := hp
  clear HC
  go_wp2_with fail
  go_end0
  exact HZ.out
set_option maxRecDepth 100000 in
set_option maxHeartbeats 4000000 in
theorem form_not (pos : Int) (a : Option Addr) (cap : Nat) (x : Nd) (B b : Nat) (l t : L8) (w : World) (hT : TIn B ⟨⟨#[110, 111, 116]⟩, ⟨#[]⟩, 0, pos, a, cap, .cons x.op x.name x.n x.pos x.a x.cap x.kids .nil⟩ w) (h : WB B b l w) (hx : FmC x) (kx : x.okF = true) (ht : t = [126] ++ x.fx) (hlen : l.length + t.length ≤ 140737488351232) :
    Calls Tryd.prog 25 #[wAt b, .agg #[.string ⟨#[110, 111, 116]⟩, .string ⟨#[]⟩, .int .i64 0, .int .i64 pos, .slice a 1 cap]] w (WPost B b (l ++ t) w) := by
  have hBw := hT.size
  have hbw := h.lt
  have hL1 : l.length + ([126] : L8).length ≤ 140737488351232 := by rw [ht] at hlen; simp only [List.length_append] at hlen; omega
  have hL2 : (l ++ [126]).length + x.fx.length ≤ 140737488351232 := by rw [ht] at hlen; simp only [List.length_append] at hlen ⊢; omega
  have HE := Lib.hid (show l ++ [126] ++ x.fx = l ++ t by rw [ht]; simp only [List.append_assoc])
  have HP1 := Lib.hid (put1_box B b l ⟨#[126]⟩ w _ (h.alloc (boxOf ⟨#[110, 111, 116]⟩ ⟨#[]⟩ 0 pos a 1 cap)) hL1)
  have HT1 := Lib.hid (hT.alloc (boxOf ⟨#[110, 111, 116]⟩ ⟨#[]⟩ 0 pos a 1 cap))
  have HN1 := Lib.hid (new_at w (boxOf ⟨#[110, 111, 116]⟩ ⟨#[]⟩ 0 pos a 1 cap))
  have HL2 := Lib.hid hL2
  clear hT h hL1 hL2 ht hlen
  have hc5 := cellsNode
  go_enter Tryd.func25, Tryd.ntmps25
  go_wp2_with fail
  refine HP1.out.mono ?_
  rintro e w2 hp
  obtain ⟨rfl, hW2, hb2, hk2⟩ := hp
  have hN2 := box_kept HN1.out (by omega) hk2
  obtain ⟨c0, c1, c2, c3, c4⟩ := box_cells hN2
  have HT2 := HT1.out.next hb2
  have HB2 := Lib.hid (((below_box w (boxOf ⟨#[110, 111, 116]⟩ ⟨#[]⟩ 0 pos a 1 cap)).mono hBw).trans hb2)
  have HKP2 := Lib.hid ((kept_below (b := b) (below_box w (boxOf ⟨#[110, 111, 116]⟩ ⟨#[]⟩ 0 pos a 1 cap))).trans hk2)
  have HK2 : Calls Tryd.prog 53 #[.agg #[.string ⟨#[110, 111, 116]⟩, .string ⟨#[]⟩, .int .i64 0, .int .i64 pos, .slice a 1 cap], .int .i64 0] w2 fun e w' => e = .returned x.val ∧ Below w2.heap.size w2 w' := kid_any ⟨⟨#[110, 111, 116]⟩, ⟨#[]⟩, 0, pos, a, cap, .cons x.op x.name x.n x.pos x.a x.cap x.kids .nil⟩ x 0 _ HT2.now rfl
  have HKK := Lib.hid HK2
  have HH2 := Lib.hid HT2
  have HWW := Lib.hid hW2
  clear hb2 hk2 hW2 HP1 HT1 HN1 hN2 HT2 HK2
  go_wp2_with fail
  refine HKK.out.mono ?_
  rintro e w3 ⟨rfl, hb3⟩
  have hT3 := HH2.out.next (hb3.mono HH2.out.size)
  have HC3 := Lib.hid (hx kx B b _ w3 (hT3.kid (i := 0) rfl) (HWW.out.below hb3) HL2.out)
  have HB3 := Lib.hid (HB2.out.trans (hb3.mono HH2.out.size))
  have HKP3 := Lib.hid (HKP2.out.trans (kept_below hb3))
  clear hb3 hT3 hx HKK HH2 HWW HB2 HKP2 c0 c1 c2 c3 c4
  go_wp2_with fail
  refine HC3.out.mono ?_
  rintro e w4 ⟨rfl, hW4, hb4, hk4⟩
  have hW4' : WB B b (l ++ t) w4 := by rw [← HE.out]; exact hW4
  have HZ := Lib.hid (show WPost B b (l ++ t) w (.returned (.tuple #[])) w4 from ⟨rfl, hW4', HB3.out.trans hb4, HKP3.out.trans hk4⟩)
  clear HC3 hW4 hW4' hb4 hk4 HB3 HKP3
  go_wp2_with fail
  go_end0
  exact HZ.out
set_option maxRecDepth 100000 in
set_option maxHeartbeats 4000000 in
theorem form_and (pos : Int) (a : Option Addr) (cap : Nat) (x y : Nd) (B b : Nat) (l t : L8) (w : World) (hT : TIn B (twoN ⟨#[97, 110, 100]⟩ pos a cap x y) w) (h : WB B b l w) (hx : FmC x) (hy : FmC y) (kx : x.okF = true) (ky : y.okF = true) (ht : t = [40] ++ (x.fx ++ ([32] ++ opSign ⟨#[97, 110, 100]⟩ ++ [32]) ++ y.fx) ++ [41]) (hlen : l.length + t.length ≤ 140737488351232) :
    Calls Tryd.prog 25 #[wAt b, .agg #[.string ⟨#[97, 110, 100]⟩, .string ⟨#[]⟩, .int .i64 0, .int .i64 pos, .slice a 2 cap]] w (WPost B b (l ++ t) w) := by
  have hBw := hT.size
  have hbw := h.lt
  obtain ⟨r, hr⟩ : ∃ r, r = x.fx ++ ([32] ++ opSign ⟨#[97, 110, 100]⟩ ++ [32]) ++ y.fx := ⟨_, rfl⟩
  rw [← hr] at ht
  have hL1 : l.length + ([40] : L8).length ≤ 140737488351232 := by rw [ht] at hlen; simp only [List.length_append] at hlen; omega
  have hL2 : (l ++ [40]).length + r.length ≤ 140737488351232 := by rw [ht] at hlen; simp only [List.length_append] at hlen ⊢; omega
  have hL3 : (l ++ [40] ++ r).length + ([41] : L8).length ≤ 140737488351232 := by rw [ht] at hlen; simp only [List.length_append] at hlen ⊢; omega
  have HE := Lib.hid (show l ++ [40] ++ r ++ [41] = l ++ t by rw [ht]; simp only [List.append_assoc])
  have HP1 := Lib.hid (put1_box B b l ⟨#[40]⟩ w _ (h.alloc (boxOf ⟨#[97, 110, 100]⟩ ⟨#[]⟩ 0 pos a 2 cap)) hL1)
  have HT1 := Lib.hid (hT.alloc (boxOf ⟨#[97, 110, 100]⟩ ⟨#[]⟩ 0 pos a 2 cap))
  have HN1 := Lib.hid (new_at w (boxOf ⟨#[97, 110, 100]⟩ ⟨#[]⟩ 0 pos a 2 cap))
  have HL2 := Lib.hid hL2
  have HL3 := Lib.hid hL3
  have HR := Lib.hid hr
  clear hT h hL1 hL2 hL3 ht hlen hr
  have hc5 := cellsNode
  go_enter Tryd.func25, Tryd.ntmps25
  go_wp2_with fail
  refine HP1.out.mono ?_
  rintro e w2 hp
  obtain ⟨rfl, hW2, hb2, hk2⟩ := hp
  have hN2 := box_kept HN1.out (by omega) hk2
  obtain ⟨c0, c1, c2, c3, c4⟩ := box_cells hN2
  have HB2 := Lib.hid (((below_box w (boxOf ⟨#[97, 110, 100]⟩ ⟨#[]⟩ 0 pos a 2 cap)).mono hBw).trans hb2)
  have HKP2 := Lib.hid ((kept_below (b := b) (below_box w (boxOf ⟨#[97, 110, 100]⟩ ⟨#[]⟩ 0 pos a 2 cap))).trans hk2)
  have HC := Lib.hid (two_f ⟨#[97, 110, 100]⟩ pos a cap x y (.inr (.inl (by simp [opF2, Lib.toList_data]))) hx hy kx ky B b _ r w2 (HT1.out.next hb2) hW2 HR.out HL2.out)
  clear hb2 hk2 hW2 HP1 HT1 HN1 hN2 hx hy
  go_wp2_with fail
  refine HC.out.mono ?_
  rintro e w3 ⟨rfl, hW3, hb3, hk3⟩
  have HP3 := Lib.hid (put1 B b _ ⟨#[41]⟩ w3 hW3 HL3.out)
  have HB3 := Lib.hid (HB2.out.trans hb3)
  have HKP3 := Lib.hid (HKP2.out.trans hk3)
  clear hb3 hk3 hW3 HC HB2 HKP2 c0 c1 c2 c3 c4
  go_wp2_with fail
  refine HP3.out.mono ?_
  rintro e w4 ⟨rfl, hW4, hb4, hk4⟩
  have hW4' : WB B b (l ++ t) w4 := by rw [← HE.out]; exact hW4
  have HZ := Lib.hid (show WPost B b (l ++ t) w (.returned (.tuple #[])) w4 from ⟨rfl, hW4', HB3.out.trans hb4, HKP3.out.trans hk4⟩)
  clear HP3 hW4 hW4' hb4 hk4 HB3 HKP3
  go_wp2_with fail
  go_end0
  exact HZ.out
set_option maxRecDepth 100000 in
set_option maxHeartbeats 4000000 in
theorem form_or (pos : Int) (a : Option Addr) (cap : Nat) (x y : Nd) (B b : Nat) (l t : L8) (w : World) (hT : TIn B (twoN ⟨#[111, 114]⟩ pos a cap x y) w) (h : WB B b l w) (hx : FmC x) (hy : FmC y) (kx : x.okF = true) (ky : y.okF = true) (ht : t = [40] ++ (x.fx ++ ([32] ++ opSign ⟨#[111, 114]⟩ ++ [32]) ++ y.fx) ++ [41]) (hlen : l.length + t.length ≤ 140737488351232) :
    Calls Tryd.prog 25 #[wAt b, .agg #[.string ⟨#[111, 114]⟩, .string ⟨#[]⟩, .int .i64 0, .int .i64 pos, .slice a 2 cap]] w (WPost B b (l ++ t) w) := by
  have hBw := hT.size
  have hbw := h.lt
  obtain ⟨r, hr⟩ : ∃ r, r = x.fx ++ ([32] ++ opSign ⟨#[111, 114]⟩ ++ [32]) ++ y.fx := ⟨_, rfl⟩
  rw [← hr] at ht
  have hL1 : l.length + ([40] : L8).length ≤ 140737488351232 := by rw [ht] at hlen; simp only [List.length_append] at hlen; omega
  have hL2 : (l ++ [40]).length + r.length ≤ 140737488351232 := by rw [ht] at hlen; simp only [List.length_append] at hlen ⊢; omega
  have hL3 : (l ++ [40] ++ r).length + ([41] : L8).length ≤ 140737488351232 := by rw [ht] at hlen; simp only [List.length_append] at hlen ⊢; omega
  have HE := Lib.hid (show l ++ [40] ++ r ++ [41] = l ++ t by rw [ht]; simp only [List.append_assoc])
  have HP1 := Lib.hid (put1_box B b l ⟨#[40]⟩ w _ (h.alloc (boxOf ⟨#[111, 114]⟩ ⟨#[]⟩ 0 pos a 2 cap)) hL1)
  have HT1 := Lib.hid (hT.alloc (boxOf ⟨#[111, 114]⟩ ⟨#[]⟩ 0 pos a 2 cap))
  have HN1 := Lib.hid (new_at w (boxOf ⟨#[111, 114]⟩ ⟨#[]⟩ 0 pos a 2 cap))
  have HL2 := Lib.hid hL2
  have HL3 := Lib.hid hL3
  have HR := Lib.hid hr
  clear hT h hL1 hL2 hL3 ht hlen hr
  have hc5 := cellsNode
  go_enter Tryd.func25, Tryd.ntmps25
  go_wp2_with fail
  refine HP1.out.mono ?_
  rintro e w2 hp
  obtain ⟨rfl, hW2, hb2, hk2⟩ := hp
  have hN2 := box_kept HN1.out (by omega) hk2
  obtain ⟨c0, c1, c2, c3, c4⟩ := box_cells hN2
  have HB2 := Lib.hid (((below_box w (boxOf ⟨#[111, 114]⟩ ⟨#[]⟩ 0 pos a 2 cap)).mono hBw).trans hb2)
  have HKP2 := Lib.hid ((kept_below (b := b) (below_box w (boxOf ⟨#[111, 114]⟩ ⟨#[]⟩ 0 pos a 2 cap))).trans hk2)
  have HC := Lib.hid (two_f ⟨#[111, 114]⟩ pos a cap x y (.inr (.inl (by simp [opF2, Lib.toList_data]))) hx hy kx ky B b _ r w2 (HT1.out.next hb2) hW2 HR.out HL2.out)
  clear hb2 hk2 hW2 HP1 HT1 HN1 hN2 hx hy
  go_wp2_with fail
  refine HC.out.mono ?_
  rintro e w3 ⟨rfl, hW3, hb3, hk3⟩
  have HP3 := Lib.hid (put1 B b _ ⟨#[41]⟩ w3 hW3 HL3.out)
  have HB3 := Lib.hid (HB2.out.trans hb3)
  have HKP3 := Lib.hid (HKP2.out.trans hk3)
  clear hb3 hk3 hW3 HC HB2 HKP2 c0 c1 c2 c3 c4
  go_wp2_with fail
  refine HP3.out.mono ?_
  rintro e w4 ⟨rfl, hW4, hb4, hk4⟩
  have hW4' : WB B b (l ++ t) w4 := by rw [← HE.out]; exact hW4
  have HZ := Lib.hid (show WPost B b (l ++ t) w (.returned (.tuple #[])) w4 from ⟨rfl, hW4', HB3.out.trans hb4, HKP3.out.trans hk4⟩)
  clear HP3 hW4 hW4' hb4 hk4 HB3 HKP3
  go_wp2_with fail
  go_end0
  exact HZ.out
set_option maxRecDepth 100000 in
set_option maxHeartbeats 4000000 in
theorem form_imp (pos : Int) (a : Option Addr) (cap : Nat) (x y : Nd) (B b : Nat) (l t : L8) (w : World) (hT : TIn B (twoN ⟨#[105, 109, 112]⟩ pos a cap x y) w) (h : WB B b l w) (hx : FmC x) (hy : FmC y) (kx : x.okF = true) (ky : y.okF = true) (ht : t = [40] ++ (x.fx ++ ([32] ++ opSign ⟨#[105, 109, 112]⟩ ++ [32]) ++ y.fx) ++ [41]) (hlen : l.length + t.length ≤ 140737488351232) :
    Calls Tryd.prog 25 #[wAt b, .agg #[.string ⟨#[105, 109, 112]⟩, .string ⟨#[]⟩, .int .i64 0, .int .i64 pos, .slice a 2 cap]] w (WPost B b (l ++ t) w) := by
  have hBw := hT.size
  have hbw := h.lt
  obtain ⟨r, hr⟩ : ∃ r, r = x.fx ++ ([32] ++ opSign ⟨#[105, 109, 112]⟩ ++ [32]) ++ y.fx := ⟨_, rfl⟩
  rw [← hr] at ht
  have hL1 : l.length + ([40] : L8).length ≤ 140737488351232 := by rw [ht] at hlen; simp only [List.length_append] at hlen; omega
  have hL2 : (l ++ [40]).length + r.length ≤ 140737488351232 := by rw [ht] at hlen; simp only [List.length_append] at hlen ⊢; omega
  have hL3 : (l ++ [40] ++ r).length + ([41] : L8).length ≤ 140737488351232 := by rw [ht] at hlen; simp only [List.length_append] at hlen ⊢; omega
  have HE := Lib.hid (show l ++ [40] ++ r ++ [41] = l ++ t by rw [ht]; simp only [List.append_assoc])
  have HP1 := Lib.hid (put1_box B b l ⟨#[40]⟩ w _ (h.alloc (boxOf ⟨#[105, 109, 112]⟩ ⟨#[]⟩ 0 pos a 2 cap)) hL1)
  have HT1 := Lib.hid (hT.alloc (boxOf ⟨#[105, 109, 112]⟩ ⟨#[]⟩ 0 pos a 2 cap))
  have HN1 := Lib.hid (new_at w (boxOf ⟨#[105, 109, 112]⟩ ⟨#[]⟩ 0 pos a 2 cap))
  have HL2 := Lib.hid hL2
  have HL3 := Lib.hid hL3
  have HR := Lib.hid hr
  clear hT h hL1 hL2 hL3 ht hlen hr
  have hc5 := cellsNode
  go_enter Tryd.func25, Tryd.ntmps25
  go_wp2_with fail
  refine HP1.out.mono ?_
  rintro e w2 hp
  obtain ⟨rfl, hW2, hb2, hk2⟩ := hp
  have hN2 := box_kept HN1.out (by omega) hk2
  obtain ⟨c0, c1, c2, c3, c4⟩ := box_cells hN2
  have HB2 := Lib.hid (((below_box w (boxOf ⟨#[105, 109, 112]⟩ ⟨#[]⟩ 0 pos a 2 cap)).mono hBw).trans hb2)
  have HKP2 := Lib.hid ((kept_below (b := b) (below_box w (boxOf ⟨#[105, 109, 112]⟩ ⟨#[]⟩ 0 pos a 2 cap))).trans hk2)
  have HC := Lib.hid (two_f ⟨#[105, 109, 112]⟩ pos a cap x y (.inr (.inl (by simp [opF2, Lib.toList_data]))) hx hy kx ky B b _ r w2 (HT1.out.next hb2) hW2 HR.out HL2.out)
  clear hb2 hk2 hW2 HP1 HT1 HN1 hN2 hx hy
  go_wp2_with fail
  refine HC.out.mono ?_
  rintro e w3 ⟨rfl, hW3, hb3, hk3⟩
  have HP3 := Lib.hid (put1 B b _ ⟨#[41]⟩ w3 hW3 HL3.out)
  have HB3 := Lib.hid (HB2.out.trans hb3)
  have HKP3 := Lib.hid (HKP2.out.trans hk3)
  clear hb3 hk3 hW3 HC HB2 HKP2 c0 c1 c2 c3 c4
  go_wp2_with fail
  refine HP3.out.mono ?_
  rintro e w4 ⟨rfl, hW4, hb4, hk4⟩
  have hW4' : WB B b (l ++ t) w4 := by rw [← HE.out]; exact hW4
  have HZ := Lib.hid (show WPost B b (l ++ t) w (.returned (.tuple #[])) w4 from ⟨rfl, hW4', HB3.out.trans hb4, HKP3.out.trans hk4⟩)
  clear HP3 hW4 hW4' hb4 hk4 HB3 HKP3
  go_wp2_with fail
  go_end0
  exact HZ.out
set_option maxRecDepth 100000 in
set_option maxHeartbeats 4000000 in
theorem form_iff (pos : Int) (a : Option Addr) (cap : Nat) (x y : Nd) (B b : Nat) (l t : L8) (w : World) (hT : TIn B (twoN ⟨#[105, 102, 102]⟩ pos a cap x y) w) (h : WB B b l w) (hx : FmC x) (hy : FmC y) (kx : x.okF = true) (ky : y.okF = true) (ht : t = [40] ++ (x.fx ++ ([32] ++ opSign ⟨#[105, 102, 102]⟩ ++ [32]) ++ y.fx) ++ [41]) (hlen : l.length + t.length ≤ 140737488351232) :
    Calls Tryd.prog 25 #[wAt b, .agg #[.string ⟨#[105, 102, 102]⟩, .string ⟨#[]⟩, .int .i64 0, .int .i64 pos, .slice a 2 cap]] w (WPost B b (l ++ t) w) := by
  have hBw := hT.size
  have hbw := h.lt
  obtain ⟨r, hr⟩ : ∃ r, r = x.fx ++ ([32] ++ opSign ⟨#[105, 102, 102]⟩ ++ [32]) ++ y.fx := ⟨_, rfl⟩
  rw [← hr] at ht
  have hL1 : l.length + ([40] : L8).length ≤ 140737488351232 := by rw [ht] at hlen; simp only [List.length_append] at hlen; omega
  have hL2 : (l ++ [40]).length + r.length ≤ 140737488351232 := by rw [ht] at hlen; simp only [List.length_append] at hlen ⊢; omega
  have hL3 : (l ++ [40] ++ r).length + ([41] : L8).length ≤ 140737488351232 := by rw [ht] at hlen; simp only [List.length_append] at hlen ⊢; omega
  have HE := Lib.hid (show l ++ [40] ++ r ++ [41] = l ++ t by rw [ht]; simp only [List.append_assoc])
  have HP1 := Lib.hid (put1_box B b l ⟨#[40]⟩ w _ (h.alloc (boxOf ⟨#[105, 102, 102]⟩ ⟨#[]⟩ 0 pos a 2 cap)) hL1)
  have HT1 := Lib.hid (hT.alloc (boxOf ⟨#[105, 102, 102]⟩ ⟨#[]⟩ 0 pos a 2 cap))
  have HN1 := Lib.hid (new_at w (boxOf ⟨#[105, 102, 102]⟩ ⟨#[]⟩ 0 pos a 2 cap))
  have HL2 := Lib.hid hL2
  have HL3 := Lib.hid hL3
  have HR := Lib.hid hr
  clear hT h hL1 hL2 hL3 ht hlen hr
  have hc5 := cellsNode
  go_enter Tryd.func25, Tryd.ntmps25
  go_wp2_with fail
  refine HP1.out.mono ?_
  rintro e w2 hp
  obtain ⟨rfl, hW2, hb2, hk2⟩ := hp
  have hN2 := box_kept HN1.out (by omega) hk2
  obtain ⟨c0, c1, c2, c3, c4⟩ := box_cells hN2
  have HB2 := Lib.hid (((below_box w (boxOf ⟨#[105, 102, 102]⟩ ⟨#[]⟩ 0 pos a 2 cap)).mono hBw).trans hb2)
  have HKP2 := Lib.hid ((kept_below (b := b) (below_box w (boxOf ⟨#[105, 102, 102]⟩ ⟨#[]⟩ 0 pos a 2 cap))).trans hk2)
  have HC := Lib.hid (two_f ⟨#[105, 102, 102]⟩ pos a cap x y (.inr (.inl (by simp [opF2, Lib.toList_data]))) hx hy kx ky B b _ r w2 (HT1.out.next hb2) hW2 HR.out HL2.out)
  clear hb2 hk2 hW2 HP1 HT1 HN1 hN2 hx hy
  go_wp2_with fail
  refine HC.out.mono ?_
  rintro e w3 ⟨rfl, hW3, hb3, hk3⟩
  have HP3 := Lib.hid (put1 B b _ ⟨#[41]⟩ w3 hW3 HL3.out)
  have HB3 := Lib.hid (HB2.out.trans hb3)
  have HKP3 := Lib.hid (HKP2.out.trans hk3)
  clear hb3 hk3 hW3 HC HB2 HKP2 c0 c1 c2 c3 c4
  go_wp2_with fail
  refine HP3.out.mono ?_
  rintro e w4 ⟨rfl, hW4, hb4, hk4⟩
  have hW4' : WB B b (l ++ t) w4 := by rw [← HE.out]; exact hW4
  have HZ := Lib.hid (show WPost B b (l ++ t) w (.returned (.tuple #[])) w4 from ⟨rfl, hW4', HB3.out.trans hb4, HKP3.out.trans hk4⟩)
  clear HP3 hW4 hW4' hb4 hk4 HB3 HKP3
  go_wp2_with fail
  go_end0
  exact HZ.out
set_option maxRecDepth 100000 in
set_option maxHeartbeats 4000000 in
theorem wform_call (name : ByteArray) (pos : Int) (a : Option Addr) (cap : Nat) (kids : Fo) (B b : Nat) (l t : L8) (w : World) (hT : TIn B ⟨⟨#[99, 97, 108, 108]⟩, name, 0, pos, a, cap, kids⟩ w) (h : WB B b l w) (ho : kids.allB Nd.okT = true) (ht : t = (name.data.toList ++ [40]) ++ rowT true kids.tx ++ [41]) (hlen : l.length + t.length ≤ 140737488351232) :
    Calls Tryd.prog 25 #[wAt b, .agg #[.string ⟨#[99, 97, 108, 108]⟩, .string name, .int .i64 0, .int .i64 pos, .slice a kids.len cap]] w (WPost B b (l ++ t) w) := by
  have hBw := hT.size
  have hbw := h.lt
  obtain ⟨r, hr⟩ : ∃ r, r = rowT true kids.tx := ⟨_, rfl⟩
  rw [← hr] at ht
  have hL1 : l.length + (name.data.toList ++ [40]).length ≤ 140737488351232 := by rw [ht] at hlen; simp only [List.length_append] at hlen ⊢; omega
  have hL2 : (l ++ (name.data.toList ++ [40])).length + r.length ≤ 140737488351232 := by rw [ht] at hlen; simp only [List.length_append] at hlen ⊢; omega
  have hL3 : (l ++ (name.data.toList ++ [40]) ++ r).length + ([41] : L8).length ≤ 140737488351232 := by rw [ht] at hlen; simp only [List.length_append] at hlen ⊢; omega
  have HE := Lib.hid (show l ++ (name.data.toList ++ [40]) ++ r ++ [41] = l ++ t by rw [ht]; simp only [List.append_assoc])
  have HP1 := Lib.hid (put2_box B b l name ⟨#[40]⟩ w _ (h.alloc (boxOf ⟨#[99, 97, 108, 108]⟩ name 0 pos a kids.len cap)) hL1)
  have HT1 := Lib.hid (hT.alloc (boxOf ⟨#[99, 97, 108, 108]⟩ name 0 pos a kids.len cap))
  have HN1 := Lib.hid (new_at w (boxOf ⟨#[99, 97, 108, 108]⟩ name 0 pos a kids.len cap))
  have HL2 := Lib.hid hL2
  have HL3 := Lib.hid hL3
  have HR := Lib.hid hr
  have HO := Lib.hid ho
  clear hT h hL1 hL2 hL3 ht hlen hr ho
  have hc5 := cellsNode
  go_enter Tryd.func25, Tryd.ntmps25
  go_wp2_with fail
  refine HP1.out.mono ?_
  rintro e w2 hp
  obtain ⟨rfl, hW2, hb2, hk2⟩ := hp
  have hN2 := box_kept HN1.out (by omega) hk2
  obtain ⟨c0, c1, c2, c3, c4⟩ := box_cells hN2
  have HB2 := Lib.hid (((below_box w (boxOf ⟨#[99, 97, 108, 108]⟩ name 0 pos a kids.len cap)).mono hBw).trans hb2)
  have HKP2 := Lib.hid ((kept_below (b := b) (below_box w (boxOf ⟨#[99, 97, 108, 108]⟩ name 0 pos a kids.len cap))).trans hk2)
  have HC := Lib.hid (wterms_any ⟨⟨#[99, 97, 108, 108]⟩, name, 0, pos, a, cap, kids⟩ (Fo.all_of (fun T _ => term_any T) kids) HO.out B b _ r w2 (HT1.out.next hb2) hW2 HR.out HL2.out)
  clear hb2 hk2 hW2 HP1 HT1 HN1 hN2
  go_wp2_with fail
  refine HC.out.mono ?_
  rintro e w3 ⟨rfl, hW3, hb3, hk3⟩
  have HP3 := Lib.hid (put1 B b _ ⟨#[41]⟩ w3 hW3 HL3.out)
  have HB3 := Lib.hid (HB2.out.trans hb3)
  have HKP3 := Lib.hid (HKP2.out.trans hk3)
  clear hb3 hk3 hW3 HC HB2 HKP2 c0 c1 c2 c3 c4
  go_wp2_with fail
  refine HP3.out.mono ?_
  rintro e w4 ⟨rfl, hW4, hb4, hk4⟩
  have hW4' : WB B b (l ++ t) w4 := by rw [← HE.out]; exact hW4
  have HZ := Lib.hid (show WPost B b (l ++ t) w (.returned (.tuple #[])) w4 from ⟨rfl, hW4', HB3.out.trans hb4, HKP3.out.trans hk4⟩)
  clear HP3 hW4 hW4' hb4 hk4 HB3 HKP3
  go_wp2_with fail
  go_end0
  exact HZ.out
end Go.Proofs.YtamihfgkpilfiaaDoor
