/- The walk of ShowFormulas. -/
import Derived.Test.YtamihfgkpilfiaaDoorSfB
import Derived.Test.YtamihfgkpilfiaaDoorRtG
import Derived.Test.YtamihfgkpilfiaaDoorLexA
import Derived.Test.YtamihfgkpilfiaaDoorRows
import Derived.WalkKit
import Derived.WalkLawsBesides
import Derived.WalkSpells
import Derived.ProofKit
import Derived.Outline
import Derived.Deep.QuietTactic
import Derived.BigQuiet
import Derived.Deep.Light
import Derived.Deep.CutBlock
import Derived.Deep.DeepCutAuto
import Derived.Deep.DeepFit
import Derived.Deep.LoopGhost
import Derived.Lib.Hide
import Derived.Lib.OthersKept
import Derived.IntWalk
import Derived.StillTailTactics
import Derived.Deep.RegionHeld3
namespace Go.Proofs.YtamihfgkpilfiaaDoor
open Go.RowKit
/-! The walk of ShowFormulas. -/
/-- Two nodes' boxes, and all that was there. -/
def In2 (w : World) (T U : Nd) (W : World) : Prop := W.heap[w.heap.size]? = some (boxOf T.op T.name T.n T.pos T.a T.kids.len T.cap) ∧ W.heap[w.heap.size + 1]? = some (boxOf U.op U.name U.n U.pos U.a U.kids.len U.cap) ∧ Below w.heap.size w W
theorem In2.next {w W W' : World} {T U : Nd} (h : In2 w T U W) (hb : Below W.heap.size W W') : In2 w T U W' :=
  ⟨by rw [hb.block _ (lt_heap h.1)]; exact h.1, by rw [hb.block _ (lt_heap h.2.1)]; exact h.2.1, h.2.2.trans (hb.mono h.2.2.size)⟩
theorem In2.start (w : World) (T U : Nd) : In2 w T U ((w.alloc (boxOf T.op T.name T.n T.pos T.a T.kids.len T.cap)).alloc (boxOf U.op U.name U.n U.pos U.a U.kids.len U.cap)) := ⟨box_alloc (new_at _ _) _, second_at w _ _, two_boxes _ _ _⟩
theorem In2.drew {w W : World} {T U : Nd} (h : In2 w T U W) : In2 w T U W.drew := ⟨h.1, h.2.1, h.2.2.drew⟩
theorem In2.size {w W : World} {T U : Nd} (h : In2 w T U W) : w.heap.size ≤ W.heap.size := h.2.2.size
set_option maxRecDepth 100000 in
set_option maxHeartbeats 16000000 in
theorem showforms_walk (T U : Nd) (w : World) (hT : T.In w) (hTs : T.sized) (hV : U.In w) (hVs : U.sized) (hU : UT w) :
    Calls Tryd.prog 3 #[T.val, U.val] w fun e w' => e = .returned (.bool true) ∧ Below w.heap.size w w' := by
  have hS1 := fun W (h : In2 w T U W) => rsize_any T W (hT.below h.2.2)
  have hS2 := fun W (h : In2 w T U W) => rsize_any U W (hV.below h.2.2)
  have hF := fun W (h : In2 w T U W) => rIsF_any T W (Utf8Tabs_below hU h.2.2) (hT.below h.2.2) hTs
  have hG := fun W (h : In2 w T U W) => rIsT_any U W (Utf8Tabs_below hU h.2.2) (hV.below h.2.2) hVs
  have hA := fun W (h : In2 w T U W) (h1 : T.okF = true) (h2 : T.size ≤ 200) => showF T W (hT.below h.2.2) h1 (by omega)
  have hB := fun W (h : In2 w T U W) (h1 : T.okF = true) (h2 : T.size ≤ 200) => rform_any T h1 W (hT.below h.2.2) (by have := len_F T h1; omega)
  have hC := fun W (h : In2 w T U W) (h1 : U.okT = true) (h2 : U.size ≤ 200) => showT U W (hV.below h.2.2) h1 (by omega)
  have hD := fun W (h : In2 w T U W) (h1 : U.okT = true) (h2 : U.size ≤ 200) => rterm_any U h1 W (hV.below h.2.2) (by have := len_T U h1; omega)
  have h0 := In2.start w T U
  clear hU hT hTs hV hVs
  obtain ⟨op, name, n, pos, a, cap, kids⟩ := T
  obtain ⟨op', name', n', pos', a', cap', kids'⟩ := U
  simp only [Nd.val_def] at hS1 hS2 hF hG hA hB hC hD ⊢
  obtain ⟨s1, hs1⟩ : ∃ s, s = mkS (Nd.fx ⟨op, name, n, pos, a, cap, kids⟩) := ⟨_, rfl⟩
  obtain ⟨s2, hs2⟩ : ∃ s, s = mkS (Nd.tx ⟨op', name', n', pos', a', cap', kids'⟩) := ⟨_, rfl⟩
  rw [show (⟨(Nd.fx ⟨op, name, n, pos, a, cap, kids⟩).toArray⟩ : ByteArray) = s1 from hs1.symm] at hA
  rw [show (⟨(Nd.tx ⟨op', name', n', pos', a', cap', kids'⟩).toArray⟩ : ByteArray) = s2 from hs2.symm] at hC
  rw [← hs1] at hB
  rw [← hs2] at hD
  clear hs1 hs2
  generalize (Nd.mk op name n pos a cap kids).okF = q1 at hF hA hB
  generalize (Nd.mk op' name' n' pos' a' cap' kids').okT = q2 at hG hC hD
  generalize (Nd.mk op name n pos a cap kids).size = z1 at hS1 hF hA hB
  generalize (Nd.mk op' name' n' pos' a' cap' kids').size = z2 at hS2 hG hC hD
  generalize decide ((Nd.mk op name n pos a cap kids).deep ≤ 30) = d1 at hF
  generalize decide ((Nd.mk op' name' n' pos' a' cap' kids').deep ≤ 30) = d2 at hG
  generalize hI : In2 w ⟨op, name, n, pos, a, cap, kids⟩ ⟨op', name', n', pos', a', cap', kids'⟩ = I at hS1 hS2 hF hG hA hB hC hD h0
  have HIN := Lib.hid (fun W W' (h : I W) (hb : Below W.heap.size W W') => (by rw [← hI] at h ⊢; exact In2.next h hb : I W'))
  have HID := Lib.hid (fun W (h : I W) => (by rw [← hI] at h ⊢; exact In2.drew h : I W.drew))
  have HIX : Hid (∀ W, I W → W.heap[w.heap.size]? = some (boxOf op name n pos a kids.len cap) ∧ W.heap[w.heap.size + 1]? = some (boxOf op' name' n' pos' a' kids'.len cap') ∧ Below w.heap.size w W) := Lib.hid (fun W h => by rw [← hI] at h; exact h)
  clear hI
  have HC1 := Lib.hid (hS1 _ h0)
  have HS2 := Lib.hid hS2
  have HF := Lib.hid hF
  have HG := Lib.hid hG
  have HA := Lib.hid hA
  have HB := Lib.hid hB
  have HC := Lib.hid hC
  have HD := Lib.hid hD
  have H0 := Lib.hid h0
  clear hS1 hS2 hF hG hA hB hC hD h0
  have hc5 := cellsNode
  by_cases hz1 : z1 ≤ 200
  case neg =>
    have hzz : (200 : Int) < min (z1 : Int) 2001 := by omega
    generalize min (z1 : Int) 2001 = zz at HC1 hzz
    go_enter Tryd.func3, Tryd.ntmps3
    go_wp2_with fail
    refine HC1.out.mono ?_
    rintro e w3 ⟨rfl, hb⟩
    have hI3 := (HIX.out _ (HIN.out _ _ H0.out hb)).2.2
    clear hb HC1
    go_wp2_with fail
    go_ret
    exact ⟨rfl, hI3⟩
  have hzz : ¬ (200 : Int) < min (z1 : Int) 2001 := by omega
  have hz1' : decide (z1 ≤ 2000) = true := by simp; omega
  rw [hz1'] at HF
  generalize min (z1 : Int) 2001 = zz at HC1 hzz
  go_enter Tryd.func3, Tryd.ntmps3
  go_wp2_with fail
  refine HC1.out.mono ?_
  rintro e w3 ⟨rfl, hb⟩
  have H3 := Lib.hid (HIN.out _ _ H0.out hb)
  obtain ⟨x1, x2, x3⟩ := HIX.out _ H3.out
  obtain ⟨b0, b1, b2, b3, b4⟩ := box_cells x1
  obtain ⟨c0, c1, c2, c3, c4⟩ := box_cells x2
  have HC2 := Lib.hid (HS2.out _ H3.out)
  clear hb HC1 H0 x1 x2 x3 HS2
  by_cases hz2 : z2 ≤ 200
  case neg =>
    have hyy : (200 : Int) < min (z2 : Int) 2001 := by omega
    generalize min (z2 : Int) 2001 = yy at HC2 hyy
    go_wp2_with fail
    refine HC2.out.mono ?_
    rintro e w4 ⟨rfl, hb⟩
    have hI3 := (HIX.out _ (HIN.out _ _ H3.out hb)).2.2
    clear hb HC2
    go_wp2_with fail
    go_ret
    exact ⟨rfl, hI3⟩
  have hyy : ¬ (200 : Int) < min (z2 : Int) 2001 := by omega
  have hz2' : decide (z2 ≤ 2000) = true := by simp; omega
  rw [hz2'] at HG
  generalize min (z2 : Int) 2001 = yy at HC2 hyy
  go_wp2_with fail
  refine HC2.out.mono ?_
  rintro e w4 ⟨rfl, hb⟩
  have H4 := Lib.hid (HIN.out _ _ H3.out hb)
  have HC3 := Lib.hid (HF.out _ H4.out)
  clear b0 b1 b2 b3 b4 c0 c1 c2 c3 c4
  obtain ⟨x1, x2, x3⟩ := HIX.out _ H4.out
  obtain ⟨b0, b1, b2, b3, b4⟩ := box_cells x1
  obtain ⟨c0, c1, c2, c3, c4⟩ := box_cells x2
  clear hb HC2 H3 x1 x2 x3 HF
  rw [Bool.and_true] at HC3 HG
  generalize hqd1 : (d1 && q1) = qd1 at HC3
  cases qd1 with
  | false =>
    clear hqd1
    go_wp2_with fail
    refine HC3.out.mono ?_
    rintro e w5 ⟨rfl, hb⟩
    have hI3 := (HIX.out _ (HIN.out _ _ H4.out hb)).2.2
    clear hb HC3
    go_wp2_with fail
    go_ret
    exact ⟨rfl, hI3⟩
  | true =>
  have hq1 : q1 = true := by cases q1 <;> simp_all
  clear hqd1
  go_wp2_with fail
  refine HC3.out.mono ?_
  rintro e w5 ⟨rfl, hb⟩
  have H5 := Lib.hid (HIN.out _ _ H4.out hb)
  have HC4 := Lib.hid (HG.out _ H5.out)
  clear b0 b1 b2 b3 b4 c0 c1 c2 c3 c4
  obtain ⟨x1, x2, x3⟩ := HIX.out _ H5.out
  obtain ⟨b0, b1, b2, b3, b4⟩ := box_cells x1
  obtain ⟨c0, c1, c2, c3, c4⟩ := box_cells x2
  clear hb HC3 H4 x1 x2 x3 HG
  generalize hqd2 : (d2 && q2) = qd2 at HC4
  cases qd2 with
  | false =>
    clear hqd2
    go_wp2_with fail
    refine HC4.out.mono ?_
    rintro e w6 ⟨rfl, hb⟩
    have hI3 := (HIX.out _ (HIN.out _ _ H5.out hb)).2.2
    clear hb HC4
    go_wp2_with fail
    go_ret
    exact ⟨rfl, hI3⟩
  | true =>
  have hq2 : q2 = true := by cases q2 <;> simp_all
  clear hqd2
  go_wp2_with fail
  refine HC4.out.mono ?_
  rintro e w6 ⟨rfl, hb⟩
  have H6 := Lib.hid (HID.out _ (HIN.out _ _ H5.out hb))
  have HA2 := Lib.hid (HA.out _ H6.out hq1 hz1)
  have HB2 := Lib.hid (fun W h => HB.out W h hq1 hz1)
  have HC2 := Lib.hid (fun W h => HC.out W h hq2 hz2)
  have HD2 := Lib.hid (fun W h => HD.out W h hq2 hz2)
  clear b0 b1 b2 b3 b4 c0 c1 c2 c3 c4
  obtain ⟨x1, x2, x3⟩ := HIX.out _ (HIN.out _ _ H5.out hb)
  obtain ⟨b0, b1, b2, b3, b4⟩ := box_cells x1
  obtain ⟨c0, c1, c2, c3, c4⟩ := box_cells x2
  clear hb HC4 H5 x1 x2 x3 HA HB HC HD hq1 hq2 hz1 hz2 hz1' hz2'
  have t1 : (s1.toList == s1.toList) = true := by simp
  have t2 : (s2.toList == s2.toList) = true := by simp
  go_wp2_with fail
  go_region_held3 (fun wz => wz.cell? ⟨w.heap.size, 0, none⟩ = some (.string op) ∧ wz.cell? ⟨w.heap.size, 1, none⟩ = some (.string name) ∧ wz.cell? ⟨w.heap.size, 2, none⟩ = some (.int .i64 n) ∧ wz.cell? ⟨w.heap.size, 3, none⟩ = some (.int .i64 pos) ∧ wz.cell? ⟨w.heap.size, 4, none⟩ = some (.slice a kids.len cap) ∧ wz.cell? ⟨w.heap.size + 1, 0, none⟩ = some (.string op') ∧ wz.cell? ⟨w.heap.size + 1, 1, none⟩ = some (.string name') ∧ wz.cell? ⟨w.heap.size + 1, 2, none⟩ = some (.int .i64 n') ∧ wz.cell? ⟨w.heap.size + 1, 3, none⟩ = some (.int .i64 pos') ∧ wz.cell? ⟨w.heap.size + 1, 4, none⟩ = some (.slice a' kids'.len cap')) (go_keep) (first | (go_at_call 10; refine HA2.out.mono ?_; rintro e w7 ⟨rfl, hb⟩; have H7 := Lib.hid (HIN.out _ _ H6.out hb); have HB3 := Lib.hid (HB2.out _ H7.out); clear b0 b1 b2 b3 b4 c0 c1 c2 c3 c4; obtain ⟨x1, x2, x3⟩ := HIX.out _ H7.out; obtain ⟨b0, b1, b2, b3, b4⟩ := box_cells x1; obtain ⟨c0, c1, c2, c3, c4⟩ := box_cells x2; clear x1 x2 x3; clear hb HA2 H6) | (go_at_call 11; refine HB3.out.mono ?_; rintro e w8 ⟨rfl, hb⟩; have H8 := Lib.hid (HIN.out _ _ H7.out hb); have HC3 := Lib.hid (HC2.out _ H8.out); clear b0 b1 b2 b3 b4 c0 c1 c2 c3 c4; obtain ⟨x1, x2, x3⟩ := HIX.out _ H8.out; obtain ⟨b0, b1, b2, b3, b4⟩ := box_cells x1; obtain ⟨c0, c1, c2, c3, c4⟩ := box_cells x2; clear x1 x2 x3; clear hb HB3 H7) | (go_at_call 12; refine HC3.out.mono ?_; rintro e w9 ⟨rfl, hb⟩; have H9 := Lib.hid (HIN.out _ _ H8.out hb); have HD3 := Lib.hid (HD2.out _ H9.out); clear b0 b1 b2 b3 b4 c0 c1 c2 c3 c4; obtain ⟨x1, x2, x3⟩ := HIX.out _ H9.out; obtain ⟨b0, b1, b2, b3, b4⟩ := box_cells x1; obtain ⟨c0, c1, c2, c3, c4⟩ := box_cells x2; clear x1 x2 x3; clear hb HC3 H8) | (go_at_call 13; refine HD3.out.mono ?_; rintro e w10 ⟨rfl, hb⟩; have H10 := Lib.hid (HIN.out _ _ H9.out hb); have HK := Lib.hid (sknown_any w10); clear b0 b1 b2 b3 b4 c0 c1 c2 c3 c4; obtain ⟨x1, x2, x3⟩ := HIX.out _ H10.out; obtain ⟨b0, b1, b2, b3, b4⟩ := box_cells x1; obtain ⟨c0, c1, c2, c3, c4⟩ := box_cells x2; clear x1 x2 x3; clear hb HD3 H9) | (go_at_call 14; refine HK.out.mono ?_; rintro e w11 ⟨rfl, hb⟩; have H11 := Lib.hid (HIN.out _ _ H10.out hb); clear b0 b1 b2 b3 b4 c0 c1 c2 c3 c4; obtain ⟨x1, x2, x3⟩ := HIX.out _ H11.out; obtain ⟨b0, b1, b2, b3, b4⟩ := box_cells x1; obtain ⟨c0, c1, c2, c3, c4⟩ := box_cells x2; clear x1 x2 x3; clear hb HK H10))
  all_goals (have hI11 := (HIX.out _ H11.out).2.2; go_wp2_with fail; go_ret; exact ⟨rfl, hI11⟩)
end Go.Proofs.YtamihfgkpilfiaaDoor
