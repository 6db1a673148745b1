/- Package show: Formula and Term: the text of each formula, each term. -/
import Derived.Test.YtamihfgkpilfiaaDoorShE
import Derived.Test.YtamihfgkpilfiaaDoorTSize
import Derived.Test.YtamihfgkpilfiaaDoorLexA
import Derived.Test.YtamihfgkpilfiaaDoorRows
import Derived.WalkKit
import Derived.WalkLawsBesides
import Derived.WalkSpells
import Derived.ProofKit
import Derived.Outline
import Derived.Deep.QuietTactic
import Derived.BigQuiet
import Derived.Deep.Light
import Derived.Deep.CutBlock
import Derived.Deep.DeepCutAuto
import Derived.Deep.DeepFit
import Derived.Deep.LoopGhost
import Derived.Lib.Hide
import Derived.Lib.OthersKept
import Derived.IntWalk
import Derived.StillTailTactics
namespace Go.Proofs.YtamihfgkpilfiaaDoor
open Go.RowKit
theorem form_any (T : Nd) : FmC T := by
  refine Nd.all_of (P := FmC) ?_ T
  intro T hk hoo B b l w hT h hlen
  cases okF_view T hoo with
  | lit op pos a cap ho =>
    have ho2 := ho
    unfold opF0 at ho2
    simp only [Bool.or_eq_true, beq_iff_eq] at ho2
    have e : (Nd.mk op ⟨#[]⟩ 0 pos a cap .nil).fx = op.data.toList := by show fTxt op _ _ _ = _; unfold fTxt; rw [if_pos ho]
    rw [e] at hlen ⊢
    rcases ho2 with ho2 | ho2
    · obtain rfl := ba_of (show (op.toList == [116, 114, 117, 101]) = true by simp [ho2])
      exact form_true pos a cap B b l w h hlen
    · obtain rfl := ba_of (show (op.toList == [102, 97, 108, 115, 101]) = true by simp [ho2])
      exact form_false pos a cap B b l w h hlen
  | not pos a cap x hx =>
    exact form_not pos a cap x B b l _ w hT h hk.1 hx (fx_not _ _ _) hlen
  | two op pos a cap x y ho hx hy =>
    have hk1 : FmC x := hk.1
    have hk2 : FmC y := hk.2.1
    have ho2 := ho
    unfold opF2 at ho2
    simp only [Bool.or_eq_true, beq_iff_eq] at ho2
    rcases ho2 with ((ho2 | ho2) | ho2) | ho2
    · obtain rfl := ba_of (show (op.toList == [97, 110, 100]) = true by simp [ho2])
      exact form_and pos a cap x y B b l _ w hT h hk1 hk2 hx hy (fx_two ho _ _ _) hlen
    · obtain rfl := ba_of (show (op.toList == [111, 114]) = true by simp [ho2])
      exact form_or pos a cap x y B b l _ w hT h hk1 hk2 hx hy (fx_two ho _ _ _) hlen
    · obtain rfl := ba_of (show (op.toList == [105, 109, 112]) = true by simp [ho2])
      exact form_imp pos a cap x y B b l _ w hT h hk1 hk2 hx hy (fx_two ho _ _ _) hlen
    · obtain rfl := ba_of (show (op.toList == [105, 102, 102]) = true by simp [ho2])
      exact form_iff pos a cap x y B b l _ w hT h hk1 hk2 hx hy (fx_two ho _ _ _) hlen
  | quant op name n pos a cap x ho hn h0 h1 hx =>
    have hk1 : FmC x := hk.1
    have ho2 := ho
    unfold opFq at ho2
    simp only [Bool.or_eq_true, beq_iff_eq] at ho2
    rcases ho2 with ho2 | ho2
    · obtain rfl := ba_of (show (op.toList == [101, 120]) = true by simp [ho2])
      exact form_ex name n pos a cap x B b l _ w hT h hk1 hx h0 (by omega) (fx_q ho _ _ _) hlen
    · obtain rfl := ba_of (show (op.toList == [97, 108, 108]) = true by simp [ho2])
      exact form_all name n pos a cap x B b l _ w hT h hk1 hx h0 (by omega) (fx_q ho _ _ _) hlen
  | is name pos a cap hn =>
    have e : (Nd.mk ⟨#[105, 115]⟩ name 0 pos a cap .nil).fx = name.data.toList := fx_is _ _ _
    rw [e] at hlen ⊢
    exact form_is name pos a cap B b l w h hlen
  | rel op pos a cap x y ho hx hy =>
    have ho2 := ho
    unfold opFr at ho2
    simp only [Bool.or_eq_true, beq_iff_eq] at ho2
    rcases ho2 with (((((ho2 | ho2) | ho2) | ho2) | ho2) | ho2) | ho2
    · obtain rfl := ba_of (show (op.toList == [101, 113]) = true by simp [ho2])
      exact form_eq pos a cap x y B b l _ w hT h hx hy (fx_rel ho _ _ _) hlen
    · obtain rfl := ba_of (show (op.toList == [110, 101]) = true by simp [ho2])
      exact form_ne pos a cap x y B b l _ w hT h hx hy (fx_rel ho _ _ _) hlen
    · obtain rfl := ba_of (show (op.toList == [108, 116]) = true by simp [ho2])
      exact form_lt pos a cap x y B b l _ w hT h hx hy (fx_rel ho _ _ _) hlen
    · obtain rfl := ba_of (show (op.toList == [108, 101]) = true by simp [ho2])
      exact form_le pos a cap x y B b l _ w hT h hx hy (fx_rel ho _ _ _) hlen
    · obtain rfl := ba_of (show (op.toList == [105, 110]) = true by simp [ho2])
      exact form_in pos a cap x y B b l _ w hT h hx hy (fx_rel ho _ _ _) hlen
    · obtain rfl := ba_of (show (op.toList == [110, 111, 116, 105, 110]) = true by simp [ho2])
      exact form_notin pos a cap x y B b l _ w hT h hx hy (fx_rel ho _ _ _) hlen
    · obtain rfl := ba_of (show (op.toList == [115, 117, 98]) = true by simp [ho2])
      exact form_sub pos a cap x y B b l _ w hT h hx hy (fx_rel ho _ _ _) hlen
  | call name pos a cap kids hn hl hks =>
    exact wform_call name pos a cap kids B b l _ w hT h hks (fx_call _ _ _) hlen
theorem nameB_none : nameB ⟨#[]⟩ = false := by decide +kernel
theorem nameB_ne {s : ByteArray} (h : nameB s = true) : s.data.toList ≠ [] := by
  intro h2
  have : s = ⟨#[]⟩ := ba_of (l := []) (by rw [Lib.toList_data, h2]; rfl)
  rw [this, nameB_none] at h
  cases h
theorem dgs_ne (n : Int) : dgs n ≠ [] := by
  unfold dgs
  rw [Lib.decDigits]
  split
  · simp
  · simp
theorem tx_ne (T : Nd) (h : T.okT = true) : T.tx ≠ [] := by
  cases okT_view T h with
  | var name pos a cap hn => rw [show (Nd.mk ⟨#[118, 97, 114]⟩ name 0 pos a cap .nil).tx = name.data.toList from tx_var _ _ _]; exact nameB_ne hn
  | num n pos a cap h0 h1 => rw [show (Nd.mk ⟨#[110, 117, 109]⟩ ⟨#[]⟩ n pos a cap .nil).tx = dgs n from tx_num _ _ _]; exact dgs_ne n
  | plus n pos a cap name pos' a' cap' h0 h1 hn => show tTxt _ _ _ _ ≠ []; rw [tx_plus]; simp
  | set pos a cap kids hl hkn => show tTxt _ _ _ _ ≠ []; rw [tx_set]; simp
  | join op pos a cap x y hj hx hy hz => show tTxt _ _ _ _ ≠ []; rw [tx_join hj]; simp
theorem fx_ne (T : Nd) (h : T.okF = true) : T.fx ≠ [] := by
  cases okF_view T h with
  | lit op pos a cap ho =>
    show fTxt op _ _ _ ≠ []
    unfold fTxt
    rw [if_pos ho, ← Lib.toList_data]
    unfold opF0 at ho
    simp only [Bool.or_eq_true, beq_iff_eq] at ho
    rcases ho with ho | ho <;> (rw [ho]; decide)
  | not pos a cap x hx => show fTxt _ _ _ _ ≠ []; rw [fx_not]; simp
  | two op pos a cap x y ho hx hy => show fTxt _ _ _ _ ≠ []; rw [fx_two ho]; simp
  | quant op name n pos a cap x ho hn h0 h1 hx => show fTxt _ _ _ _ ≠ []; rw [fx_q ho]; simp
  | is name pos a cap hn => show fTxt _ _ _ _ ≠ []; rw [fx_is]; exact nameB_ne hn
  | rel op pos a cap x y ho hx hy => show fTxt _ _ _ _ ≠ []; rw [fx_rel ho]; simp
  | call name pos a cap kids hn hl hks => show fTxt _ _ _ _ ≠ []; rw [fx_call]; simp
/-! show.Formula, show.Term. -/
theorem bat_mono {B B' b : Nat} {p : Value} {bs : List Value} {w : World} (h : Lib.BuilderAtF tW tU B b p bs w) (hb : B' ≤ B) : Lib.BuilderAtF tW tU B' b p bs w := by
  obtain ⟨h1, v, h2, ⟨h3, h4⟩, h5⟩ := h
  refine ⟨by omega, v, h2, ⟨h3, ?_⟩, h5⟩
  rcases h4 with h4 | ⟨g, cap, cur, fz, hv, hBg, r⟩
  · exact .inl h4
  · exact .inr ⟨g, cap, cur, fz, hv, by omega, r⟩
theorem wb_new (w : World) : WB w.heap.size w.heap.size [] (w.alloc (.cells #[.pointer none, .slice none 0 0] tW)) := Lib.IsBuilderF.of (Lib.fresh_isBuilder tW tU w)
set_option maxRecDepth 100000 in
set_option maxHeartbeats 4000000 in
theorem hasEnd_any (T : Nd) (w : World) (hT : T.In w) (hs : T.size ≤ 2000) : Calls Tryd.prog 24 #[T.val] w fun e w' => e = .returned (.bool true) ∧ Below w.heap.size w w' := by
  have hv : min (T.size : Int) 2001 = T.size := by omega
  have hs' : (T.size : Int) ≤ 2000 := by omega
  obtain ⟨op, name, n, pos, a, cap, kids⟩ := T
  have hc := tsize_any ⟨op, name, n, pos, a, cap, kids⟩ (w.alloc (boxOf op name n pos a kids.len cap)) (hT.below (below_box _ _))
  rw [hv, Nd.val_def] at hc
  obtain ⟨z, hz⟩ : ∃ z : Int, z = (((Nd.mk op name n pos a cap kids).size : Nat) : Int) := ⟨_, rfl⟩
  rw [← hz] at hc hs'
  rw [Nd.val_def]
  have HC := Lib.hid hc
  clear hc hv hz hT hs
  have hc5 := cellsNode
  go_enter Tryd.func24, Tryd.ntmps24
  go_wp2_with fail
  refine HC.out.mono ?_
  rintro e w2 ⟨rfl, hb2⟩
  have hbb := box_then hb2
  clear hb2 HC
  go_wp2_with fail
  go_ret
  exact ⟨rfl, hbb⟩
set_option maxRecDepth 100000 in
set_option maxHeartbeats 4000000 in
theorem showF (T : Nd) (w : World) (hT : T.In w) (ho : T.okF = true) (hs : T.size ≤ 2000) : Calls Tryd.prog 10 #[T.val] w fun e w' => e = .returned (.string ⟨T.fx.toArray⟩) ∧ Below w.heap.size w w' := by
  have hlen : T.fx.length ≤ 4200000 := by have := len_F T ho; omega
  obtain ⟨op, name, n, pos, a, cap, kids⟩ := T
  obtain ⟨tt, htt⟩ : ∃ tt, tt = (Nd.mk op name n pos a cap kids).fx := ⟨_, rfl⟩
  have hT0 : TIn w.heap.size ⟨op, name, n, pos, a, cap, kids⟩ (w.alloc (boxOf op name n pos a kids.len cap)) := ⟨w, rfl, hT, below_box _ _⟩
  have hT1 := hT0.alloc (.cells #[.pointer none, .slice none 0 0] tW)
  have hH := hasEnd_any ⟨op, name, n, pos, a, cap, kids⟩ _ hT1.now hs
  have hW1 : WB w.heap.size (w.heap.size + 1) [] ((w.alloc (boxOf op name n pos a kids.len cap)).alloc (.cells #[.pointer none, .slice none 0 0] tW)) := by
    have := wb_new (w.alloc (boxOf op name n pos a kids.len cap))
    rw [alloc_size] at this
    rcases this with h | h
    · exact .inl (bat_mono h (by omega))
    · exact .inr (bat_mono h (by omega))
  have hN1 : ((w.alloc (boxOf op name n pos a kids.len cap)).alloc (.cells #[.pointer none, .slice none 0 0] tW)).heap[w.heap.size]? = some (boxOf op name n pos a kids.len cap) := box_alloc (new_at _ _) _
  rw [Nd.val_def] at hH ⊢
  have HH := Lib.hid hH
  have HT1 := Lib.hid hT1
  have HW1 := Lib.hid hW1
  have HN1 := Lib.hid hN1
  have HNE := Lib.hid (fx_ne _ ho)
  rw [← htt] at hlen HNE ⊢
  clear hT0 hT1 hH hW1 hN1 hT hs
  have hc5 := cellsNode
  go_enter Tryd.func10, Tryd.ntmps10
  go_wp2_with fail
  refine HH.out.mono ?_
  rintro e w2 ⟨rfl, hb2⟩
  have hC := form_any ⟨op, name, n, pos, a, cap, kids⟩ ho w.heap.size (w.heap.size + 1) [] w2 (HT1.out.next (hb2.mono (by simp; omega))) (HW1.out.below hb2) (by rw [← htt]; simp; omega)
  rw [← htt, Nd.val_def] at hC
  have HC := Lib.hid hC
  have HB2 := Lib.hid ((two_boxes w (boxOf op name n pos a kids.len cap) (.cells #[.pointer none, .slice none 0 0] tW)).trans (hb2.mono (by simp; omega)))
  obtain ⟨c0, c1, c2, c3, c4⟩ := box_cells (box_kept (b := w.heap.size + 1) HN1.out (by omega) (kept_below hb2))
  clear hb2 HH HT1 HW1 HN1 hC
  go_wp2_with fail
  refine HC.out.mono ?_
  rintro e w3 ⟨rfl, hW3, hb3, _⟩
  have HS := Lib.hid (wstr_any w.heap.size (w.heap.size + 1) _ w3 hW3 (by simpa using HNE.out))
  have HB3 := Lib.hid (HB2.out.trans hb3)
  clear hW3 hb3 HC HB2 c0 c1 c2 c3 c4
  go_wp2_with fail
  refine HS.out.mono ?_
  rintro e w4 ⟨rfl, hb4⟩
  have HB4 := HB3.out.trans hb4
  clear hb4 HS HB3
  go_wp2_with fail
  go_ret
  exact ⟨by rw [htt]; rfl, HB4⟩
set_option maxRecDepth 100000 in
set_option maxHeartbeats 4000000 in
theorem showT (T : Nd) (w : World) (hT : T.In w) (ho : T.okT = true) (hs : T.size ≤ 2000) : Calls Tryd.prog 12 #[T.val] w fun e w' => e = .returned (.string ⟨T.tx.toArray⟩) ∧ Below w.heap.size w w' := by
  have hlen : T.tx.length ≤ 4200000 := by have := len_T T ho; omega
  obtain ⟨op, name, n, pos, a, cap, kids⟩ := T
  obtain ⟨tt, htt⟩ : ∃ tt, tt = (Nd.mk op name n pos a cap kids).tx := ⟨_, rfl⟩
  have hT0 : TIn w.heap.size ⟨op, name, n, pos, a, cap, kids⟩ (w.alloc (boxOf op name n pos a kids.len cap)) := ⟨w, rfl, hT, below_box _ _⟩
  have hT1 := hT0.alloc (.cells #[.pointer none, .slice none 0 0] tW)
  have hH := hasEnd_any ⟨op, name, n, pos, a, cap, kids⟩ _ hT1.now hs
  have hW1 : WB w.heap.size (w.heap.size + 1) [] ((w.alloc (boxOf op name n pos a kids.len cap)).alloc (.cells #[.pointer none, .slice none 0 0] tW)) := by
    have := wb_new (w.alloc (boxOf op name n pos a kids.len cap))
    rw [alloc_size] at this
    rcases this with h | h
    · exact .inl (bat_mono h (by omega))
    · exact .inr (bat_mono h (by omega))
  have hN1 : ((w.alloc (boxOf op name n pos a kids.len cap)).alloc (.cells #[.pointer none, .slice none 0 0] tW)).heap[w.heap.size]? = some (boxOf op name n pos a kids.len cap) := box_alloc (new_at _ _) _
  rw [Nd.val_def] at hH ⊢
  have HH := Lib.hid hH
  have HT1 := Lib.hid hT1
  have HW1 := Lib.hid hW1
  have HN1 := Lib.hid hN1
  have HNE := Lib.hid (tx_ne _ ho)
  rw [← htt] at hlen HNE ⊢
  clear hT0 hT1 hH hW1 hN1 hT hs
  have hc5 := cellsNode
  go_enter Tryd.func12, Tryd.ntmps12
  go_wp2_with fail
  refine HH.out.mono ?_
  rintro e w2 ⟨rfl, hb2⟩
  have hC := term_any ⟨op, name, n, pos, a, cap, kids⟩ ho w.heap.size (w.heap.size + 1) [] w2 (HT1.out.next (hb2.mono (by simp; omega))) (HW1.out.below hb2) (by rw [← htt]; simp; omega)
  rw [← htt, Nd.val_def] at hC
  have HC := Lib.hid hC
  have HB2 := Lib.hid ((two_boxes w (boxOf op name n pos a kids.len cap) (.cells #[.pointer none, .slice none 0 0] tW)).trans (hb2.mono (by simp; omega)))
  obtain ⟨c0, c1, c2, c3, c4⟩ := box_cells (box_kept (b := w.heap.size + 1) HN1.out (by omega) (kept_below hb2))
  clear hb2 HH HT1 HW1 HN1 hC
  go_wp2_with fail
  refine HC.out.mono ?_
  rintro e w3 ⟨rfl, hW3, hb3, _⟩
  have HS := Lib.hid (wstr_any w.heap.size (w.heap.size + 1) _ w3 hW3 (by simpa using HNE.out))
  have HB3 := Lib.hid (HB2.out.trans hb3)
  clear hW3 hb3 HC HB2 c0 c1 c2 c3 c4
  go_wp2_with fail
  refine HS.out.mono ?_
  rintro e w4 ⟨rfl, hb4⟩
  have HB4 := HB3.out.trans hb4
  clear hb4 HS HB3
  go_wp2_with fail
  go_ret
  exact ⟨by rw [htt]; rfl, HB4⟩
end Go.Proofs.YtamihfgkpilfiaaDoor
