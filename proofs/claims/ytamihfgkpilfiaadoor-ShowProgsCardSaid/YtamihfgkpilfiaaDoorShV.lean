/- The writer of package show: every term is written as its text. -/
import Derived.Test.YtamihfgkpilfiaaDoorShU
import Derived.Test.YtamihfgkpilfiaaDoorLexA
import Derived.Test.YtamihfgkpilfiaaDoorRows
import Derived.WalkKit
import Derived.WalkLawsBesides
import Derived.WalkSpells
import Derived.ProofKit
import Derived.Outline
import Derived.Deep.QuietTactic
import Derived.BigQuiet
import Derived.Deep.Light
import Derived.Deep.CutBlock
import Derived.Deep.DeepCutAuto
import Derived.Deep.DeepFit
import Derived.Deep.LoopGhost
import Derived.Lib.Hide
import Derived.Lib.OthersKept
import Derived.IntWalk
import Derived.StillTailTactics
namespace Go.Proofs.YtamihfgkpilfiaaDoor
open Go.RowKit
theorem put1_box (B b : Nat) (l : L8) (x : ByteArray) (w : World) (o : Obj) (h : WB B b l (w.alloc o)) (hlen : l.length + x.data.toList.length ≤ 140737488351232) :
    Calls Tryd.prog 33 #[wAt b, .slice (some ⟨w.heap.size + 1, 0, none⟩) 1 1] ((w.alloc o).alloc (.cells #[.string x] 9)) (WPost B b (l ++ x.data.toList) (w.alloc o)) := by
  have := put1 B b l x (w.alloc o) h hlen
  rw [alloc_size] at this
  exact this
theorem itoa_any (n : Int) (w : World) (h0 : 0 ≤ n) (h1 : n ≤ 99) : Calls Tryd.prog 55 #[.int .i64 n] w fun e w' => e = .returned (.string ⟨(dgs n).toArray⟩) ∧ w' = w := by
  obtain ⟨k, rfl⟩ := Int.eq_ofNat_of_zero_le h0
  exact Tryd.strconv_Itoa_small k (by omega) w
set_option maxRecDepth 100000 in
set_option maxHeartbeats 4000000 in
theorem term_var (name : ByteArray) (pos : Int) (a : Option Addr) (cap B b : Nat) (l : L8) (w : World) (h : WB B b l w) (hlen : l.length + name.data.toList.length ≤ 140737488351232) :
    Calls Tryd.prog 30 #[wAt b, .agg #[.string ⟨#[118, 97, 114]⟩, .string name, .int .i64 0, .int .i64 pos, .slice a 0 cap]] w (WPost B b (l ++ name.data.toList) w) := by
  have hBw : B ≤ w.heap.size := by have := h.lt; omega
  have HP := Lib.hid (put1_box B b l name w _ (h.alloc (boxOf ⟨#[118, 97, 114]⟩ name 0 pos a 0 cap)) hlen)
  clear h hlen
  have hc5 := cellsNode
  go_enter Tryd.func30, Tryd.ntmps30
  go_wp2_with fail
  refine HP.out.mono ?_
  rintro e w2 hp
  have HZ := Lib.hid (WPost.box hp hBw)
  obtain ⟨rfl, _⟩ := hp
  clear HP
  go_wp2_with fail
  go_end0
  exact HZ.out
set_option maxRecDepth 100000 in
set_option maxHeartbeats 4000000 in
theorem term_num (n pos : Int) (a : Option Addr) (cap B b : Nat) (l : L8) (w : World) (h : WB B b l w) (h0 : 0 ≤ n) (h1 : n ≤ 99) (hlen : l.length + (dgs n).length ≤ 140737488351232) :
    Calls Tryd.prog 30 #[wAt b, .agg #[.string ⟨#[110, 117, 109]⟩, .string ⟨#[]⟩, .int .i64 n, .int .i64 pos, .slice a 0 cap]] w (WPost B b (l ++ dgs n) w) := by
  have hBw : B ≤ w.heap.size := by have := h.lt; omega
  have HP := Lib.hid (put1_box B b l ⟨(dgs n).toArray⟩ w _ (h.alloc (boxOf ⟨#[110, 117, 109]⟩ ⟨#[]⟩ n pos a 0 cap)) hlen)
  have HI := Lib.hid (itoa_any n (w.alloc (boxOf ⟨#[110, 117, 109]⟩ ⟨#[]⟩ n pos a 0 cap)) h0 h1)
  clear h hlen
  have hc5 := cellsNode
  go_enter Tryd.func30, Tryd.ntmps30
  go_wp2_with fail
  refine HI.out.mono ?_
  rintro e w2 ⟨rfl, rfl⟩
  clear HI
  go_wp2_with fail
  refine HP.out.mono ?_
  rintro e w2 hp
  have HZ := Lib.hid (WPost.box hp hBw)
  obtain ⟨rfl, _⟩ := hp
  clear HP
  go_wp2_with fail
  go_end0
  exact HZ.out
set_option maxRecDepth 100000 in
set_option maxHeartbeats 4000000 in
theorem term_plus (n pos : Int) (a : Option Addr) (cap : Nat) (x : Nd) (B b : Nat) (l t : L8) (w : World) (hT : TIn B ⟨⟨#[112, 108, 117, 115]⟩, ⟨#[]⟩, n, pos, a, cap, .cons x.op x.name x.n x.pos x.a x.cap x.kids .nil⟩ w) (h : WB B b l w) (hx : TmC x) (kx : x.okT = true) (h0 : 0 ≤ n) (h1 : n ≤ 99) (ht : t = x.tx ++ ([32, 43, 32] ++ dgs n)) (hlen : l.length + t.length ≤ 140737488351232) :
    Calls Tryd.prog 30 #[wAt b, .agg #[.string ⟨#[112, 108, 117, 115]⟩, .string ⟨#[]⟩, .int .i64 n, .int .i64 pos, .slice a 1 cap]] w (WPost B b (l ++ t) w) := by
  have hBw := hT.size
  have hbw := h.lt
  have hL1 : l.length + x.tx.length ≤ 140737488351232 := by rw [ht] at hlen; simp only [List.length_append] at hlen; omega
  have hL2 : (l ++ x.tx).length + ([32, 43, 32] ++ dgs n).length ≤ 140737488351232 := by rw [ht] at hlen; simp only [List.length_append] at hlen ⊢; omega
  have HE := Lib.hid (show l ++ x.tx ++ ([32, 43, 32] ++ dgs n) = l ++ t by rw [ht]; simp only [List.append_assoc])
  have HT1 := hT.alloc (boxOf ⟨#[112, 108, 117, 115]⟩ ⟨#[]⟩ n pos a 1 cap)
  have HK0 : Calls Tryd.prog 53 #[.agg #[.string ⟨#[112, 108, 117, 115]⟩, .string ⟨#[]⟩, .int .i64 n, .int .i64 pos, .slice a 1 cap], .int .i64 0] (w.alloc (boxOf ⟨#[112, 108, 117, 115]⟩ ⟨#[]⟩ n pos a 1 cap)) fun e w' => e = .returned x.val ∧ Below (w.alloc (boxOf ⟨#[112, 108, 117, 115]⟩ ⟨#[]⟩ n pos a 1 cap)).heap.size (w.alloc (boxOf ⟨#[112, 108, 117, 115]⟩ ⟨#[]⟩ n pos a 1 cap)) w' := kid_any ⟨⟨#[112, 108, 117, 115]⟩, ⟨#[]⟩, n, pos, a, cap, .cons x.op x.name x.n x.pos x.a x.cap x.kids .nil⟩ x 0 _ HT1.now rfl
  have HN1 := Lib.hid (new_at w (boxOf ⟨#[112, 108, 117, 115]⟩ ⟨#[]⟩ n pos a 1 cap))
  have HL1 := Lib.hid hL1
  have HL2 := Lib.hid hL2
  have HH1 := Lib.hid HT1
  have HWW := Lib.hid (h.alloc (boxOf ⟨#[112, 108, 117, 115]⟩ ⟨#[]⟩ n pos a 1 cap))
  have HKK := Lib.hid HK0
  clear HT1 HK0 hL1 hL2 ht hlen hT h
  have hc5 := cellsNode
  go_enter Tryd.func30, Tryd.ntmps30
  go_wp2_with fail
  refine HKK.out.mono ?_
  rintro e w2 ⟨rfl, hb2⟩
  have hT2 := HH1.out.next (hb2.mono (by simp; omega))
  have hW2 := HWW.out.below hb2
  have HB2 := Lib.hid (((below_box w (boxOf ⟨#[112, 108, 117, 115]⟩ ⟨#[]⟩ n pos a 1 cap)).mono hBw).trans (hb2.mono (by simp; omega)))
  have HKP2 := Lib.hid ((kept_below (b := b) (below_box w (boxOf ⟨#[112, 108, 117, 115]⟩ ⟨#[]⟩ n pos a 1 cap))).trans (kept_below hb2))
  have HN2 := Lib.hid (box_kept HN1.out (by omega) (kept_below (b := b) hb2))
  have HC1 := Lib.hid (hx kx B b l w2 (hT2.kid (i := 0) rfl) hW2 HL1.out)
  clear hb2 hT2 hW2 HKK HH1 HWW HN1 hx
  go_wp2_with fail
  refine HC1.out.mono ?_
  rintro e w3 ⟨rfl, hW3, hb3, hk3⟩
  obtain ⟨c0, c1, c2, c3, c4⟩ := box_cells (box_kept HN2.out (by omega) hk3)
  have HB3 := Lib.hid (HB2.out.trans hb3)
  have HKP3 := Lib.hid (HKP2.out.trans hk3)
  have HP := Lib.hid (put2 B b (l ++ x.tx) ⟨#[32, 43, 32]⟩ ⟨(dgs n).toArray⟩ w3 hW3 HL2.out)
  have HI := Lib.hid (itoa_any n w3 h0 h1)
  clear hb3 hk3 hW3 HC1 HN2 HB2 HKP2
  go_wp2_with fail
  refine HI.out.mono ?_
  rintro e w3' ⟨rfl, rfl⟩
  clear HI
  go_wp2_with fail
  refine HP.out.mono ?_
  rintro e w4 ⟨rfl, hW4, hb4, hk4⟩
  have hW4' : WB B b (l ++ t) w4 := by rw [← HE.out]; exact hW4
  have HZ := Lib.hid (show WPost B b (l ++ t) w (.returned (.tuple #[])) w4 from ⟨rfl, hW4', HB3.out.trans hb4, HKP3.out.trans hk4⟩)
  clear HP hW4 hW4' hb4 hk4 HB3 HKP3 c0 c1 c2 c3 c4
  go_wp2_with fail
  go_end0
  exact HZ.out
set_option maxRecDepth 100000 in
set_option maxHeartbeats 4000000 in
theorem term_set (pos : Int) (a : Option Addr) (cap : Nat) (kids : Fo) (B b : Nat) (l t : L8) (w : World) (hT : TIn B ⟨⟨#[115, 101, 116]⟩, ⟨#[]⟩, 0, pos, a, cap, kids⟩ w) (h : WB B b l w) (hk : Fo.All TmC kids) (ho : kids.allB Nd.okT = true) (ht : t = [123] ++ rowT true kids.tx ++ [125]) (hlen : l.length + t.length ≤ 140737488351232) :
    Calls Tryd.prog 30 #[wAt b, .agg #[.string ⟨#[115, 101, 116]⟩, .string ⟨#[]⟩, .int .i64 0, .int .i64 pos, .slice a kids.len cap]] w (WPost B b (l ++ t) w) := by
  have hBw := hT.size
  have hbw := h.lt
  obtain ⟨r, hr⟩ : ∃ r, r = rowT true kids.tx := ⟨_, rfl⟩
  rw [← hr] at ht
  have hL1 : l.length + ([123] : L8).length ≤ 140737488351232 := by rw [ht] at hlen; simp only [List.length_append] at hlen; omega
  have hL2 : (l ++ [123]).length + r.length ≤ 140737488351232 := by rw [ht] at hlen; simp only [List.length_append] at hlen ⊢; omega
  have hL3 : (l ++ [123] ++ r).length + ([125] : L8).length ≤ 140737488351232 := by rw [ht] at hlen; simp only [List.length_append] at hlen ⊢; omega
  have HE := Lib.hid (show l ++ [123] ++ r ++ [125] = l ++ t by rw [ht]; simp only [List.append_assoc])
  have HP1 := Lib.hid (put1_box B b l ⟨#[123]⟩ w _ (h.alloc (boxOf ⟨#[115, 101, 116]⟩ ⟨#[]⟩ 0 pos a kids.len cap)) hL1)
  have HT1 := Lib.hid (hT.alloc (boxOf ⟨#[115, 101, 116]⟩ ⟨#[]⟩ 0 pos a kids.len cap))
  have HN1 := Lib.hid (new_at w (boxOf ⟨#[115, 101, 116]⟩ ⟨#[]⟩ 0 pos a kids.len cap))
  have HL2 := Lib.hid hL2
  have HL3 := Lib.hid hL3
  have HK := Lib.hid hk
  have HR := Lib.hid hr
  have HO := Lib.hid ho
  clear hT h hL1 hL2 hL3 ht hlen hk hr ho
  have hc5 := cellsNode
  go_enter Tryd.func30, Tryd.ntmps30
  go_wp2_with fail
  refine HP1.out.mono ?_
  rintro e w2 hp
  obtain ⟨rfl, hW2, hb2, hk2⟩ := hp
  have HN2 := Lib.hid (box_kept HN1.out (by omega) hk2)
  obtain ⟨c0, c1, c2, c3, c4⟩ := box_cells HN2.out
  have HB2 := Lib.hid (((below_box w (boxOf ⟨#[115, 101, 116]⟩ ⟨#[]⟩ 0 pos a kids.len cap)).mono hBw).trans hb2)
  have HKP2 := Lib.hid ((kept_below (b := b) (below_box w (boxOf ⟨#[115, 101, 116]⟩ ⟨#[]⟩ 0 pos a kids.len cap))).trans hk2)
  have HC := Lib.hid (wterms_any ⟨⟨#[115, 101, 116]⟩, ⟨#[]⟩, 0, pos, a, cap, kids⟩ HK.out HO.out B b _ r w2 (HT1.out.next hb2) hW2 HR.out HL2.out)
  clear hb2 hk2 hW2 HP1 HT1 HN1 HN2
  go_wp2_with fail
  refine HC.out.mono ?_
  rintro e w3 ⟨rfl, hW3, hb3, hk3⟩
  have HP3 := Lib.hid (put1 B b _ ⟨#[125]⟩ w3 hW3 HL3.out)
  have HB3 := Lib.hid (HB2.out.trans hb3)
  have HKP3 := Lib.hid (HKP2.out.trans hk3)
  clear hb3 hk3 hW3 HC HB2 HKP2 c0 c1 c2 c3 c4
  go_wp2_with fail
  refine HP3.out.mono ?_
  rintro e w4 ⟨rfl, hW4, hb4, hk4⟩
  have hW4' : WB B b (l ++ t) w4 := by rw [← HE.out]; exact hW4
  have HZ := Lib.hid (show WPost B b (l ++ t) w (.returned (.tuple #[])) w4 from ⟨rfl, hW4', HB3.out.trans hb4, HKP3.out.trans hk4⟩)
  clear HP3 hW4 hW4' hb4 hk4 HB3 HKP3
  go_wp2_with fail
  go_end0
  exact HZ.out
set_option maxRecDepth 100000 in
set_option maxHeartbeats 4000000 in
theorem term_union (pos : Int) (a : Option Addr) (cap : Nat) (x y : Nd) (B b : Nat) (l t : L8) (w : World) (hT : TIn B (twoN ⟨#[117, 110, 105, 111, 110]⟩ pos a cap x y) w) (h : WB B b l w) (hx : TmC x) (hy : TmC y) (kx : x.okT = true) (ky : y.okT = true) (ht : t = x.tx ++ ([32] ++ opSign ⟨#[117, 110, 105, 111, 110]⟩ ++ [32]) ++ y.tx) (hlen : l.length + t.length ≤ 140737488351232) :
    Calls Tryd.prog 30 #[wAt b, .agg #[.string ⟨#[117, 110, 105, 111, 110]⟩, .string ⟨#[]⟩, .int .i64 0, .int .i64 pos, .slice a 2 cap]] w (WPost B b (l ++ t) w) := by
  have hBw := hT.size
  have HC := Lib.hid (two_t ⟨#[117, 110, 105, 111, 110]⟩ pos a cap x y (.inl (by simp [isJoin, Lib.toList_data])) hx hy kx ky B b l t _ (hT.alloc (boxOf ⟨#[117, 110, 105, 111, 110]⟩ ⟨#[]⟩ 0 pos a 2 cap)) (h.alloc (boxOf ⟨#[117, 110, 105, 111, 110]⟩ ⟨#[]⟩ 0 pos a 2 cap)) ht hlen)
  clear hT h hx hy ht hlen
  have hc5 := cellsNode
  go_enter Tryd.func30, Tryd.ntmps30
  go_wp2_with fail
  refine HC.out.mono ?_
  rintro e w2 hp
  have HZ := Lib.hid (WPost.box hp hBw)
  obtain ⟨rfl, _⟩ := hp
  clear HC
  go_wp2_with fail
  go_end0
  exact HZ.out
set_option maxRecDepth 100000 in
set_option maxHeartbeats 4000000 in
theorem term_inter (pos : Int) (a : Option Addr) (cap : Nat) (x y : Nd) (B b : Nat) (l t : L8) (w : World) (hT : TIn B (twoN ⟨#[105, 110, 116, 101, 114]⟩ pos a cap x y) w) (h : WB B b l w) (hx : TmC x) (hy : TmC y) (kx : x.okT = true) (ky : y.okT = true) (ht : t = x.tx ++ ([32] ++ opSign ⟨#[105, 110, 116, 101, 114]⟩ ++ [32]) ++ y.tx) (hlen : l.length + t.length ≤ 140737488351232) :
    Calls Tryd.prog 30 #[wAt b, .agg #[.string ⟨#[105, 110, 116, 101, 114]⟩, .string ⟨#[]⟩, .int .i64 0, .int .i64 pos, .slice a 2 cap]] w (WPost B b (l ++ t) w) := by
  have hBw := hT.size
  have HC := Lib.hid (two_t ⟨#[105, 110, 116, 101, 114]⟩ pos a cap x y (.inl (by simp [isJoin, Lib.toList_data])) hx hy kx ky B b l t _ (hT.alloc (boxOf ⟨#[105, 110, 116, 101, 114]⟩ ⟨#[]⟩ 0 pos a 2 cap)) (h.alloc (boxOf ⟨#[105, 110, 116, 101, 114]⟩ ⟨#[]⟩ 0 pos a 2 cap)) ht hlen)
  clear hT h hx hy ht hlen
  have hc5 := cellsNode
  go_enter Tryd.func30, Tryd.ntmps30
  go_wp2_with fail
  refine HC.out.mono ?_
  rintro e w2 hp
  have HZ := Lib.hid (WPost.box hp hBw)
  obtain ⟨rfl, _⟩ := hp
  clear HC
  go_wp2_with fail
  go_end0
  exact HZ.out
set_option maxRecDepth 100000 in
set_option maxHeartbeats 4000000 in
theorem term_minus (pos : Int) (a : Option Addr) (cap : Nat) (x y : Nd) (B b : Nat) (l t : L8) (w : World) (hT : TIn B (twoN ⟨#[109, 105, 110, 117, 115]⟩ pos a cap x y) w) (h : WB B b l w) (hx : TmC x) (hy : TmC y) (kx : x.okT = true) (ky : y.okT = true) (ht : t = x.tx ++ ([32] ++ opSign ⟨#[109, 105, 110, 117, 115]⟩ ++ [32]) ++ y.tx) (hlen : l.length + t.length ≤ 140737488351232) :
    Calls Tryd.prog 30 #[wAt b, .agg #[.string ⟨#[109, 105, 110, 117, 115]⟩, .string ⟨#[]⟩, .int .i64 0, .int .i64 pos, .slice a 2 cap]] w (WPost B b (l ++ t) w) := by
  have hBw := hT.size
  have HC := Lib.hid (two_t ⟨#[109, 105, 110, 117, 115]⟩ pos a cap x y (.inl (by simp [isJoin, Lib.toList_data])) hx hy kx ky B b l t _ (hT.alloc (boxOf ⟨#[109, 105, 110, 117, 115]⟩ ⟨#[]⟩ 0 pos a 2 cap)) (h.alloc (boxOf ⟨#[109, 105, 110, 117, 115]⟩ ⟨#[]⟩ 0 pos a 2 cap)) ht hlen)
  clear hT h hx hy ht hlen
  have hc5 := cellsNode
  go_enter Tryd.func30, Tryd.ntmps30
  go_wp2_with fail
  refine HC.out.mono ?_
  rintro e w2 hp
  have HZ := Lib.hid (WPost.box hp hBw)
  obtain ⟨rfl, _⟩ := hp
  clear HC
  go_wp2_with fail
  go_end0
  exact HZ.out
theorem term_any (T : Nd) : TmC T := by
  refine Nd.all_of (P := TmC) ?_ T
  intro T hk ho B b l w hT h hlen
  cases okT_view T ho with
  | var name pos a cap hn =>
    have e : (Nd.mk ⟨#[118, 97, 114]⟩ name 0 pos a cap .nil).tx = name.data.toList := tx_var _ _ _
    rw [e] at hlen ⊢
    exact term_var name pos a cap B b l w h hlen
  | num n pos a cap h0 h1 =>
    have e : (Nd.mk ⟨#[110, 117, 109]⟩ ⟨#[]⟩ n pos a cap .nil).tx = dgs n := tx_num _ _ _
    rw [e] at hlen ⊢
    exact term_num n pos a cap B b l w h h0 h1 hlen
  | plus n pos a cap name pos' a' cap' h0 h1 hn =>
    refine term_plus n pos a cap ⟨⟨#[118, 97, 114]⟩, name, 0, pos', a', cap', .nil⟩ B b l _ w hT h hk.1 ?_ (by omega) h1 (tx_plus _ _ _) hlen
    unfold Nd.okT stepT fitB
    simp [Lib.toList_data, hn, Fo.len]
  | set pos a cap kids hl hkn =>
    exact term_set pos a cap kids B b l _ w hT h hk (okN_T hkn) (tx_set _ _ _) hlen
  | join op pos a cap x y hj hx hy hz =>
    have hk1 : TmC x := hk.1
    have hk2 : TmC y := hk.2.1
    have hj2 := hj
    unfold isJoin at hj2
    simp only [Bool.or_eq_true, beq_iff_eq] at hj2
    rcases hj2 with (hj2 | hj2) | hj2
    · obtain rfl := ba_of (show (op.toList == [117, 110, 105, 111, 110]) = true by simp [hj2])
      exact term_union pos a cap x y B b l _ w hT h hk1 hk2 hx hy (tx_join hj _ _ _) hlen
    · obtain rfl := ba_of (show (op.toList == [105, 110, 116, 101, 114]) = true by simp [hj2])
      exact term_inter pos a cap x y B b l _ w hT h hk1 hk2 hx hy (tx_join hj _ _ _) hlen
    · obtain rfl := ba_of (show (op.toList == [109, 105, 110, 117, 115]) = true by simp [hj2])
      exact term_minus pos a cap x y B b l _ w hT h hk1 hk2 hx hy (tx_join hj _ _ _) hlen

end Go.Proofs.YtamihfgkpilfiaaDoor
