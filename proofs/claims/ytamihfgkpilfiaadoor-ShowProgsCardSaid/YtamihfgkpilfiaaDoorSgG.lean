/- The walk of ShowProgs. -/
import Derived.Test.YtamihfgkpilfiaaDoorSgF
import Derived.Test.YtamihfgkpilfiaaDoorSfB
import Derived.Test.YtamihfgkpilfiaaDoorLexA
import Derived.Test.YtamihfgkpilfiaaDoorRows
import Derived.WalkKit
import Derived.WalkLawsBesides
import Derived.WalkSpells
import Derived.ProofKit
import Derived.Outline
import Derived.Deep.QuietTactic
import Derived.BigQuiet
import Derived.Deep.Light
import Derived.Deep.CutBlock
import Derived.Deep.DeepCutAuto
import Derived.Deep.DeepFit
import Derived.Deep.LoopGhost
import Derived.Lib.Hide
import Derived.Lib.OthersKept
import Derived.IntWalk
import Derived.StillTailTactics
import Derived.Deep.RegionHeld3
namespace Go.Proofs.YtamihfgkpilfiaaDoor
open Go.RowKit
/-! What a law looks at. -/
def FineS (ds : List Dc) (ps : List Pd) (T : Nd) : Prop := ds.all Dc.ok = true ∧ ps.all Pd.okS = true ∧ T.okF = true ∧ T.size ≤ 2000 ∧ ds.length ≤ 100 ∧ ps.length ≤ 100
def FineQ (qs : Prop) (w : World) (e : Ending) (w' : World) : Prop := ∃ fb : Bool, e = .returned (.bool fb) ∧ (fb = true → qs) ∧ Below w.heap.size w w'
theorem FineQ.no {qs : Prop} {w w' : World} {e : Ending} (he : e = .returned (.bool false)) (hb : Below w.heap.size w w') : FineQ qs w e w' := ⟨false, he, (fun h => by cases h), hb⟩
theorem FineQ.is {qs : Prop} {w w' : World} {e : Ending} {q : Bool} (he : e = .returned (.bool q)) (hq : q = true → qs) (hb : Below w.heap.size w w') : FineQ qs w e w' := ⟨q, he, hq, hb⟩
set_option maxRecDepth 100000 in
set_option maxHeartbeats 8000000 in
theorem sfine_any (ds : List Dc) (da : Option Addr) (dc : Nat) (ps : List Pd) (pa : Option Addr) (pc : Nat) (T : Nd) (w : World) (hU : UT w) (hd : DcsIn w da ds) (hp : PdsLie w pa ps) (hm : T.In w) (hms : T.sized) :
    Calls Tryd.prog 15 #[.agg #[.slice da ds.length dc, .slice pa ps.length pc, .string T.op, .string T.name, .int .i64 T.n, .int .i64 T.pos, .slice T.a T.kids.len T.cap]] w (FineQ (FineS ds ps T) w) := by
  have HIS := Lib.hid (fun W (hW : Below w.heap.size w W) => ris_all ds da dc ps pa pc T W (Utf8Tabs_below hU hW) (hd.below hW) (pdsLie_below hW hp) (hm.below hW) hms)
  have HSZ := Lib.hid (fun W (hW : Below w.heap.size w W) => rsize_any T W (hm.below hW))
  have HP := Lib.hid hp
  obtain ⟨qs, hqs⟩ : ∃ q, q = FineS ds ps T := ⟨_, rfl⟩
  have HQ : Hid ((ps.all Pd.okS && ds.all Dc.ok && T.okS) = true → ds.length ≤ 100 → ps.length ≤ 100 → qs) := Lib.hid (by
    intro h h1 h2
    rw [hqs]
    simp only [Bool.and_eq_true] at h
    obtain ⟨⟨g1, g2⟩, g3⟩ := h
    unfold Nd.okS at g3
    simp only [Bool.and_eq_true, decide_eq_true_eq] at g3
    exact ⟨g2, g1, g3.2, g3.1.2, h1, h2⟩)
  rw [← hqs]
  obtain ⟨op, name, n, pos, a, cap, kids⟩ := T
  simp only [Nd.val_def] at HIS HSZ
  generalize (ps.all Pd.okS && ds.all Dc.ok && Nd.okS ⟨op, name, n, pos, a, cap, kids⟩) = q at HIS HQ
  generalize (Nd.mk op name n pos a cap kids).size = sz at HSZ
  show Calls _ _ #[.agg (pgCells da ds.length dc pa ps.length pc op name n pos a kids.len cap)] _ _
  have HN1 := Lib.hid (new_at w (boxG da ds.length dc pa ps.length pc op name n pos a kids.len cap))
  have HB1 := Lib.hid (below_box w (boxG da ds.length dc pa ps.length pc op name n pos a kids.len cap))
  clear hU hd hp hm hms hqs
  have hc5 := cellsNode
  have hc8 := cellsPred
  by_cases h20 : (ds.length : Int) ≤ 20
  case neg =>
    go_enter Tryd.func15, Tryd.ntmps15
    go_wp2_with fail
    go_ret
    exact FineQ.no rfl HB1.out
  by_cases h10 : (ps.length : Int) ≤ 10
  case neg =>
    go_enter Tryd.func15, Tryd.ntmps15
    go_wp2_with fail
    go_ret
    exact FineQ.no rfl HB1.out
  have HC := Lib.hid (HSZ.out _ HB1.out)
  have HL1 : Hid (ds.length ≤ 100) := Lib.hid (by omega)
  have HL2 : Hid (ps.length ≤ 100) := Lib.hid (by omega)
  by_cases hz : sz ≤ 150
  case neg =>
    have hzz : (150 : Int) < min (sz : Int) 2001 := by omega
    generalize min (sz : Int) 2001 = zz at HC hzz
    go_enter Tryd.func15, Tryd.ntmps15
    go_wp2_with fail
    refine HC.out.mono ?_
    rintro e w2 ⟨rfl, hb2⟩
    have hB2 := HB1.out.trans (hb2.mono HB1.out.size)
    clear hb2 HC
    go_wp2_with fail
    go_ret
    exact FineQ.no rfl hB2
  have hzz : ¬ (150 : Int) < min (sz : Int) 2001 := by omega
  generalize min (sz : Int) 2001 = zz at HC hzz
  clear hz
  go_enter Tryd.func15, Tryd.ntmps15
  go_wp2_with fail
  refine HC.out.mono ?_
  rintro e w2 ⟨rfl, hb2⟩
  have HN2 := Lib.hid ((hb2.block _ (lt_heap HN1.out)).trans HN1.out)
  have HB2 := Lib.hid (HB1.out.trans (hb2.mono HB1.out.size))
  clear hb2 HC HN1 HB1
  go_wp2_with fail
  go_loopw [3] (fun i wr => ∃ k : Nat, i = .int .i64 k ∧ k ≤ ps.length ∧ Hid (wr.heap[w.heap.size]? = some (boxG da ds.length dc pa ps.length pc op name n pos a kids.len cap)) ∧ Hid (Below w.heap.size w wr)) (fun i _ => ps.length - (intOf i).toNat)
  case atStart => exact ⟨0, rfl, Nat.zero_le _, HN2, HB2⟩
  case round =>
    clear HN2 HB2
    obtain ⟨k, rfl, hk, HN, HB⟩ := hrel
    obtain ⟨b0, b1, b2, b3, b4, b5, b6⟩ := pg_cells HN.out
    by_cases hlt : k < ps.length
    · have hlt2 : (k : Int) < ps.length := by omega
      obtain ⟨p, hp⟩ : ∃ p, ps[k]? = some p := ⟨_, List.getElem?_eq_getElem hlt⟩
      have hpm : p ∈ ps := by obtain ⟨hx, rfl⟩ := List.getElem?_eq_some_iff.1 hp; exact List.getElem_mem _
      obtain ⟨pb, po, hpa2, hplim, hpat⟩ : ∃ b o, pa = some ⟨b, o, none⟩ ∧ ps.length ≤ 140737488351232 ∧ ∀ i p, ps[i]? = some p → PdAt w b (o + i * 8) p := by
        rcases HP.out.1 with h | h
        · exfalso; rw [show ps = [] from h] at hlt; exact absurd hlt (Nat.not_lt_zero _)
        · exact h
      obtain ⟨e0, e1, e2, e3, e4, e5, e6, e7⟩ := (hpat k p hp).below HB.out
      have hcall := rsize_any p.body wr ((HP.out.2 p hpm).body.below HB.out)
      obtain ⟨nm, prs, ppa, ppc, ⟨bop, bname, bn, bpos, ba, bcap, bkids⟩, ppos⟩ := p
      simp only [Nd.val_def] at e0 e1 e2 e3 e4 e5 e6 e7 hcall
      generalize min ((Nd.mk bop bname bn bpos ba bcap bkids).size : Int) 2001 = bz at hcall
      have HC := Lib.hid hcall
      subst hpa2
      clear hpat hp hpm hcall
      by_cases hbz : (100 : Int) < bz
      · go_wp2_with fail
        refine HC.out.mono ?_
        rintro e w3 ⟨rfl, hb3⟩
        have hB3 := HB.out.trans (hb3.mono HB.out.size)
        clear hb3 HC
        go_wp2_with fail
        go_ret
        exact FineQ.no rfl hB3
      · go_wp2_with fail
        refine HC.out.mono ?_
        rintro e w3 ⟨rfl, hb3⟩
        have HN3 := Lib.hid ((hb3.block _ (lt_heap HN.out)).trans HN.out)
        have HB3 := Lib.hid (HB.out.trans (hb3.mono HB.out.size))
        clear hb3 HC HN HB e0 e1 e2 e3 e4 e5 e6 e7 b0 b1 b2 b3 b4 b5 b6
        go_wp2_with fail
        go_roundw
        case rel => exact ⟨k + 1, by go_num, by omega, HN3, HB3⟩
        case measure => (try simp [intOf]); omega
    · obtain rfl : k = ps.length := by omega
      have HC := Lib.hid (HIS.out wr HB.out)
      go_wp2_with fail
      refine HC.out.mono ?_
      rintro e w3 ⟨rfl, hb3⟩
      have hB3 := HB.out.trans (hb3.mono HB.out.size)
      clear hb3 HC b0 b1 b2 b3 b4 b5 b6
      go_wp2_with fail
      go_ret
      exact FineQ.is rfl (fun h => HQ.out h HL1.out HL2.out) hB3
/-! The walk of ShowProgs. -/
/-- A program's box, and all that was there. -/
def InG (w : World) (cs : Array Value) (W : World) : Prop := W.heap[w.heap.size]? = some (.cells cs 33) ∧ Below w.heap.size w W
theorem InG.next {w W W' : World} {cs : Array Value} (h : InG w cs W) (hb : Below W.heap.size W W') : InG w cs W' := ⟨by rw [hb.block _ (lt_heap h.1)]; exact h.1, h.2.trans (hb.mono h.2.size)⟩
theorem InG.drew {w W : World} {cs : Array Value} (h : InG w cs W) : InG w cs W.drew := ⟨h.1, h.2.drew⟩
set_option maxRecDepth 100000 in
set_option maxHeartbeats 8000000 in
theorem showprogs_walk (ds : List Dc) (da : Option Addr) (dc : Nat) (ps : List Pd) (pa : Option Addr) (pc : Nat) (T : Nd) (w : World) (hd : DcsIn w da ds) (hp : PdsLie w pa ps) (hm : T.In w) (hms : T.sized) (hU : UT w) :
    Calls Tryd.prog 4 #[.agg #[.slice da ds.length dc, .slice pa ps.length pc, .string T.op, .string T.name, .int .i64 T.n, .int .i64 T.pos, .slice T.a T.kids.len T.cap]] w fun e w' => e = .returned (.bool true) ∧ Below w.heap.size w w' := by
  have HF := Lib.hid (fun W (hW : Below w.heap.size w W) => sfine_any ds da dc ps pa pc T W (Utf8Tabs_below hU hW) (hd.below hW) (pdsLie_below hW hp) (hm.below hW) hms)
  have HA := Lib.hid (fun W (hW : Below w.heap.size w W) (h : FineS ds ps T) => showP ds da dc ps pa pc T W (hd.below hW) (pdsLie_below hW hp) (hm.below hW) h.1 h.2.1 h.2.2.1 h.2.2.2.1 h.2.2.2.2.1 h.2.2.2.2.2)
  have HB := Lib.hid (fun W (hW : Below w.heap.size w W) (h : FineS ds ps T) => rprogT ds da dc ps pa pc T W (hd.below hW) (pdsLie_below hW hp) (hm.below hW) h.1 h.2.1 h.2.2.1 h.2.2.2.1 h.2.2.2.2.1 h.2.2.2.2.2)
  unfold FineQ at HF
  generalize FineS ds ps T = fs at HF HA HB
  generalize mkS (pgTx ds ps T) = s at HA HB
  obtain ⟨op, name, n, pos, a, cap, kids⟩ := T
  simp only at HF HA HB
  clear hU hd hp hm hms
  have H0 := Lib.hid (show InG w (pgCells da ds.length dc pa ps.length pc op name n pos a kids.len cap) (w.alloc (boxG da ds.length dc pa ps.length pc op name n pos a kids.len cap)) from ⟨new_at _ _, below_box _ _⟩)
  have HC := Lib.hid (HF.out _ H0.out.2)
  show Calls _ _ #[.agg (pgCells da ds.length dc pa ps.length pc op name n pos a kids.len cap)] _ _
  clear HF
  go_enter Tryd.func4, Tryd.ntmps4
  go_wp2_with fail
  refine HC.out.mono ?_
  rintro e w2 ⟨fb, rfl, hfb, hb2⟩
  have H2 := Lib.hid (H0.out.next hb2)
  clear hb2 HC H0
  cases fb with
  | false =>
    have hI := H2.out.2
    clear hfb H2 HA HB
    go_wp2_with fail
    go_ret
    exact ⟨rfl, hI⟩
  | true =>
    have H3 := Lib.hid H2.out.drew
    have HA2 := Lib.hid (HA.out _ H3.out.2 (hfb rfl))
    have HB2 := Lib.hid (fun W h => HB.out W h (hfb rfl))
    obtain ⟨b0, b1, b2, b3, b4, b5, b6⟩ := pg_cells H2.out.1
    have t1 : (s.toList == s.toList) = true := by simp
    clear hfb H2 HA HB
    go_wp2_with fail
    go_region_held3 (fun wz => wz.cell? ⟨w.heap.size, 0, none⟩ = some (.slice da ds.length dc) ∧ wz.cell? ⟨w.heap.size, 1, none⟩ = some (.slice pa ps.length pc) ∧ wz.cell? ⟨w.heap.size, 2, none⟩ = some (.string op) ∧ wz.cell? ⟨w.heap.size, 3, none⟩ = some (.string name) ∧ wz.cell? ⟨w.heap.size, 4, none⟩ = some (.int .i64 n) ∧ wz.cell? ⟨w.heap.size, 5, none⟩ = some (.int .i64 pos) ∧ wz.cell? ⟨w.heap.size, 6, none⟩ = some (.slice a kids.len cap)) (go_keep) (first | (go_at_call 16; refine HA2.out.mono ?_; rintro e w4 ⟨rfl, hb⟩; have H4 := Lib.hid (H3.out.next hb); have HB3 := Lib.hid (HB2.out _ H4.out.2); clear b0 b1 b2 b3 b4 b5 b6; obtain ⟨b0, b1, b2, b3, b4, b5, b6⟩ := pg_cells H4.out.1; clear hb HA2 H3) | (go_at_call 17; refine HB3.out.mono ?_; rintro e w5 ⟨rfl, hb⟩; have H5 := Lib.hid (H4.out.next hb); have HK := Lib.hid (sknown_any w5); clear b0 b1 b2 b3 b4 b5 b6; obtain ⟨b0, b1, b2, b3, b4, b5, b6⟩ := pg_cells H5.out.1; clear hb HB3 H4) | (go_at_call 14; refine HK.out.mono ?_; rintro e w6 ⟨rfl, hb⟩; have H6 := Lib.hid (H5.out.next hb); clear b0 b1 b2 b3 b4 b5 b6; obtain ⟨b0, b1, b2, b3, b4, b5, b6⟩ := pg_cells H6.out.1; clear hb HK H5))
    all_goals (have hI6 := H6.out.2; go_wp2_with fail; go_ret; exact ⟨rfl, hI6⟩)
end Go.Proofs.YtamihfgkpilfiaaDoor
