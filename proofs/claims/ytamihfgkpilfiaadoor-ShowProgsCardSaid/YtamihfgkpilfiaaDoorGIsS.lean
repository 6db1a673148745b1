/- The reference: Is of any program. -/
import Derived.Test.YtamihfgkpilfiaaDoorGIsR
import Derived.Test.YtamihfgkpilfiaaDoorSfA
import Derived.Test.YtamihfgkpilfiaaDoorLexA
import Derived.Test.YtamihfgkpilfiaaDoorRows
import Derived.WalkKit
import Derived.WalkLawsBesides
import Derived.WalkSpells
import Derived.ProofKit
import Derived.Outline
import Derived.Deep.QuietTactic
import Derived.BigQuiet
import Derived.Deep.Light
import Derived.Deep.CutBlock
import Derived.Deep.DeepCutAuto
import Derived.Deep.DeepFit
import Derived.Deep.LoopGhost
import Derived.Lib.Hide
import Derived.Lib.OthersKept
import Derived.IntWalk
import Derived.StillTailTactics
namespace Go.Proofs.YtamihfgkpilfiaaDoor
open Go.RowKit
def Nd.okS (T : Nd) : Bool := (decide (T.deep ≤ 30) && decide (T.size ≤ 2000)) && T.okF
def Pd.okS (p : Pd) : Bool := nameB p.name && decide ((p.params.length : Int) ≤ 6) && p.params.all Dc.ok && p.body.okS
/-! sibylref3.Is. -/
set_option maxRecDepth 100000 in
set_option maxHeartbeats 16000000 in
theorem ris_all (ds : List Dc) (da : Option Addr) (dc : Nat) (ps : List Pd) (pa : Option Addr) (pc : Nat) (T : Nd) (w : World) (hT : UT w) (hd : DcsIn w da ds) (hp : PdsLie w pa ps) (hm : T.In w) (hms : T.sized) :
    Calls Tryd.prog 31 #[.agg #[.slice da ds.length dc, .slice pa ps.length pc, .string T.op, .string T.name, .int .i64 T.n, .int .i64 T.pos, .slice T.a T.kids.len T.cap]] w fun e w' => e = .returned (.bool (ps.all Pd.okS && ds.all Dc.ok && T.okS)) ∧ Below w.heap.size w w' := by
  have hc5 := cellsNode
  have hc8 := cellsPred
  have HT := Lib.hid hT
  have HDS := Lib.hid hd
  have HPS := Lib.hid hp.2
  have HM := Lib.hid (fun W (hb : Below w.heap.size w W) => rIsF_any T W (Utf8Tabs_below hT hb) (hm.below hb) hms)
  obtain ⟨op, name, n, pos, a, cap, kids⟩ := T
  generalize hqq : (Nd.mk op name n pos a cap kids).okS = q
  have HM := Lib.hid (fun W hb => by have := HM.out W hb; rw [show ((decide ((Nd.mk op name n pos a cap kids).deep ≤ 30) && decide ((Nd.mk op name n pos a cap kids).size ≤ 2000)) && (Nd.mk op name n pos a cap kids).okF) = q from hqq] at this; exact this)
  clear hqq
  have HB := Lib.hid (new_at w (.cells (pgCells da ds.length dc pa ps.length pc op name n pos a kids.len cap) 33))
  have HPI := Lib.hid hp.1
  clear hT hd hp hm hms
  show Calls _ _ #[.agg #[.slice da ds.length dc, .slice pa ps.length pc, .string op, .string name, .int .i64 n, .int .i64 pos, .slice a kids.len cap]] w _
  go_enter Tryd.func31, Tryd.ntmps31
  go_wp2_with fail
  go_loopw [3] (fun i wr => ∃ k : Nat, i = .int .i64 k ∧ k ≤ ps.length ∧ RowKit.Hid (ps.all Pd.okS = (ps.drop k).all Pd.okS) ∧ RowKit.Hid (wr.heap[w.heap.size]? = some (.cells (pgCells da ds.length dc pa ps.length pc op name n pos a kids.len cap) 33)) ∧ Below w.heap.size w wr) (fun i _ => ps.length - (intOf i).toNat)
  case atStart => exact ⟨0, rfl, by omega, Lib.hid rfl, HB, below_box _ _⟩
  case round =>
    obtain ⟨k, rfl, hk, HL, HX, hbx⟩ := hrel
    obtain ⟨b0, b1, b2, b3, b4, b5, b6⟩ := pg_cells HX.out
    by_cases hkl : k < ps.length
    · have hkl2 : (k : Int) < ps.length := by omega
      have hg := List.getElem?_eq_getElem hkl
      obtain ⟨pb, po, hpa, hplim, hpat⟩ : ∃ b o, pa = some ⟨b, o, none⟩ ∧ ps.length ≤ 140737488351232 ∧ ∀ i p, ps[i]? = some p → PdAt w b (o + i * 8) p := by
        rcases HPI.out with h | h
        · rw [h] at hkl; exact absurd hkl (Nat.not_lt_zero _)
        · exact h
      subst hpa
      obtain ⟨c0, c1, c2, c3, c4, c5, c6, c7⟩ := (hpat k (ps[k]'hkl) hg).below hbx
      have HF := Lib.hid (HPS.out (ps[k]'hkl) (List.getElem_mem _))
      have HD : RowKit.Hid (ps.drop k = (ps[k]'hkl) :: ps.drop (k + 1)) := Lib.hid (List.drop_eq_getElem_cons hkl)
      clear hg hpat
      generalize (ps[k]'hkl) = p at c0 c1 c2 c3 c4 c5 c6 c7 HF HD
      obtain ⟨nm, prs, ppa, ppc, ⟨bop, bname, bn, bpos, ba, bcap, bkids⟩, ppos⟩ := p
      simp only [] at c0 c1 c2 c3 c4 c5 c6 c7
      have HS1 := Lib.hid (new_at wr (.cells (pdCells nm ppa prs.length ppc bop bname bn bpos ba bkids.len bcap ppos) 53))
      have HC := Lib.hid (isName_any nm (wr.alloc (.cells (pdCells nm ppa prs.length ppc bop bname bn bpos ba bkids.len bcap ppos) 53)) HF.out.name (Utf8Tabs_below HT.out (hbx.alloc hbx.size _)))
      have HP : RowKit.Hid (ps.all Pd.okS = ((nameB nm && decide ((prs.length : Int) ≤ 6) && prs.all Dc.ok && (Nd.mk bop bname bn bpos ba bcap bkids).okS) && (ps.drop (k + 1)).all Pd.okS)) := Lib.hid (by rw [HL.out, HD.out, List.all_cons]; rfl)
      have HBF := Lib.hid (fun W (hb : Below w.heap.size w W) => rIsF_any ⟨bop, bname, bn, bpos, ba, bcap, bkids⟩ W (Utf8Tabs_below HT.out hb) (HF.out.body.below hb) HF.out.sized)
      obtain ⟨bq, hbq⟩ : ∃ bq, bq = (Nd.mk bop bname bn bpos ba bcap bkids).okS := ⟨_, rfl⟩
      rw [← hbq] at HP
      have HBF := Lib.hid (fun W hb => by have := HBF.out W hb; rw [show ((decide ((Nd.mk bop bname bn bpos ba bcap bkids).deep ≤ 30) && decide ((Nd.mk bop bname bn bpos ba bcap bkids).size ≤ 2000)) && (Nd.mk bop bname bn bpos ba bcap bkids).okF) = bq from hbq.symm] at this; exact this)
      clear hbq
      go_wp2_with fail
      refine HC.out.mono ?_
      rintro e w2 ⟨rfl, hb2⟩
      have hbx2 := hbx.trans ((box_then hb2).mono hbx.size)
      have HS2 := Lib.hid ((hb2.block _ (lt_heap HS1.out)).trans HS1.out)
      obtain ⟨s0, s1, s2, s3, s4, s5, s6⟩ := pd_cells HS2.out
      have HX2 := Lib.hid (((box_then hb2).block _ (lt_heap HX.out)).trans HX.out)
      clear hb2 HC c0 c1 c2 c3 c4 c5 c6 c7 HS1
      generalize nameB nm = qn at HP ⊢
      cases qn with
      | false =>
        go_wp2_with fail
        go_ret
        exact ⟨by rw [HP.out]; rfl, hbx2⟩
      | true =>
        by_cases h6 : (prs.length : Int) ≤ 6
        case neg =>
          have HP2 := Lib.hid (show ps.all Pd.okS = false from by rw [HP.out, decide_eq_false h6]; rfl)
          go_wp2_with fail
          go_ret
          exact ⟨by rw [HP2.out]; rfl, hbx2⟩
        have HP2 := Lib.hid (show ps.all Pd.okS = ((prs.all Dc.ok && bq) && (ps.drop (k + 1)).all Pd.okS) from by rw [HP.out, decide_eq_true h6]; rfl)
        have HC3 := Lib.hid (rdecls_any prs ppa ppc w2 (Utf8Tabs_below HT.out hbx2) (HF.out.params.below hbx2))
        go_wp2_with fail
        refine HC3.out.mono ?_
        rintro e w3 ⟨rfl, hb3⟩
        have hbx3 := hbx2.trans (hb3.mono hbx2.size)
        clear s0 s1 s2 s3 s4 s5 s6
        have HS3 := Lib.hid ((hb3.block _ (lt_heap HS2.out)).trans HS2.out)
        obtain ⟨s0, s1, s2, s3, s4, s5, s6⟩ := pd_cells HS3.out
        have HX3 := Lib.hid ((hb3.block _ (lt_heap HX2.out)).trans HX2.out)
        clear hb3 HC3
        generalize prs.all Dc.ok = qd at HP2 ⊢
        cases qd with
        | false =>
          go_wp2_with fail
          go_ret
          exact ⟨by rw [HP2.out]; rfl, hbx3⟩
        | true =>
          have hcall := HBF.out w3 hbx3
          rw [Nd.val_def] at hcall
          have HC4 := Lib.hid hcall
          clear hcall
          go_wp2_with fail
          refine HC4.out.mono ?_
          rintro e w4 ⟨rfl, hb4⟩
          have hbx4 := hbx3.trans (hb4.mono hbx3.size)
          have HX4 := Lib.hid ((hb4.block _ (lt_heap HX3.out)).trans HX3.out)
          clear hb4 HC4 s0 s1 s2 s3 s4 s5 s6
          cases bq with
          | false =>
            go_wp2_with fail
            go_ret
            exact ⟨by rw [HP2.out]; rfl, hbx4⟩
          | true =>
            have HL4 := Lib.hid (show ps.all Pd.okS = (ps.drop (k + 1)).all Pd.okS from by rw [HP2.out]; rfl)
            go_wp2_with fail
            go_roundw
            case rel => exact ⟨k + 1, by go_num, by omega, HL4, HX4, hbx4⟩
            case measure => (try simp [intOf]); omega
    · obtain rfl : k = ps.length := by omega
      have HL2 := Lib.hid (show ps.all Pd.okS = true from by rw [HL.out, List.drop_length]; rfl)
      have HC := Lib.hid (rdecls_any ds da dc wr (Utf8Tabs_below HT.out hbx) (HDS.out.below hbx))
      go_wp2_with fail
      refine HC.out.mono ?_
      rintro e w2 ⟨rfl, hb2⟩
      have hbx2 := hbx.trans (hb2.mono hbx.size)
      clear b0 b1 b2 b3 b4 b5 b6
      obtain ⟨b0, b1, b2, b3, b4, b5, b6⟩ := pg_cells ((hb2.block _ (lt_heap HX.out)).trans HX.out)
      generalize hdd : ds.all Dc.ok = dd
      have HDD := Lib.hid hdd
      clear hdd hb2 HC
      cases dd with
      | false =>
        go_wp2_with fail
        go_ret
        exact ⟨by rw [HL2.out, HDD.out]; rfl, hbx2⟩
      | true =>
        have hcall := HM.out w2 hbx2
        rw [Nd.val_def] at hcall
        have HC2 := Lib.hid hcall
        clear hcall
        go_wp2_with fail
        refine HC2.out.mono ?_
        rintro e w3 ⟨rfl, hb3⟩
        have hb4 := hbx2.trans (hb3.mono hbx2.size)
        clear hb3 HC2
        go_wp2_with fail
        go_ret
        exact ⟨by rw [HL2.out, HDD.out]; rfl, hb4⟩
end Go.Proofs.YtamihfgkpilfiaaDoor
