/- Both Is. -/
import Derived.Test.YtamihfgkpilfiaaDoorGRefA
import Derived.Test.YtamihfgkpilfiaaDoorOpen
import Derived.Test.YtamihfgkpilfiaaDoorGRefBR
import Derived.Test.YtamihfgkpilfiaaDoorLexA
import Derived.Test.YtamihfgkpilfiaaDoorRows
import Derived.WalkKit
import Derived.WalkLawsBesides
import Derived.WalkSpells
import Derived.ProofKit
import Derived.Outline
import Derived.Deep.QuietTactic
import Derived.BigQuiet
import Derived.Deep.Light
import Derived.Deep.CutBlock
import Derived.Deep.DeepCutAuto
import Derived.Deep.DeepFit
import Derived.Deep.LoopGhost
import Derived.Lib.Hide
import Derived.Lib.OthersKept
import Derived.IntWalk
import Derived.StillTailTactics
namespace Go.Proofs.YtamihfgkpilfiaaDoor
open Go.RowKit
/-! mayBeDecls and the reference's decls. -/
def Dc.ok (d : Dc) : Bool := nameB d.name && decide (0 ≤ d.order) && decide (d.order ≤ 2)
set_option maxRecDepth 100000 in
set_option maxHeartbeats 16000000 in
theorem rdecls_any (l : List Dc) (a : Option Addr) (cap : Nat) (w : World) (hU : UT w) (h : DcsIn w a l) : Calls Tryd.prog 58 #[.slice a l.length cap] w fun e w' => e = .returned (.bool (l.all Dc.ok)) ∧ Below w.heap.size w w' := by
  have hc3 := cellsDecl
  have HU := Lib.hid hU
  clear hU
  rcases h with rfl | ⟨b, o, rfl, hlim, hat, hsz⟩
  · show Calls _ _ #[.slice a 0 cap] w _
    go_enter Tryd.func58, Tryd.ntmps58
    go_wp2_with fail
    go_loopw [3] (fun i wr => i = .int .i64 0 ∧ Below w.heap.size w wr) (fun _ _ => 0)
    case atStart => exact ⟨rfl, Below.refl _ _⟩
    case round =>
      obtain ⟨rfl, hbx⟩ := hrel
      go_wp2_with fail
      go_ret
      exact ⟨rfl, hbx⟩
  · have HA := Lib.hid hat
    have HS := Lib.hid hsz
    clear hat hsz
    go_enter Tryd.func58, Tryd.ntmps58
    go_wp2_with fail
    go_loopw [3] (fun i wr => ∃ k : Nat, i = .int .i64 k ∧ k ≤ l.length ∧ RowKit.Hid (l.all Dc.ok = (l.drop k).all Dc.ok) ∧ Below w.heap.size w wr) (fun i _ => l.length - (intOf i).toNat)
    case atStart => exact ⟨0, rfl, by omega, Lib.hid rfl, Below.refl _ _⟩
    case round =>
      obtain ⟨k, rfl, hk, HL, hbx⟩ := hrel
      by_cases hkl : k < l.length
      · have hkl2 : (k : Int) < l.length := by omega
        have hg := List.getElem?_eq_getElem hkl
        have HAT := Lib.hid ((HA.out k (l[k]'hkl) hg).below hbx)
        have hns := HS.out (l[k]'hkl) (List.getElem_mem _)
        have HD : RowKit.Hid (l.drop k = (l[k]'hkl) :: l.drop (k + 1)) := Lib.hid (List.drop_eq_getElem_cons hkl)
        clear hg
        generalize (l[k]'hkl) = d at HAT hns HD
        obtain ⟨nm, od, po⟩ := d
        have hns : nm.size ≤ 140737488351232 := hns
        obtain ⟨c0, c1, c2⟩ := HAT.out
        simp only [] at c0 c1 c2
        have HC := Lib.hid (isName_any nm wr hns (Utf8Tabs_below HU.out hbx))
        go_wp2_with fail
        refine HC.out.mono ?_
        rintro e w2 ⟨rfl, hb2⟩
        have hbx2 := hbx.trans (hb2.mono hbx.size)
        clear c0 c1 c2
        obtain ⟨c0, c1, c2⟩ := HAT.out.below hb2
        simp only [] at c0 c1 c2
        clear hb2 HC
        by_cases hn : nameB nm = true
        · rw [hn]
          by_cases h0 : 0 ≤ od
          · by_cases h2 : od ≤ 2
            · have HL2 := Lib.hid (show l.all Dc.ok = (l.drop (k + 1)).all Dc.ok from by rw [HL.out, HD.out, List.all_cons]; unfold Dc.ok; rw [hn, decide_eq_true h0, decide_eq_true h2]; rfl)
              clear hn
              go_wp2_with fail
              go_roundw
              case rel => exact ⟨k + 1, by go_num, by omega, HL2, hbx2⟩
              case measure => (try simp [intOf]); omega
            · have HL2 := Lib.hid (show l.all Dc.ok = false from by rw [HL.out, HD.out, List.all_cons]; unfold Dc.ok; rw [decide_eq_false h2]; simp)
              clear hn
              go_wp2_with fail
              go_ret
              exact ⟨by rw [HL2.out]; rfl, hbx2⟩
          · have HL2 := Lib.hid (show l.all Dc.ok = false from by rw [HL.out, HD.out, List.all_cons]; unfold Dc.ok; rw [decide_eq_false h0]; simp)
            clear hn
            go_wp2_with fail
            go_ret
            exact ⟨by rw [HL2.out]; rfl, hbx2⟩
        · have hn2 : nameB nm = false := by simpa using hn
          have HL2 := Lib.hid (show l.all Dc.ok = false from by rw [HL.out, HD.out, List.all_cons]; unfold Dc.ok; rw [hn2]; simp)
          rw [hn2]
          clear hn hn2
          go_wp2_with fail
          go_ret
          exact ⟨by rw [HL2.out]; rfl, hbx2⟩
      · obtain rfl : k = l.length := by omega
        have HL2 := Lib.hid (show l.all Dc.ok = true from by rw [HL.out, List.drop_length]; rfl)
        go_wp2_with fail
        go_ret
        exact ⟨by rw [HL2.out]; rfl, hbx⟩
/-! tree.Is. -/
def Pd.ok (p : Pd) : Bool := nameB p.name && decide ((p.params.length : Int) ≤ 6) && p.params.all Dc.ok && p.body.okF
/-- What a pred leads to lies in memory, and is fine. -/
structure PdFine (w : World) (p : Pd) : Prop where
  params : DcsIn w p.pa p.params
  body : p.body.In w
  sized : p.body.sized
  name : p.name.size ≤ 140737488351232
  deep : p.body.deep ≤ 30
  size : p.body.size ≤ 2000
theorem PdFine.below {w w' : World} (hb : Below w.heap.size w w') {p : Pd} (h : PdFine w p) : PdFine w' p := ⟨h.params.below hb, h.body.below hb, h.sized, h.name, h.deep, h.size⟩
def PdsIn (w : World) (a : Option Addr) (l : List Pd) : Prop := (l = [] ∨ ∃ b o, a = some ⟨b, o, none⟩ ∧ l.length ≤ 140737488351232 ∧ ∀ i p, l[i]? = some p → PdAt w b (o + i * 8) p) ∧ ∀ p ∈ l, PdFine w p
/-! sibylref3.Is. -/
set_option maxRecDepth 100000 in
set_option maxHeartbeats 16000000 in
theorem ris_any (ds : List Dc) (da : Option Addr) (dc : Nat) (ps : List Pd) (pa : Option Addr) (pc : Nat) (T : Nd) (w : World) (hT : UT w) (hd : DcsIn w da ds) (hp : PdsIn w pa ps) (hm : T.In w) (hms : T.sized) (hmd : T.deep ≤ 30) (hmz : T.size ≤ 2000) :
    Calls Tryd.prog 31 #[.agg #[.slice da ds.length dc, .slice pa ps.length pc, .string T.op, .string T.name, .int .i64 T.n, .int .i64 T.pos, .slice T.a T.kids.len T.cap]] w fun e w' => e = .returned (.bool (ps.all Pd.ok && ds.all Dc.ok && T.okF)) ∧ Below w.heap.size w w' := by
  have hc5 := cellsNode
  have hc8 := cellsPred
  have HT := Lib.hid hT
  have HDS := Lib.hid hd
  have HPS := Lib.hid hp.2
  have HM := Lib.hid (fun W (hb : Below w.heap.size w W) => rIsFormula_fine T W (Utf8Tabs_below hT hb) (hm.below hb) hms hmd hmz)
  obtain ⟨op, name, n, pos, a, cap, kids⟩ := T
  generalize (Nd.mk op name n pos a cap kids).okF = q at HM ⊢
  have HB := Lib.hid (new_at w (.cells (pgCells da ds.length dc pa ps.length pc op name n pos a kids.len cap) 33))
  have HPI := Lib.hid hp.1
  clear hT hd hp hm hms hmd hmz
  show Calls _ _ #[.agg #[.slice da ds.length dc, .slice pa ps.length pc, .string op, .string name, .int .i64 n, .int .i64 pos, .slice a kids.len cap]] w _
  go_enter Tryd.func31, Tryd.ntmps31
  go_wp2_with fail
  go_loopw [3] (fun i wr => ∃ k : Nat, i = .int .i64 k ∧ k ≤ ps.length ∧ RowKit.Hid (ps.all Pd.ok = (ps.drop k).all Pd.ok) ∧ RowKit.Hid (wr.heap[w.heap.size]? = some (.cells (pgCells da ds.length dc pa ps.length pc op name n pos a kids.len cap) 33)) ∧ Below w.heap.size w wr) (fun i _ => ps.length - (intOf i).toNat)
  case atStart => exact ⟨0, rfl, by omega, Lib.hid rfl, HB, below_box _ _⟩
  case round =>
    obtain ⟨k, rfl, hk, HL, HX, hbx⟩ := hrel
    obtain ⟨b0, b1, b2, b3, b4, b5, b6⟩ := pg_cells HX.out
    by_cases hkl : k < ps.length
    · have hkl2 : (k : Int) < ps.length := by omega
      have hg := List.getElem?_eq_getElem hkl
      obtain ⟨pb, po, hpa, hplim, hpat⟩ : ∃ b o, pa = some ⟨b, o, none⟩ ∧ ps.length ≤ 140737488351232 ∧ ∀ i p, ps[i]? = some p → PdAt w b (o + i * 8) p := by
        rcases HPI.out with h | h
        · rw [h] at hkl; exact absurd hkl (Nat.not_lt_zero _)
        · exact h
      subst hpa
      obtain ⟨c0, c1, c2, c3, c4, c5, c6, c7⟩ := (hpat k (ps[k]'hkl) hg).below hbx
      have HF := Lib.hid (HPS.out (ps[k]'hkl) (List.getElem_mem _))
      have HD : RowKit.Hid (ps.drop k = (ps[k]'hkl) :: ps.drop (k + 1)) := Lib.hid (List.drop_eq_getElem_cons hkl)
      clear hg hpat
      generalize (ps[k]'hkl) = p at c0 c1 c2 c3 c4 c5 c6 c7 HF HD
      obtain ⟨nm, prs, ppa, ppc, ⟨bop, bname, bn, bpos, ba, bcap, bkids⟩, ppos⟩ := p
      simp only [] at c0 c1 c2 c3 c4 c5 c6 c7
      have HS1 := Lib.hid (new_at wr (.cells (pdCells nm ppa prs.length ppc bop bname bn bpos ba bkids.len bcap ppos) 53))
      have HC := Lib.hid (isName_any nm (wr.alloc (.cells (pdCells nm ppa prs.length ppc bop bname bn bpos ba bkids.len bcap ppos) 53)) HF.out.name (Utf8Tabs_below HT.out (hbx.alloc hbx.size _)))
      have HP : RowKit.Hid (ps.all Pd.ok = ((nameB nm && decide ((prs.length : Int) ≤ 6) && prs.all Dc.ok && (Nd.mk bop bname bn bpos ba bcap bkids).okF) && (ps.drop (k + 1)).all Pd.ok)) := Lib.hid (by rw [HL.out, HD.out, List.all_cons]; rfl)
      have HBF := Lib.hid (fun W (hb : Below w.heap.size w W) => rIsFormula_fine ⟨bop, bname, bn, bpos, ba, bcap, bkids⟩ W (Utf8Tabs_below HT.out hb) (HF.out.body.below hb) HF.out.sized HF.out.deep HF.out.size)
      generalize (Nd.mk bop bname bn bpos ba bcap bkids).okF = bq at HP HBF
      go_wp2_with fail
      refine HC.out.mono ?_
      rintro e w2 ⟨rfl, hb2⟩
      have hbx2 := hbx.trans ((box_then hb2).mono hbx.size)
      have HS2 := Lib.hid ((hb2.block _ (lt_heap HS1.out)).trans HS1.out)
      obtain ⟨s0, s1, s2, s3, s4, s5, s6⟩ := pd_cells HS2.out
      have HX2 := Lib.hid (((box_then hb2).block _ (lt_heap HX.out)).trans HX.out)
      clear hb2 HC c0 c1 c2 c3 c4 c5 c6 c7 HS1
      generalize nameB nm = qn at HP ⊢
      cases qn with
      | false =>
        go_wp2_with fail
        go_ret
        exact ⟨by rw [HP.out]; rfl, hbx2⟩
      | true =>
        by_cases h6 : (prs.length : Int) ≤ 6
        case neg =>
          have HP2 := Lib.hid (show ps.all Pd.ok = false from by rw [HP.out, decide_eq_false h6]; rfl)
          go_wp2_with fail
          go_ret
          exact ⟨by rw [HP2.out]; rfl, hbx2⟩
        have HP2 := Lib.hid (show ps.all Pd.ok = ((prs.all Dc.ok && bq) && (ps.drop (k + 1)).all Pd.ok) from by rw [HP.out, decide_eq_true h6]; rfl)
        have HC3 := Lib.hid (rdecls_any prs ppa ppc w2 (Utf8Tabs_below HT.out hbx2) (HF.out.params.below hbx2))
        go_wp2_with fail
        refine HC3.out.mono ?_
        rintro e w3 ⟨rfl, hb3⟩
        have hbx3 := hbx2.trans (hb3.mono hbx2.size)
        clear s0 s1 s2 s3 s4 s5 s6
        have HS3 := Lib.hid ((hb3.block _ (lt_heap HS2.out)).trans HS2.out)
        obtain ⟨s0, s1, s2, s3, s4, s5, s6⟩ := pd_cells HS3.out
        have HX3 := Lib.hid ((hb3.block _ (lt_heap HX2.out)).trans HX2.out)
        clear hb3 HC3
        generalize prs.all Dc.ok = qd at HP2 ⊢
        cases qd with
        | false =>
          go_wp2_with fail
          go_ret
          exact ⟨by rw [HP2.out]; rfl, hbx3⟩
        | true =>
          have hcall := HBF.out w3 hbx3
          rw [Nd.val_def] at hcall
          have HC4 := Lib.hid hcall
          clear hcall
          go_wp2_with fail
          refine HC4.out.mono ?_
          rintro e w4 ⟨rfl, hb4⟩
          have hbx4 := hbx3.trans (hb4.mono hbx3.size)
          have HX4 := Lib.hid ((hb4.block _ (lt_heap HX3.out)).trans HX3.out)
          clear hb4 HC4 s0 s1 s2 s3 s4 s5 s6
          cases bq with
          | false =>
            go_wp2_with fail
            go_ret
            exact ⟨by rw [HP2.out]; rfl, hbx4⟩
          | true =>
            have HL4 := Lib.hid (show ps.all Pd.ok = (ps.drop (k + 1)).all Pd.ok from by rw [HP2.out]; rfl)
            go_wp2_with fail
            go_roundw
            case rel => exact ⟨k + 1, by go_num, by omega, HL4, HX4, hbx4⟩
            case measure => (try simp [intOf]); omega
    · obtain rfl : k = ps.length := by omega
      have HL2 := Lib.hid (show ps.all Pd.ok = true from by rw [HL.out, List.drop_length]; rfl)
      have HC := Lib.hid (rdecls_any ds da dc wr (Utf8Tabs_below HT.out hbx) (HDS.out.below hbx))
      go_wp2_with fail
      refine HC.out.mono ?_
      rintro e w2 ⟨rfl, hb2⟩
      have hbx2 := hbx.trans (hb2.mono hbx.size)
      clear b0 b1 b2 b3 b4 b5 b6
      obtain ⟨b0, b1, b2, b3, b4, b5, b6⟩ := pg_cells ((hb2.block _ (lt_heap HX.out)).trans HX.out)
      generalize hdd : ds.all Dc.ok = dd
      have HDD := Lib.hid hdd
      clear hdd hb2 HC
      cases dd with
      | false =>
        go_wp2_with fail
        go_ret
        exact ⟨by rw [HL2.out, HDD.out]; rfl, hbx2⟩
      | true =>
        have hcall := HM.out w2 hbx2
        rw [Nd.val_def] at hcall
        have HC2 := Lib.hid hcall
        clear hcall
        go_wp2_with fail
        refine HC2.out.mono ?_
        rintro e w3 ⟨rfl, hb3⟩
        have hb4 := hbx2.trans (hb3.mono hbx2.size)
        clear hb3 HC2
        go_wp2_with fail
        go_ret
        exact ⟨by rw [HL2.out, HDD.out]; rfl, hb4⟩
end Go.Proofs.YtamihfgkpilfiaaDoor
