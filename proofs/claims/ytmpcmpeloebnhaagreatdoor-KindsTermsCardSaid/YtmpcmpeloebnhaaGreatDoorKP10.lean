/- Parts of the proof: GIs KN RpB RpC RpD. -/
import Derived.Test.YtmpcmpeloebnhaaGreatDoorKP06
import Derived.Test.YtmpcmpeloebnhaaGreatDoorKP05
import Derived.Test.YtmpcmpeloebnhaaGreatDoorKP01
import Derived.Test.YtmpcmpeloebnhaaGreatDoorKP00
import Derived.Test.YtmpcmpeloebnhaaGreatDoorRows
import Derived.Test.YtmpcmpeloebnhaaGreatDoorKP09
import Derived.Test.YtmpcmpeloebnhaaGreatDoorKP04
import Derived.Test.YtmpcmpeloebnhaaGreatDoorKP02
import Derived.WalkKit
import Derived.WalkLawsBesides
import Derived.WalkSpells
import Derived.ProofKit
import Derived.Outline
import Derived.Deep.QuietTactic
import Derived.BigQuiet
import Derived.Deep.Light
import Derived.Deep.CutBlock
import Derived.Deep.DeepCutAuto
import Derived.Deep.DeepFit
import Derived.Deep.LoopGhost
import Derived.Lib.Hide
import Derived.Lib.OthersKept
import Derived.IntWalk
import Derived.StillTailTactics
import Derived.Maps.OwnSet
import Derived.Maps.OwnOps
import Derived.Deep.RegionHeld3
import Derived.OrdersHeld
namespace Go.Proofs.YtmpcmpeloebnhaaGreatDoor
open Go.RowKit
set_option maxRecDepth 100000 in
set_option maxHeartbeats 16000000 in
theorem mayBeDecls_any (l : List Dc) (a : Option Addr) (cap : Nat) (w : World) (hT : LTabs w) (h : DcsIn w a l) : Calls Tryz.prog 80 #[.slice a l.length cap] w fun e w' => e = .returned (.bool (l.all Dc.ok)) ∧ Below w.heap.size w w' := by
 have hc3 := cellsDecl
 have HT := Lib.hid hT
 clear hT
 rcases h with rfl | ⟨b, o, rfl, hlim, hat, hsz⟩
 · show Calls _ _ #[.slice a 0 cap] w _
  go_enter Tryz.func80, Tryz.ntmps80
  go_wp2_with fail
  go_loopw [7] (fun i wr => i = .int .i64 0 ∧ Below w.heap.size w wr) (fun _ _ => 0)
  case atStart => exact ⟨rfl, Below.refl _ _⟩
  case round =>
   obtain ⟨rfl, hbx⟩ := hrel
   go_wp2_with fail
   go_ret
   exact ⟨rfl, hbx⟩
 · have HA := Lib.hid hat
  have HS := Lib.hid hsz
  clear hat hsz
  go_enter Tryz.func80, Tryz.ntmps80
  go_wp2_with fail
  go_loopw [7] (fun i wr => ∃ k : Nat, i = .int .i64 k ∧ k ≤ l.length ∧ RowKit.Hid (l.all Dc.ok = (l.drop k).all Dc.ok) ∧ Below w.heap.size w wr) (fun i _ => l.length - (intOf i).toNat)
  case atStart => exact ⟨0, rfl, by omega, Lib.hid rfl, Below.refl _ _⟩
  case round =>
   obtain ⟨k, rfl, hk, HL, hbx⟩ := hrel
   by_cases hkl : k < l.length
   · have hkl2 : (k : Int) < l.length := by omega
    have hg := List.getElem?_eq_getElem hkl
    obtain ⟨c0, c1, c2⟩ := (HA.out k (l[k]'hkl) hg).below hbx
    have hns := HS.out (l[k]'hkl) (List.getElem_mem _)
    have HD : RowKit.Hid (l.drop k = (l[k]'hkl) :: l.drop (k + 1)) := Lib.hid (List.drop_eq_getElem_cons hkl)
    clear hg
    generalize (l[k]'hkl) = d at c0 c1 c2 hns HD
    obtain ⟨nm, od, po⟩ := d
    simp only [] at c0 c1 c2 hns
    have HC := Lib.hid (mayBeName_any nm (wr.alloc (.cells #[.string nm, .int .i64 od, .int .i64 po] 109)) hns (HT.out.below (hbx.alloc hbx.size _)))
    have HB := Lib.hid (new_at wr (.cells #[.string nm, .int .i64 od, .int .i64 po] 109))
    go_wp2_with fail
    refine HC.out.mono ?_
    rintro e w2 ⟨rfl, hb2⟩
    have hblk := (hb2.block _ (lt_heap HB.out)).trans HB.out
    have d1 : w2.cell? ⟨wr.heap.size, 1, none⟩ = some (.int .i64 od) := by rw [cell_of_row _ _ _ _ _ _ hblk]; rfl
    have hbx2 := hbx.trans ((box_then hb2).mono hbx.size)
    clear hb2 hblk HC c0 c1 c2 HB
    by_cases hn : nameB nm = true
    · rw [hn]
     by_cases h0 : 0 ≤ od
     · by_cases h2 : od ≤ 2
      · have HL2 := Lib.hid (show l.all Dc.ok = (l.drop (k + 1)).all Dc.ok from by rw [HL.out, HD.out, List.all_cons]; unfold Dc.ok; rw [hn, decide_eq_true h0, decide_eq_true h2]; rfl)
       clear hn
       go_wp2_with fail
       go_roundw
       case rel => exact ⟨k + 1, by go_num, by omega, HL2, hbx2⟩
       case measure => (try simp [intOf]); omega
      · have HL2 := Lib.hid (show l.all Dc.ok = false from by rw [HL.out, HD.out, List.all_cons]; unfold Dc.ok; rw [decide_eq_false h2]; simp)
       clear hn
       go_wp2_with fail
       go_ret
       exact ⟨by rw [HL2.out]; rfl, hbx2⟩
     · have HL2 := Lib.hid (show l.all Dc.ok = false from by rw [HL.out, HD.out, List.all_cons]; unfold Dc.ok; rw [decide_eq_false h0]; simp)
      clear hn
      go_wp2_with fail
      go_ret
      exact ⟨by rw [HL2.out]; rfl, hbx2⟩
    · have hn2 : nameB nm = false := by simpa using hn
     have HL2 := Lib.hid (show l.all Dc.ok = false from by rw [HL.out, HD.out, List.all_cons]; unfold Dc.ok; rw [hn2]; simp)
     rw [hn2]
     clear hn hn2
     go_wp2_with fail
     go_ret
     exact ⟨by rw [HL2.out]; rfl, hbx2⟩
   · obtain rfl : k = l.length := by omega
    have HL2 := Lib.hid (show l.all Dc.ok = true from by rw [HL.out, List.drop_length]; rfl)
    go_wp2_with fail
    go_ret
    exact ⟨by rw [HL2.out]; rfl, hbx⟩
set_option maxRecDepth 100000 in
set_option maxHeartbeats 16000000 in
theorem is_any (ds : List Dc) (da : Option Addr) (dc : Nat) (ps : List Pd) (pa : Option Addr) (pc : Nat) (T : Nd) (w : World) (hT : LTabs w) (hd : DcsIn w da ds) (hp : PdsIn w pa ps) (hm : T.In w) (hms : T.sized) (hmd : T.deep ≤ 30) (hmz : T.size ≤ 2000) :
  Calls Tryz.prog 44 #[.agg #[.slice da ds.length dc, .slice pa ps.length pc, .string T.op, .string T.name, .int .i64 T.n, .int .i64 T.pos, .slice T.a T.kids.len T.cap]] w fun e w' => e = .returned (.bool (ps.all Pd.ok && ds.all Dc.ok && T.okF)) ∧ Below w.heap.size w w' := by
 have hc5 := cellsNode
 have hc8 := cellsPred
 have HT := Lib.hid hT
 have HDS := Lib.hid hd
 have HPS := Lib.hid hp.2
 have HM := Lib.hid (fun W (hb : Below w.heap.size w W) => isFormula_fine T W (hT.below hb) (hm.below hb) hms hmd hmz)
 obtain ⟨op, name, n, pos, a, cap, kids⟩ := T
 generalize (Nd.mk op name n pos a cap kids).okF = q at HM ⊢
 have HB := Lib.hid (new_at w (.cells (pgCells da ds.length dc pa ps.length pc op name n pos a kids.len cap) 28))
 have HPI := Lib.hid hp.1
 clear hT hd hp hm hms hmd hmz
 show Calls _ _ #[.agg #[.slice da ds.length dc, .slice pa ps.length pc, .string op, .string name, .int .i64 n, .int .i64 pos, .slice a kids.len cap]] w _
 go_enter Tryz.func44, Tryz.ntmps44
 go_wp2_with fail
 go_loopw [8] (fun i wr => ∃ k : Nat, i = .int .i64 k ∧ k ≤ ps.length ∧ RowKit.Hid (ps.all Pd.ok = (ps.drop k).all Pd.ok) ∧ RowKit.Hid (wr.heap[w.heap.size]? = some (.cells (pgCells da ds.length dc pa ps.length pc op name n pos a kids.len cap) 28)) ∧ Below w.heap.size w wr) (fun i _ => ps.length - (intOf i).toNat)
 case atStart => exact ⟨0, rfl, by omega, Lib.hid rfl, HB, below_box _ _⟩
 case round =>
  obtain ⟨k, rfl, hk, HL, HX, hbx⟩ := hrel
  by_cases hkl : k < ps.length
  · have hkl2 : (k : Int) < ps.length := by omega
   have hg := List.getElem?_eq_getElem hkl
   obtain ⟨pb, po, hpa, hplim, hpat⟩ : ∃ b o, pa = some ⟨b, o, none⟩ ∧ ps.length ≤ 140737488351232 ∧ ∀ i p, ps[i]? = some p → PdAt w b (o + i * 8) p := by
    rcases HPI.out with h | h
    · rw [h] at hkl; exact absurd hkl (Nat.not_lt_zero _)
    · exact h
   subst hpa
   obtain ⟨c0, c1, c2, c3, c4, c5, c6, c7⟩ := (hpat k (ps[k]'hkl) hg).below hbx
   have HF := Lib.hid (HPS.out (ps[k]'hkl) (List.getElem_mem _))
   have HD : RowKit.Hid (ps.drop k = (ps[k]'hkl) :: ps.drop (k + 1)) := Lib.hid (List.drop_eq_getElem_cons hkl)
   clear hg hpat
   generalize (ps[k]'hkl) = p at c0 c1 c2 c3 c4 c5 c6 c7 HF HD
   obtain ⟨nm, prs, ppa, ppc, ⟨bop, bname, bn, bpos, ba, bcap, bkids⟩, ppos⟩ := p
   simp only [] at c0 c1 c2 c3 c4 c5 c6 c7
   have HS1 := Lib.hid (new_at wr (.cells (pdCells nm ppa prs.length ppc bop bname bn bpos ba bkids.len bcap ppos) 64))
   have HC := Lib.hid (mayBeName_any nm (wr.alloc (.cells (pdCells nm ppa prs.length ppc bop bname bn bpos ba bkids.len bcap ppos) 64)) HF.out.name (HT.out.below (hbx.alloc hbx.size _)))
   have HP : RowKit.Hid (ps.all Pd.ok = ((nameB nm && decide ((prs.length : Int) ≤ 6) && prs.all Dc.ok && (Nd.mk bop bname bn bpos ba bcap bkids).okF) && (ps.drop (k + 1)).all Pd.ok)) := Lib.hid (by rw [HL.out, HD.out, List.all_cons]; rfl)
   have HBF := Lib.hid (fun W (hb : Below w.heap.size w W) => isFormula_fine ⟨bop, bname, bn, bpos, ba, bcap, bkids⟩ W (HT.out.below hb) (HF.out.body.below hb) HF.out.sized HF.out.deep HF.out.size)
   generalize (Nd.mk bop bname bn bpos ba bcap bkids).okF = bq at HP HBF
   go_wp2_with fail
   refine HC.out.mono ?_
   rintro e w2 ⟨rfl, hb2⟩
   have hbx2 := hbx.trans ((box_then hb2).mono hbx.size)
   have HS2 := Lib.hid ((hb2.block _ (lt_heap HS1.out)).trans HS1.out)
   obtain ⟨s0, s1, s2, s3, s4, s5, s6⟩ := pd_cells HS2.out
   have HX2 := Lib.hid (((box_then hb2).block _ (lt_heap HX.out)).trans HX.out)
   clear hb2 HC c0 c1 c2 c3 c4 c5 c6 c7 HS1
   generalize nameB nm = qn at HP ⊢
   cases qn with
   | false =>
    go_wp2_with fail
    go_ret
    exact ⟨by rw [HP.out]; rfl, hbx2⟩
   | true =>
    by_cases h6 : (prs.length : Int) ≤ 6
    case neg =>
     have HP2 := Lib.hid (show ps.all Pd.ok = false from by rw [HP.out, decide_eq_false h6]; rfl)
     go_wp2_with fail
     go_ret
     exact ⟨by rw [HP2.out]; rfl, hbx2⟩
    have HP2 := Lib.hid (show ps.all Pd.ok = ((prs.all Dc.ok && bq) && (ps.drop (k + 1)).all Pd.ok) from by rw [HP.out, decide_eq_true h6]; rfl)
    have HC3 := Lib.hid (mayBeDecls_any prs ppa ppc w2 (HT.out.below hbx2) (HF.out.params.below hbx2))
    go_wp2_with fail
    refine HC3.out.mono ?_
    rintro e w3 ⟨rfl, hb3⟩
    have hbx3 := hbx2.trans (hb3.mono hbx2.size)
    clear s0 s1 s2 s3 s4 s5 s6
    have HS3 := Lib.hid ((hb3.block _ (lt_heap HS2.out)).trans HS2.out)
    obtain ⟨s0, s1, s2, s3, s4, s5, s6⟩ := pd_cells HS3.out
    have HX3 := Lib.hid ((hb3.block _ (lt_heap HX2.out)).trans HX2.out)
    clear hb3 HC3
    generalize prs.all Dc.ok = qd at HP2 ⊢
    cases qd with
    | false =>
     go_wp2_with fail
     go_ret
     exact ⟨by rw [HP2.out]; rfl, hbx3⟩
    | true =>
     have hcall := HBF.out w3 hbx3
     rw [Nd.val_def] at hcall
     have HC4 := Lib.hid hcall
     clear hcall
     go_wp2_with fail
     refine HC4.out.mono ?_
     rintro e w4 ⟨rfl, hb4⟩
     have hbx4 := hbx3.trans (hb4.mono hbx3.size)
     have HX4 := Lib.hid ((hb4.block _ (lt_heap HX3.out)).trans HX3.out)
     clear hb4 HC4 s0 s1 s2 s3 s4 s5 s6
     cases bq with
     | false =>
      go_wp2_with fail
      go_ret
      exact ⟨by rw [HP2.out]; rfl, hbx4⟩
     | true =>
      have HL4 := Lib.hid (show ps.all Pd.ok = (ps.drop (k + 1)).all Pd.ok from by rw [HP2.out]; rfl)
      go_wp2_with fail
      go_roundw
      case rel => exact ⟨k + 1, by go_num, by omega, HL4, HX4, hbx4⟩
      case measure => (try simp [intOf]); omega
  · obtain rfl : k = ps.length := by omega
   have HL2 := Lib.hid (show ps.all Pd.ok = true from by rw [HL.out, List.drop_length]; rfl)
   obtain ⟨b0, b1, b2, b3, b4, b5, b6⟩ := pg_cells HX.out
   have HC := Lib.hid (mayBeDecls_any ds da dc wr (HT.out.below hbx) (HDS.out.below hbx))
   go_wp2_with fail
   refine HC.out.mono ?_
   rintro e w2 ⟨rfl, hb2⟩
   have hbx2 := hbx.trans (hb2.mono hbx.size)
   clear b0 b1 b2 b3 b4 b5 b6
   obtain ⟨b0, b1, b2, b3, b4, b5, b6⟩ := pg_cells ((hb2.block _ (lt_heap HX.out)).trans HX.out)
   generalize hdd : ds.all Dc.ok = dd
   have HDD := Lib.hid hdd
   clear hdd hb2 HC
   cases dd with
   | false =>
    go_wp2_with fail
    go_ret
    exact ⟨by rw [HL2.out, HDD.out]; rfl, hbx2⟩
   | true =>
    have hcall := HM.out w2 hbx2
    rw [Nd.val_def] at hcall
    have HC2 := Lib.hid hcall
    clear hcall
    go_wp2_with fail
    refine HC2.out.mono ?_
    rintro e w3 ⟨rfl, hb3⟩
    have hb4 := hbx2.trans (hb3.mono hbx2.size)
    clear hb3 HC2
    go_wp2_with fail
    go_ret
    exact ⟨by rw [HL2.out, HDD.out]; rfl, hb4⟩
end Go.Proofs.YtmpcmpeloebnhaaGreatDoor
namespace Go.Proofs.YtmpcmpeloebnhaaGreatDoor
open Go.RowKit
open Go.Maps
def predsR : List Pd → List Pd → Int × Int
 | _, [] => (0, 0)
 | ahead, p :: r => if (predR (predsK ahead) p).2 = 0 then predsR (ahead ++ [p]) r else predR (predsK ahead) p
def checkR (ds : List Dc) (ps : List Pd) (T : Nd) : Int × Int :=
 if (ps.all Pd.ok && ds.all Dc.ok && T.okF) = true then (if (onceR ds).2 = 0 then (if (predsR [] ps).2 = 0 then T.fk (predsK ps) (ordD ds) else predsR [] ps) else onceR ds) else (0, 1)
theorem predsK_snoc (l : List Pd) (p : Pd) (h : predsK l p.name = none) (y : ByteArray) : predsK (l ++ [p]) y = if y = p.name then some p.params else predsK l y := by
 unfold predsK at h ⊢
 rw [List.find?_append]
 by_cases hy : y = p.name
 · subst hy
  rw [if_pos rfl]
  have h2 : (l.find? fun q => decide (q.name = p.name)) = none := by
   cases hq : l.find? (fun q => decide (q.name = p.name)) with
   | none => rfl
   | some x => rw [hq] at h; cases h
  rw [h2]
  simp
 · rw [if_neg hy]
  have h3 : ([p].find? fun q => decide (q.name = y)) = none := by
   simp
   exact fun e => hy e.symm
  rw [h3, Option.or_none]
theorem predR_some {Q : ByteArray → Option (List Dc)} {p : Pd} (h : (predR Q p).2 = 0) : Q p.name = none := by
 unfold predR at h
 cases hq : Q p.name with
 | none => rfl
 | some x => rw [hq, if_pos (show (some x).isSome = true from rfl)] at h; cases h
theorem zeroPrd {w : World} {N m : Nat} (h : SMap Tryz.prog 9 w N m (fun _ => none)) : PrdQ w N m (predsK []) := ⟨_, h, fun _ => .inl ⟨rfl, rfl⟩⟩
theorem cellsProg7 : Tryz.prog.cellsOf 28 = 7 := by kernel_rfl
abbrev pgB (da : Option Addr) (dl dc : Nat) (pa : Option Addr) (pl pc : Nat) (T : Nd) : Obj := .cells (pgCells da dl dc pa pl pc T.op T.name T.n T.pos T.a T.kids.len T.cap) 28
set_option maxRecDepth 100000 in
set_option maxHeartbeats 16000000 in
theorem kcheck_any (ds : List Dc) (da : Option Addr) (dc : Nat) (ps : List Pd) (pa : Option Addr) (pc : Nat) (T : Nd) (w : World) (hT : LTabs w) (hd : DcsIn w da ds) (hp : PdsIn w pa ps) (hm : T.In w) (hms : T.sized) (hmd : T.deep ≤ 30) (hmz : T.size ≤ 2000) (hdl : ds.length ≤ 1000000) (hpl : ps.length ≤ 1000000) :
  Calls Tryz.prog 17 #[.agg #[.slice da ds.length dc, .slice pa ps.length pc, .string T.op, .string T.name, .int .i64 T.n, .int .i64 T.pos, .slice T.a T.kids.len T.cap]] w fun e w' => e = .returned (.tuple #[.int .i64 (checkR ds ps T).1, .int .i64 (checkR ds ps T).2]) ∧ Below w.heap.size w w' := by
 obtain ⟨q0, hq0⟩ : ∃ q0, q0 = checkR ds ps T := ⟨_, rfl⟩
 rw [← hq0]
 have hc7 := cellsProg7
 have hc8 := cellsPred
 have hc5 := cellsNode
 have hmm := @run_makeMap Tryz.prog
 have HW := Lib.hid (below_box w (pgB da ds.length dc pa ps.length pc T))
 have HB := Lib.hid (new_at w (pgB da ds.length dc pa ps.length pc T))
 have HC1 := Lib.hid (is_any ds da dc ps pa pc T (w.alloc (pgB da ds.length dc pa ps.length pc T)) (hT.below HW.out) (hd.below HW.out) ⟨by rcases hp.1 with h | ⟨b, o, h1, h2, h3⟩; exact .inl h; exact .inr ⟨b, o, h1, h2, fun i p hi => (h3 i p hi).below HW.out⟩, fun p hi => (hp.2 p hi).below HW.out⟩ (hm.below HW.out) hms hmd hmz)
 obtain ⟨p0, p1, p2, p3, p4, p5, p6⟩ := pg_cells HB.out
 have hqc : q0 = checkR ds ps T := hq0
 unfold checkR at hqc
 rcases bool_two (ps.all Pd.ok && ds.all Dc.ok && T.okF) with hok | hok
 · rw [if_pos hok] at hqc
  rw [hok] at HC1
  rw [Bool.and_eq_true, Bool.and_eq_true] at hok
  have HO1 := Lib.hid (fun W (hW : Below w.heap.size w W) => konce_any ds da dc W hdl (hd.below hW))
  have HQC := Lib.hid hqc
  have HPO := Lib.hid (List.all_eq_true.1 hok.1.1)
  have HFQ := Lib.hid (fun W M nM N m (ho : OrdIs W M nM (ordD ds)) (hM : N ≠ M) (hn : nM ≤ ds.length) (hW : Below w.heap.size w W) (hpq : PrdQ W N m (predsK ps)) => kformula_all T W M nM (.map (some N)) (ordD ds) (predsK ps) ho (hpq.is hM) (hm.below hW) hms hok.2 (by omega))
  have HSC := Lib.hid (fun W N (hW : Below w.heap.size w W) => kscope_any ds da dc (some N) W hdl (hd.below hW))
  have HPF := Lib.hid hp.2
  have HPI := Lib.hid hp.1
  clear hq0 hqc hok hT hd hp hm hms hmd hmz
  rw [Nd.val_def] at HFQ
  go_enter Tryz.func17, Tryz.ntmps17
  go_wp2_with fail
  refine HC1.out.mono ?_
  rintro e w2 ⟨rfl, hb2⟩
  have HW2 := Lib.hid (HW.out.trans (hb2.mono HW.out.size))
  have HB2 := Lib.hid ((hb2.block _ (lt_heap HB.out)).trans HB.out)
  have HC2 := Lib.hid (HO1.out w2 HW2.out)
  clear hb2 HC1 HB HW p0 p1 p2 p3 p4 p5 p6
  obtain ⟨p0, p1, p2, p3, p4, p5, p6⟩ := pg_cells HB2.out
  go_wp2_with fail
  refine HC2.out.mono ?_
  rintro e w3 ⟨rfl, hb3⟩
  have HW3 := Lib.hid (HW2.out.trans (hb3.mono HW2.out.size))
  have HB3 := Lib.hid ((hb3.block _ (lt_heap HB2.out)).trans HB2.out)
  clear hb3 HC2 HB2 HW2 p0 p1 p2 p3 p4 p5 p6 HO1
  obtain ⟨p0, p1, p2, p3, p4, p5, p6⟩ := pg_cells HB3.out
  have hqc := HQC.out
  generalize onceR ds = o at hqc ⊢
  obtain ⟨o1, oe⟩ := o
  simp only [] at hqc
  by_cases hoe : oe = 0
  · subst hoe
   rw [if_pos rfl] at hqc
   obtain ⟨qp, hqp⟩ : ∃ qp, qp = predsR [] ps := ⟨_, rfl⟩
   rw [← hqp] at hqc
   have HQP := Lib.hid hqp
   have HQ2 := Lib.hid hqc
   have HM0 := Lib.hid (zeroPrd (SMap.made Tryz.prog 9 w3))
   have HB4 := Lib.hid ((Below.heap_alloc w3 (.map #[] 0) _ (lt_heap HB3.out)).trans HB3.out)
   have HW4 := Lib.hid (HW3.out.alloc HW3.out.size (.map #[] 0))
   have hz3 := lt_heap HB3.out
   replace p0 := cell_below (below_box w3 (.map #[] 0)) p0
   replace p1 := cell_below (below_box w3 (.map #[] 0)) p1
   clear hqc hqp HQC HB3 HW3 p2 p3 p4 p5 p6
   rcases HPI.out with hnil | ⟨b, o, hab, hlim, hat⟩
   · subst hnil
    have hz0 : ((([] : List Pd).length : Nat) : Int) = 0 := rfl
    have hq2 : q0 = T.fk (predsK []) (ordD ds) := by rw [HQ2.out, HQP.out]; rfl
    go_wp2_with fail
    go_loopw [28] (fun i wr => i = .int .i64 0 ∧ RowKit.Hid (wr.heap[w.heap.size]? = some (pgB da ds.length dc pa 0 pc T)) ∧ RowKit.Hid (PrdQ wr w3.heap.size 0 (predsK [])) ∧ Below w.heap.size w wr) (fun _ _ => 0)
    case atStart => exact ⟨rfl, HB4, HM0, HW4.out⟩
    case round =>
     obtain ⟨rfl, HX, HPQ, hbx⟩ := hrel
     have HQX := Lib.hid hq2
     clear p0 p1
     obtain ⟨p0, p1, p2, p3, p4, p5, p6⟩ := pg_cells HX.out
     have HBX := Lib.hid hbx
     have hwsz : w.heap.size < wr.heap.size := lt_heap HX.out
     have hNl2 := HPQ.out.lt
     have HC3 := Lib.hid (HSC.out wr.drew w3.heap.size hbx.drew)
     have HB2 := Lib.hid (Below.refl wr.heap.size wr).drew
     clear hbx HX
     go_wp2_with fail
     go_region_held3 (fun wz => wz.cell? ⟨w.heap.size, 0, none⟩ = some (.slice da ds.length dc) ∧ wz.cell? ⟨w.heap.size, 2, none⟩ = some (.string T.op) ∧ wz.cell? ⟨w.heap.size, 3, none⟩ = some (.string T.name) ∧ wz.cell? ⟨w.heap.size, 4, none⟩ = some (.int .i64 T.n) ∧ wz.cell? ⟨w.heap.size, 5, none⟩ = some (.int .i64 T.pos) ∧ wz.cell? ⟨w.heap.size, 6, none⟩ = some (.slice T.a T.kids.len T.cap)) (go_keep) (first | (go_at_call 47; refine HC3.out.mono ?_; rintro e w4 ⟨M, nM, rfl, hM1, hM2, ho4, hb4⟩; replace p0 := cell_below (HB2.out.trans (hb4.mono HB2.out.size)) p0; replace p2 := cell_below (HB2.out.trans (hb4.mono HB2.out.size)) p2; replace p3 := cell_below (HB2.out.trans (hb4.mono HB2.out.size)) p3; replace p4 := cell_below (HB2.out.trans (hb4.mono HB2.out.size)) p4; replace p5 := cell_below (HB2.out.trans (hb4.mono HB2.out.size)) p5; replace p6 := cell_below (HB2.out.trans (hb4.mono HB2.out.size)) p6; have HW5 := Lib.hid (HBX.out.trans ((HB2.out.trans (hb4.mono HB2.out.size)).mono HBX.out.size)); have HC5 := Lib.hid (HFQ.out w4 M nM w3.heap.size _ ho4 (Nat.ne_of_lt (Nat.lt_of_lt_of_le hNl2 hM1)) hM2 HW5.out (HPQ.out.below (HB2.out.trans (hb4.mono HB2.out.size)))); have hM3 : w.heap.size ≤ M := Nat.le_trans (Nat.le_of_lt hwsz) hM1; have HCW := Lib.hid (fun w5 (h : Kp M w4 w5) => ho4.cl h); clear ho4 hb4) | (go_at_call 48; refine HC5.out.mono ?_; rintro e w5 ⟨rfl, hk5, m5, hm5, ho5⟩; have HW6 := Lib.hid (below_kpK HW5.out hk5 hM3); replace p0 := (HCW.out w5 hk5).cell _ _ p0; replace p2 := (HCW.out w5 hk5).cell _ _ p2; replace p3 := (HCW.out w5 hk5).cell _ _ p3; replace p4 := (HCW.out w5 hk5).cell _ _ p4; replace p5 := (HCW.out w5 hk5).cell _ _ p5; replace p6 := (HCW.out w5 hk5).cell _ _ p6; clear hk5 ho5))
     clear HCW HC5 HC3 HW5 HB2 HFQ HSC HBX p0 p2 p3 p4 p5 p6
     go_wp2_with fail
     go_ret2
     exact ⟨by rw [HQX.out]; rfl, HW6.out⟩
   · subst hab
    have HA := Lib.hid hat
    clear hat
    go_wp2_with fail
    go_loopw [28] (fun i wr => ∃ k : Nat, i = .int .i64 k ∧ k ≤ ps.length ∧ RowKit.Hid (qp = predsR (ps.take k) (ps.drop k)) ∧ RowKit.Hid (wr.heap[w.heap.size]? = some (pgB da ds.length dc (some ⟨b, o, none⟩) ps.length pc T)) ∧ RowKit.Hid (PrdQ wr w3.heap.size k (predsK (ps.take k))) ∧ Below w.heap.size w wr) (fun i _ => ps.length - (intOf i).toNat)
    case atStart => exact ⟨0, rfl, by omega, HQP, HB4, HM0, HW4.out⟩
    case round =>
     obtain ⟨k, rfl, hk, HL, HX, HPQ, hbx⟩ := hrel
     by_cases hkl : k < ps.length
     · have hkl2 : (k : Int) < ps.length := by omega
      have hg := List.getElem?_eq_getElem hkl
      have hpa := (HA.out k (ps[k]'hkl) hg).below hbx
      have hfi := (HPF.out (ps[k]'hkl) (List.getElem_mem _)).below hbx
      have hokp := HPO.out (ps[k]'hkl) (List.getElem_mem _)
      have hdr : ps.drop k = (ps[k]'hkl) :: ps.drop (k + 1) := List.drop_eq_getElem_cons hkl
      have htk : ps.take (k + 1) = ps.take k ++ [ps[k]'hkl] := by rw [List.take_add_one, hg]; rfl
      clear hg
      generalize (ps[k]'hkl) = P at hpa hfi hokp hdr htk
      have hokb : P.body.okF = true ∧ P.params.length ≤ 6 := by
       unfold Pd.ok at hokp
       simp only [Bool.and_eq_true, decide_eq_true_eq] at hokp
       exact ⟨hokp.2, by omega⟩
      have hqq : qp = (if (predR (predsK (ps.take k)) P).2 = 0 then predsR (ps.take k ++ [P]) (ps.drop (k + 1)) else predR (predsK (ps.take k)) P) := by rw [HL.out, hdr]; rfl
      have hcall := kpred_any P (wr.alloc (pdBox P)) w3.heap.size k (predsK (ps.take k)) (HPQ.out.below (below_box _ _)) (by omega) (hfi.params.below (below_box _ _)) (hfi.body.below (below_box _ _)) hfi.sized hfi.name hokb.1 hfi.size
      have hsome := @predR_some (predsK (ps.take k)) P
      have hsn := predsK_snoc (ps.take k) P
      generalize predR (predsK (ps.take k)) P = qr at hqq hcall hsome
      obtain ⟨qr1, qre⟩ := qr
      simp only [] at hqq hcall hsome
      have HCL := Lib.hid hcall
      obtain ⟨c0, c1, c2, c3, c4, c5, c6, c7⟩ := hpa
      obtain ⟨x0, x1, x2, x3, x4, x5, x6, x7⟩ := pdb_cells (new_at wr (pdBox P))
      have HNB := Lib.hid (new_at wr (pdBox P))
      have hnm : P.name.size ≤ maxLen := by have := hfi.name; unfold maxLen; omega
      have HFI := Lib.hid hfi
      have HTK := Lib.hid htk
      have HSN := Lib.hid hsn
      have HSO := Lib.hid hsome
      have hNl := HPQ.out.lt
      clear hcall hfi hokp hokb htk hsn hsome hdr HL
      by_cases hre : qre = 0
      · have HL2 := Lib.hid (show qp = predsR (ps.take k ++ [P]) (ps.drop (k + 1)) from by rw [hqq, if_pos hre])
       have hnone := HSO.out hre
       clear hqq
       subst hre
       go_wp2_with fail
       refine HCL.out.mono ?_
       rintro e w5 ⟨rfl, hb5⟩
       have hbb5 := box_then hb5
       have HBW := Lib.hid (hbx.trans (hbb5.mono hbx.size))
       have HX5 := Lib.hid ((hbb5.block _ (lt_heap HX.out)).trans HX.out)
       have HP5 := Lib.hid (HPQ.out.below hbb5)
       have HNB5 := Lib.hid ((hb5.block _ (lt_heap HNB.out)).trans HNB.out)
       have HDI5 := Lib.hid (HFI.out.params.below hbb5)
       have HN0 := Lib.hid hnone
       clear hb5 hbb5 HCL c0 c1 c2 c3 c4 c5 c6 c7 x0 x1 x2 x3 x4 x5 x6 x7 HX HPQ HNB HFI HSO hnone
       obtain ⟨x0, x1, x2, x3, x4, x5, x6, x7⟩ := pdb_cells HNB5.out
       obtain ⟨f5, hsm5, hf5⟩ := HP5.out
       have HSM5 := Lib.hid hsm5
       have HF5 := Lib.hid hf5
       clear hsm5 hf5 x2 x3 x4 x5 x6 x7
       go_wp2_with (at_mapUpdate; refine wpList_update_smap _ rfl _ _ _ 79 rfl 9 22 Tryz.underlying9 Tryz.underlying79 w3.heap.size k f5 rfl HSM5.out (by unfold maxLen; omega) P.name (.slice P.pa P.params.length P.pcap) rfl rfl hnm ?_; intro w9 hm9 hg9 hz9)
       have hw3l : w.heap.size ≤ w3.heap.size := by omega
       have hbx9 : Below w.heap.size w w9 := below_kpK HBW.out hg9 hw3l
       have hcl9 : Cl w5 w9 := by
        obtain ⟨D, ⟨es, clock, hb, _⟩, _⟩ := HSM5.out
        exact Cl.of_kp hb hg9
       have HX9 := Lib.hid ((hg9.block w.heap.size (by have := lt_heap HX5.out; omega) (fun e => by have := Option.some.inj e; omega)).trans HX5.out)
       have HP9 : RowKit.Hid (PrdQ w9 w3.heap.size (k + 1) (predsK (ps.take (k + 1)))) := Lib.hid (by
        rw [HTK.out]
        refine ⟨_, hm9, fun s => ?_⟩
        rw [HSN.out HN0.out s]
        by_cases hs : s = P.name
        · rw [if_pos hs, if_pos hs]
         exact .inr ⟨P.pa, P.pcap, P.params, rfl, rfl, HDI5.out.cl hcl9⟩
        · rw [if_neg hs, if_neg hs]
         rcases HF5.out s with h | ⟨a', c', ds', g1, g2, g3⟩
         · exact .inl h
         · exact .inr ⟨a', c', ds', g1, g2, g3.cl hcl9⟩)
       clear hg9 hm9 hz9 hcl9 HSM5 HF5 HX5 HP5 HNB5 HDI5 HBW x0 x1 hbx
       go_wp2_with fail
       go_roundw
       case rel => exact ⟨k + 1, by go_num, by omega, Lib.hid (by rw [HTK.out]; exact HL2.out), HX9, HP9, hbx9⟩
       case measure => (try simp [intOf]); omega
      · have hz : q0 = (qr1, qre) := by rw [HQ2.out, hqq, if_neg hre, if_neg hre]
       have heb : (qre != 0) = true := by simp [hre]
       clear hqq hre
       subst hz
       go_wp2_with fail
       refine HCL.out.mono ?_
       rintro e w5 ⟨rfl, hb5⟩
       have hbx5 := hbx.trans ((box_then hb5).mono hbx.size)
       clear hb5 HCL c0 c1 c2 c3 c4 c5 c6 c7 x0 x1 x2 x3 x4 x5 x6 x7
       go_wp2_with fail
       go_ret2
       exact ⟨rfl, hbx5⟩
     · obtain rfl : k = ps.length := by omega
      have hq2 : q0 = T.fk (predsK ps) (ordD ds) := by rw [HQ2.out, HL.out, List.drop_length]; rfl
      have hPQ := HPQ.out
      rw [List.take_length] at hPQ
      replace HPQ := Lib.hid hPQ
      clear hPQ
      have HQX := Lib.hid hq2
      clear p0 p1
      obtain ⟨p0, p1, p2, p3, p4, p5, p6⟩ := pg_cells HX.out
      have HBX := Lib.hid hbx
      have hwsz : w.heap.size < wr.heap.size := lt_heap HX.out
      have hNl2 := HPQ.out.lt
      have HC3 := Lib.hid (HSC.out wr.drew w3.heap.size hbx.drew)
      have HB2 := Lib.hid (Below.refl wr.heap.size wr).drew
      clear hbx HX
      go_wp2_with fail
      go_region_held3 (fun wz => wz.cell? ⟨w.heap.size, 0, none⟩ = some (.slice da ds.length dc) ∧ wz.cell? ⟨w.heap.size, 2, none⟩ = some (.string T.op) ∧ wz.cell? ⟨w.heap.size, 3, none⟩ = some (.string T.name) ∧ wz.cell? ⟨w.heap.size, 4, none⟩ = some (.int .i64 T.n) ∧ wz.cell? ⟨w.heap.size, 5, none⟩ = some (.int .i64 T.pos) ∧ wz.cell? ⟨w.heap.size, 6, none⟩ = some (.slice T.a T.kids.len T.cap)) (go_keep) (first | (go_at_call 47; refine HC3.out.mono ?_; rintro e w4 ⟨M, nM, rfl, hM1, hM2, ho4, hb4⟩; replace p0 := cell_below (HB2.out.trans (hb4.mono HB2.out.size)) p0; replace p2 := cell_below (HB2.out.trans (hb4.mono HB2.out.size)) p2; replace p3 := cell_below (HB2.out.trans (hb4.mono HB2.out.size)) p3; replace p4 := cell_below (HB2.out.trans (hb4.mono HB2.out.size)) p4; replace p5 := cell_below (HB2.out.trans (hb4.mono HB2.out.size)) p5; replace p6 := cell_below (HB2.out.trans (hb4.mono HB2.out.size)) p6; have HW5 := Lib.hid (HBX.out.trans ((HB2.out.trans (hb4.mono HB2.out.size)).mono HBX.out.size)); have HC5 := Lib.hid (HFQ.out w4 M nM w3.heap.size _ ho4 (Nat.ne_of_lt (Nat.lt_of_lt_of_le hNl2 hM1)) hM2 HW5.out (HPQ.out.below (HB2.out.trans (hb4.mono HB2.out.size)))); have hM3 : w.heap.size ≤ M := Nat.le_trans (Nat.le_of_lt hwsz) hM1; have HCW := Lib.hid (fun w5 (h : Kp M w4 w5) => ho4.cl h); clear ho4 hb4) | (go_at_call 48; refine HC5.out.mono ?_; rintro e w5 ⟨rfl, hk5, m5, hm5, ho5⟩; have HW6 := Lib.hid (below_kpK HW5.out hk5 hM3); replace p0 := (HCW.out w5 hk5).cell _ _ p0; replace p2 := (HCW.out w5 hk5).cell _ _ p2; replace p3 := (HCW.out w5 hk5).cell _ _ p3; replace p4 := (HCW.out w5 hk5).cell _ _ p4; replace p5 := (HCW.out w5 hk5).cell _ _ p5; replace p6 := (HCW.out w5 hk5).cell _ _ p6; clear hk5 ho5))
      clear HCW HC5 HC3 HW5 HB2 HFQ HSC HBX p0 p2 p3 p4 p5 p6
      go_wp2_with fail
      go_ret2
      exact ⟨by rw [HQX.out]; rfl, HW6.out⟩
  · rw [if_neg hoe] at hqc
   have hob : (oe != 0) = true := by simp [hoe]
   subst hqc
   clear hoe HQC
   go_wp2_with fail
   go_ret2
   exact ⟨rfl, HW3.out⟩
 · rw [if_neg (by rw [hok]; decide)] at hqc
  rw [hok] at HC1
  clear hq0 hok
  subst hqc
  go_enter Tryz.func17, Tryz.ntmps17
  go_wp2_with fail
  refine HC1.out.mono ?_
  rintro e w2 ⟨rfl, hb2⟩
  have hbb := HW.out.trans (hb2.mono HW.out.size)
  clear hb2 HC1
  go_wp2_with fail
  go_ret2
  exact ⟨rfl, hbb⟩
end Go.Proofs.YtmpcmpeloebnhaaGreatDoor
namespace Go.Proofs.YtmpcmpeloebnhaaGreatDoor
open Go.RowKit
theorem ris_g (l : List Tok) (x : ByteArray) (w : World) (B : Nat) (hx : (x.toList == []) = false) (h : PrS w B (.good l)) : Calls Tryz.prog 26 #[.pointer (some ⟨B, 0, none⟩), .string x] w fun e w' => e = .returned (.bool ((wrd l).toList == x.toList)) ∧ Below w.heap.size w w' := by
 rcases bool_two ((wrd l).toList == x.toList) with hb | hb
 · rw [hb]; exact ris_yes l x w B hx hb h
 · rw [hb]; exact ris_no l x w B hb h
theorem word_kind {l : List Tok} {x : ByteArray} (h : ((wrd l).toList == x.toList) = true) (hx : (x.toList == []) = false) : ((hd l).kind == 4) = false := by
 have := (wrd_yes h hx).1
 have h3 : (hd l).kind = 3 := by simpa using this
 rw [h3]; rfl
set_option maxRecDepth 100000 in
set_option maxHeartbeats 4000000 in
theorem rtake_yes (l : List Tok) (x : ByteArray) (w : World) (B : Nat) (hx : (x.toList == []) = false) (hw : ((wrd l).toList == x.toList) = true) (h : PrS w B (.good l)) : Calls Tryz.prog 72 #[.pointer (some ⟨B, 0, none⟩), .string x] w fun e w' => e = .returned (.bool true) ∧ Kp B w w' ∧ PrS w' B (.good l.tail) := by
 have hk := word_kind hw hx
 have HC := Lib.hid (ris_yes l x w B hx hw h)
 have HS := Lib.hid h
 clear h hw hx
 go_enter Tryz.func72, Tryz.ntmps72
 go_wp2_with fail
 refine HC.out.mono ?_
 rintro e w2 ⟨rfl, hb2⟩
 have HN := Lib.hid (rnext_g l w2 B hk (HS.out.below hb2))
 have HK := Lib.hid (Kp.of_below (B := B) hb2)
 clear hb2 HC
 go_wp2_with fail
 refine HN.out.mono ?_
 rintro e w3 ⟨rfl, hk3, hs3⟩
 have HZ := Lib.hid (And.intro (HK.out.trans hk3) hs3)
 clear hk3 hs3 HN HK
 go_wp2_with fail
 go_ret
 exact ⟨rfl, HZ.out⟩
set_option maxRecDepth 100000 in
set_option maxHeartbeats 4000000 in
theorem rtake_no (l : List Tok) (x : ByteArray) (w : World) (B : Nat) (hw : ((wrd l).toList == x.toList) = false) (h : PrS w B (.good l)) : Calls Tryz.prog 72 #[.pointer (some ⟨B, 0, none⟩), .string x] w fun e w' => e = .returned (.bool false) ∧ Kp B w w' ∧ PrS w' B (.good l) := by
 have HC := Lib.hid (ris_no l x w B hw h)
 have HS := Lib.hid h
 clear h hw
 go_enter Tryz.func72, Tryz.ntmps72
 go_wp2_with fail
 refine HC.out.mono ?_
 rintro e w2 ⟨rfl, hb2⟩
 have HZ := Lib.hid (And.intro (Kp.of_below (B := B) hb2) (HS.out.below hb2))
 clear hb2 HC
 go_wp2_with fail
 go_ret
 exact ⟨rfl, HZ.out⟩
set_option maxRecDepth 100000 in
set_option maxHeartbeats 4000000 in
theorem rtake_b (x : ByteArray) (w : World) (B : Nat) (p e : Int) (h : PrS w B (.bad p e)) : Calls Tryz.prog 72 #[.pointer (some ⟨B, 0, none⟩), .string x] w fun y w' => y = .returned (.bool false) ∧ Kp B w w' ∧ PrS w' B (.bad p e) := by
 have HC := Lib.hid (ris_b x w B p e h)
 have HS := Lib.hid h
 clear h
 go_enter Tryz.func72, Tryz.ntmps72
 go_wp2_with fail
 refine HC.out.mono ?_
 rintro e1 w2 ⟨rfl, hb2⟩
 have HZ := Lib.hid (And.intro (Kp.of_below (B := B) hb2) (HS.out.below hb2))
 clear hb2 HC
 go_wp2_with fail
 go_ret
 exact ⟨rfl, HZ.out⟩
set_option maxRecDepth 100000 in
set_option maxHeartbeats 4000000 in
theorem rmust_yes (l : List Tok) (x : ByteArray) (w : World) (B : Nat) (hx : (x.toList == []) = false) (hw : ((wrd l).toList == x.toList) = true) (h : PrS w B (.good l)) : Calls Tryz.prog 31 #[.pointer (some ⟨B, 0, none⟩), .string x] w fun e w' => e = .returned (.tuple #[]) ∧ Kp B w w' ∧ PrS w' B (.good l.tail) := by
 have HC := Lib.hid (rtake_yes l x w B hx hw h)
 clear h hw hx
 go_enter Tryz.func31, Tryz.ntmps31
 go_wp2_with fail
 refine HC.out.mono ?_
 rintro e w2 ⟨rfl, hk2, hs2⟩
 have HZ := Lib.hid (And.intro hk2 hs2)
 clear hk2 hs2 HC
 go_wp2_with fail
 go_end0
 exact ⟨rfl, HZ.out⟩
set_option maxRecDepth 100000 in
set_option maxHeartbeats 4000000 in
theorem rmust_no (l : List Tok) (x : ByteArray) (w : World) (B : Nat) (hw : ((wrd l).toList == x.toList) = false) (h : PrS w B (.good l)) : Calls Tryz.prog 31 #[.pointer (some ⟨B, 0, none⟩), .string x] w fun e w' => e = .returned (.tuple #[]) ∧ Kp B w w' ∧ PrS w' B (.bad (hd l).pos 2) := by
 have HC := Lib.hid (rtake_no l x w B hw h)
 have f3 := tok_f3
 clear h hw
 go_enter Tryz.func31, Tryz.ntmps31
 go_wp2_with fail
 refine HC.out.mono ?_
 rintro e w2 ⟨rfl, hk2, hs2⟩
 have HN := Lib.hid (rnow_g l w2 B hs2)
 have HK := Lib.hid hk2
 have HS := Lib.hid hs2
 clear hk2 hs2 HC
 go_wp2_with fail
 refine HN.out.mono ?_
 rintro e w3 ⟨rfl, hb3⟩
 have HF := Lib.hid (rfail_g l (hd l).pos 2 w3 B rfl (HS.out.below hb3))
 have HK3 := Lib.hid (HK.out.below hb3)
 clear hb3 HN HK HS
 go_wp2_with fail
 refine HF.out.mono ?_
 rintro e w4 ⟨rfl, hk4, hs4⟩
 have HZ := Lib.hid (And.intro (HK3.out.trans hk4) hs4)
 clear hk4 hs4 HF HK3
 go_wp2_with fail
 go_end0
 exact ⟨rfl, HZ.out⟩
set_option maxRecDepth 100000 in
set_option maxHeartbeats 4000000 in
theorem rmust_b (x : ByteArray) (w : World) (B : Nat) (p e : Int) (h : PrS w B (.bad p e)) : Calls Tryz.prog 31 #[.pointer (some ⟨B, 0, none⟩), .string x] w fun y w' => y = .returned (.tuple #[]) ∧ Kp B w w' ∧ PrS w' B (.bad p e) := by
 have HC := Lib.hid (rtake_b x w B p e h)
 have f3 := tok_f3
 clear h
 go_enter Tryz.func31, Tryz.ntmps31
 go_wp2_with fail
 refine HC.out.mono ?_
 rintro e1 w2 ⟨rfl, hk2, hs2⟩
 have HN := Lib.hid (rnow_b w2 B p e hs2)
 have HK := Lib.hid hk2
 have HS := Lib.hid hs2
 clear hk2 hs2 HC
 go_wp2_with fail
 refine HN.out.mono ?_
 rintro e1 w3 ⟨rfl, hb3⟩
 have HF := Lib.hid (rfail_b 0 2 p e w3 B (HS.out.below hb3))
 have HK3 := Lib.hid (HK.out.below hb3)
 clear hb3 HN HK HS
 go_wp2_with fail
 refine HF.out.mono ?_
 rintro e1 w4 ⟨rfl, hk4, hs4⟩
 have HZ := Lib.hid (And.intro (HK3.out.trans hk4) hs4)
 clear hk4 hs4 HF HK3
 go_wp2_with fail
 go_end0
 exact ⟨rfl, HZ.out⟩
set_option maxRecDepth 100000 in
set_option maxHeartbeats 4000000 in
theorem rname_yes (l : List Tok) (w : World) (B : Nat) (hk : ((hd l).kind == 1) = true) (h : PrS w B (.good l)) : Calls Tryz.prog 70 #[.pointer (some ⟨B, 0, none⟩)] w fun e w' => e = .returned (tokVal (hd l)) ∧ Kp B w w' ∧ PrS w' B (.good l.tail) := by
  have hc4 := cellsTok
  have f0 := tok_f0
  have hB := h.lt
  have hk4 : ((hd l).kind == 4) = false := by have : (hd l).kind = 1 := by simpa using hk
                                              rw [this]; rfl
  have HC := Lib.hid (rnow_g l (w.alloc (tokBox 0 ⟨#[]⟩ 0 0)) B (h.alloc _))
  have HS := Lib.hid (h.alloc (tokBox 0 ⟨#[]⟩ 0 0))
  have HN := Lib.hid (new_at w (tokBox 0 ⟨#[]⟩ 0 0))
  have HK4 := Lib.hid hk4
  clear h hk4
  go_enter Tryz.func70, Tryz.ntmps70
  go_wp2_with fail
  refine HC.out.mono ?_
  rintro e w2 ⟨rfl, hb2⟩
  have HX := Lib.hid (rnext_g l w2 B HK4.out (HS.out.below hb2))
  have HN2 : Hid (w2.heap[w.heap.size]? = some (tokBox 0 ⟨#[]⟩ 0 0)) := Lib.hid ((hb2.block _ (by simp)).trans HN.out)
  have HK := Lib.hid (Kp.of_below (B := B) (box_then hb2))
  clear hb2 HC HS
  go_wp2_with fail
  refine HX.out.mono ?_
  rintro e w3 ⟨rfl, hk3, hs3⟩
  have HN3 := Lib.hid ((hk3.block _ (lt_heap HN2.out) (by simp; omega)).trans HN2.out)
  obtain ⟨⟨r0, r1, r2, r3⟩, s0, s1, s2, s3⟩ := tok_cells HN3.out
  have HK3 := Lib.hid (HK.out.trans hk3)
  have HS3 := Lib.hid hs3
  clear hk3 hs3 HX HK
  go_wp2_with fail
  have hT := tok_set HN3.out (hd l).kind (hd l).n (hd l).pos (hd l).text
  refine ret_tok Tryz.results70 rfl rfl hT ⟨rfl, ((((HK3.out.set (Nat.le_refl _) _).set (Nat.le_refl _) _).set (Nat.le_refl _) _).set (Nat.le_refl _) _), ?_⟩
  exact HS3.out.same fun g hg => set4_other (by omega) _ _ _ _
set_option maxRecDepth 100000 in
set_option maxHeartbeats 4000000 in
theorem rname_no (l : List Tok) (w : World) (B : Nat) (hk : ((hd l).kind == 1) = false) (h : PrS w B (.good l)) : Calls Tryz.prog 70 #[.pointer (some ⟨B, 0, none⟩)] w fun e w' => e = .returned (tokVal ⟨0, ⟨#[]⟩, 0, 0⟩) ∧ Kp B w w' ∧ PrS w' B (.bad (hd l).pos 2) := by
 have hc4 := cellsTok
 have f0 := tok_f0
 have f3 := tok_f3
 have hB := h.lt
 have HC := Lib.hid (rnow_g l (w.alloc (tokBox 0 ⟨#[]⟩ 0 0)) B (h.alloc _))
 have HS := Lib.hid (h.alloc (tokBox 0 ⟨#[]⟩ 0 0))
 have HN := Lib.hid (new_at w (tokBox 0 ⟨#[]⟩ 0 0))
 clear h
 go_enter Tryz.func70, Tryz.ntmps70
 go_wp2_with fail
 refine HC.out.mono ?_
 rintro e w2 ⟨rfl, hb2⟩
 have HX := Lib.hid (rnow_g l w2 B (HS.out.below hb2))
 have HN2 : Hid (w2.heap[w.heap.size]? = some (tokBox 0 ⟨#[]⟩ 0 0)) := Lib.hid ((hb2.block _ (by simp)).trans HN.out)
 have HK := Lib.hid (Kp.of_below (B := B) (box_then hb2))
 have HS2 := Lib.hid (HS.out.below hb2)
 clear hb2 HC HS
 go_wp2_with fail
 refine HX.out.mono ?_
 rintro e w3 ⟨rfl, hb3⟩
 have HF := Lib.hid (rfail_g l (hd l).pos 2 w3 B rfl (HS2.out.below hb3))
 have HN3 := Lib.hid ((hb3.block _ (lt_heap HN2.out)).trans HN2.out)
 have HK3 := Lib.hid (HK.out.below hb3)
 clear hb3 HX HK HS2
 go_wp2_with fail
 refine HF.out.mono ?_
 rintro e w4 ⟨rfl, hk4, hs4⟩
 have HN4 := Lib.hid ((hk4.block _ (lt_heap HN3.out) (by simp; omega)).trans HN3.out)
 obtain ⟨⟨r0, r1, r2, r3⟩, s0, s1, s2, s3⟩ := tok_cells HN4.out
 have HK4 := Lib.hid (HK3.out.trans hk4)
 have HS4 := Lib.hid hs4
 clear hk4 hs4 HF HK3
 go_wp2_with fail
 have hT := tok_set HN4.out 0 0 0 ⟨#[]⟩
 refine ret_tok Tryz.results70 rfl rfl hT ⟨rfl, ((((HK4.out.set (Nat.le_refl _) _).set (Nat.le_refl _) _).set (Nat.le_refl _) _).set (Nat.le_refl _) _), ?_⟩
 exact HS4.out.same fun g hg => set4_other (by omega) _ _ _ _
set_option maxRecDepth 100000 in
set_option maxHeartbeats 4000000 in
theorem rname_b (w : World) (B : Nat) (p q : Int) (h : PrS w B (.bad p q)) : Calls Tryz.prog 70 #[.pointer (some ⟨B, 0, none⟩)] w fun e w' => e = .returned (tokVal ⟨0, ⟨#[]⟩, 0, 0⟩) ∧ Kp B w w' ∧ PrS w' B (.bad p q) := by
 have hc4 := cellsTok
 have f0 := tok_f0
 have f3 := tok_f3
 have hB := h.lt
 have HC := Lib.hid (rnow_b (w.alloc (tokBox 0 ⟨#[]⟩ 0 0)) B p q (h.alloc _))
 have HS := Lib.hid (h.alloc (tokBox 0 ⟨#[]⟩ 0 0))
 have HN := Lib.hid (new_at w (tokBox 0 ⟨#[]⟩ 0 0))
 clear h
 go_enter Tryz.func70, Tryz.ntmps70
 go_wp2_with fail
 refine HC.out.mono ?_
 rintro e w2 ⟨rfl, hb2⟩
 have HX := Lib.hid (rnow_b w2 B p q (HS.out.below hb2))
 have HN2 : Hid (w2.heap[w.heap.size]? = some (tokBox 0 ⟨#[]⟩ 0 0)) := Lib.hid ((hb2.block _ (by simp)).trans HN.out)
 have HK := Lib.hid (Kp.of_below (B := B) (box_then hb2))
 have HS2 := Lib.hid (HS.out.below hb2)
 clear hb2 HC HS
 go_wp2_with fail
 refine HX.out.mono ?_
 rintro e w3 ⟨rfl, hb3⟩
 have HF := Lib.hid (rfail_b 0 2 p q w3 B (HS2.out.below hb3))
 have HN3 := Lib.hid ((hb3.block _ (lt_heap HN2.out)).trans HN2.out)
 have HK3 := Lib.hid (HK.out.below hb3)
 clear hb3 HX HK HS2
 go_wp2_with fail
 refine HF.out.mono ?_
 rintro e w4 ⟨rfl, hk4, hs4⟩
 have HN4 := Lib.hid ((hk4.block _ (lt_heap HN3.out) (by simp; omega)).trans HN3.out)
 obtain ⟨⟨r0, r1, r2, r3⟩, s0, s1, s2, s3⟩ := tok_cells HN4.out
 have HK4 := Lib.hid (HK3.out.trans hk4)
 have HS4 := Lib.hid hs4
 clear hk4 hs4 HF HK3
 go_wp2_with fail
 have hT := tok_set HN4.out 0 0 0 ⟨#[]⟩
 refine ret_tok Tryz.results70 rfl rfl hT ⟨rfl, ((((HK4.out.set (Nat.le_refl _) _).set (Nat.le_refl _) _).set (Nat.le_refl _) _).set (Nat.le_refl _) _), ?_⟩
 exact HS4.out.same fun g hg => set4_other (by omega) _ _ _ _
set_option maxRecDepth 100000 in
set_option maxHeartbeats 4000000 in
theorem renter_ok (l : List Tok) (d : Nat) (w : World) (B : Nat) (hd' : (d : Int) < 30) (h : PrS w B (.good l)) : Calls Tryz.prog 73 #[.pointer (some ⟨B, 0, none⟩), .int .i64 d] w fun e w' => e = .returned (.bool true) ∧ Kp B w w' ∧ PrS w' B (.good l) := by
 have hB := h.lt
 have HS := Lib.hid h
 obtain ⟨a, L, cap, i, h1, _⟩ := h
 obtain ⟨⟨k0, k1, k2, k3⟩, _⟩ := h1.cells
 have hd2 : ¬ (30 : Int) ≤ (d : Int) := by omega
 clear h1
 go_enter Tryz.func73, Tryz.ntmps73
 go_wp2_with fail
 go_ret
 exact ⟨rfl, Kp.refl _ _, HS.out⟩
set_option maxRecDepth 100000 in
set_option maxHeartbeats 4000000 in
theorem renter_deep (l : List Tok) (d : Nat) (w : World) (B : Nat) (hd' : ¬ (d : Int) < 30) (h : PrS w B (.good l)) : Calls Tryz.prog 73 #[.pointer (some ⟨B, 0, none⟩), .int .i64 d] w fun e w' => e = .returned (.bool false) ∧ Kp B w w' ∧ PrS w' B (.bad (hd l).pos 4) := by
 have hB := h.lt
 have f3 := tok_f3
 have HS := Lib.hid h
 have HN := Lib.hid (rnow_g l w B h)
 have hd2 : (30 : Int) ≤ (d : Int) := by omega
 clear h
 go_enter Tryz.func73, Tryz.ntmps73
 go_wp2_with fail
 refine HN.out.mono ?_
 rintro e w2 ⟨rfl, hb2⟩
 have HF := Lib.hid (rfail_g l (hd l).pos 4 w2 B rfl (HS.out.below hb2))
 have HK := Lib.hid (Kp.of_below (B := B) hb2)
 clear hb2 HN HS
 go_wp2_with fail
 refine HF.out.mono ?_
 rintro e w3 ⟨rfl, hk3, hs3⟩
 have HS3 := Lib.hid hs3
 obtain ⟨a, len, cap, i, h1, he⟩ := hs3
 obtain ⟨⟨k0, k1, k2, k3⟩, _⟩ := h1.cells
 have HK3 := Lib.hid (HK.out.trans hk3)
 clear hk3 HF HK h1
 go_wp2_with fail
 go_ret
 exact ⟨rfl, HK3.out, HS3.out⟩
set_option maxRecDepth 100000 in
set_option maxHeartbeats 4000000 in
theorem renter_b (d : Nat) (w : World) (B : Nat) (p q : Int) (h : PrS w B (.bad p q)) : Calls Tryz.prog 73 #[.pointer (some ⟨B, 0, none⟩), .int .i64 d] w fun e w' => e = .returned (.bool false) ∧ Kp B w w' ∧ PrS w' B (.bad p q) := by
 have hB := h.lt
 have f3 := tok_f3
 have HS := Lib.hid h
 by_cases hd2 : (30 : Int) ≤ (d : Int)
 · have HN := Lib.hid (rnow_b w B p q h)
  clear h
  go_enter Tryz.func73, Tryz.ntmps73
  go_wp2_with fail
  refine HN.out.mono ?_
  rintro e w2 ⟨rfl, hb2⟩
  have HF := Lib.hid (rfail_b 0 4 p q w2 B (HS.out.below hb2))
  have HK := Lib.hid (Kp.of_below (B := B) hb2)
  clear hb2 HN HS
  go_wp2_with fail
  refine HF.out.mono ?_
  rintro e w3 ⟨rfl, hk3, hs3⟩
  have HS3 := Lib.hid hs3
  obtain ⟨a, len, cap, i, h1, he⟩ := hs3
  obtain ⟨⟨k0, k1, k2, k3⟩, _⟩ := h1.cells
  have HK3 := Lib.hid (HK.out.trans hk3)
  clear hk3 HF HK h1
  go_wp2_with fail
  go_ret
  exact ⟨rfl, HK3.out, HS3.out⟩
 · obtain ⟨a, len, cap, i, h1, he⟩ := h
  obtain ⟨⟨k0, k1, k2, k3⟩, _⟩ := h1.cells
  clear h1
  go_enter Tryz.func73, Tryz.ntmps73
  go_wp2_with fail
  go_ret
  exact ⟨rfl, Kp.refl _ _, HS.out⟩
end Go.Proofs.YtmpcmpeloebnhaaGreatDoor
namespace Go.Proofs.YtmpcmpeloebnhaaGreatDoor
open Go.RowKit
def ordOf (pre : List UInt8) (l : List Tok) : Int := if (wrd l).toList == pre ++ [48] then 0 else if (wrd l).toList == pre ++ [49] then 1 else if (wrd l).toList == pre ++ [50] then 2 else -1
theorem conv_k (w : World) (c : UInt8) : (convert 107 9 (.slice (some ⟨w.heap.size, 0, none⟩) 1 1)).run Tryz.prog (w.alloc (.cells #[.int .u8 (c.toNat : Int)] 5)) = .ok (.string ⟨#[c]⟩) (w.alloc (.cells #[.int .u8 (c.toNat : Int)] 5)) :=
 run_convert_bytes_back _ 107 9 5 ⟨w.heap.size, 0, none⟩ 1 [c] Tryz.underlying107 Tryz.underlying5 Tryz.underlying9 (fun j hj => by
  obtain rfl : j = 0 := by simpa using hj
  simp [Addr.add])
set_option maxRecDepth 100000 in
set_option maxHeartbeats 4000000 in
theorem rord_ex_g (l : List Tok) (w : World) (B : Nat) (h : PrS w B (.good l)) : Calls Tryz.prog 27 #[.pointer (some ⟨B, 0, none⟩), .string ⟨#[101, 120]⟩] w fun y w' => y = .returned (.int .i64 (ordOf [101, 120] l)) ∧ Below w.heap.size w w' := by
 have HS := Lib.hid h
 clear h
 obtain ⟨r, hr⟩ : ∃ r, r = ordOf [101, 120] l := ⟨_, rfl⟩
 rw [← hr]
 have HR := Lib.hid hr
 clear hr
 go_enter Tryz.func27, Tryz.ntmps27
 go_wp2
 go_loopw [5] (fun i wr => ∃ k : Int, i = .int .i64 k ∧ (0 ≤ k ∧ k ≤ 3) ∧ Hid (r = (if (wrd l).toList == [101, 120] ++ [48] && decide (k ≤ 0) then 0 else if (wrd l).toList == [101, 120] ++ [49] && decide (k ≤ 1) then 1 else if (wrd l).toList == [101, 120] ++ [50] && decide (k ≤ 2) then 2 else -1)) ∧ Hid (Below w.heap.size w wr)) (fun i _ => 3 - (intOf i).toNat)
 case atStart => exact ⟨0, rfl, ⟨by omega, by omega⟩, Lib.hid (by rw [HR.out]; unfold ordOf; simp), Lib.hid (Below.refl _ _)⟩
 case round =>
  obtain ⟨k, rfl, ⟨hk0, hk⟩, HE, HB⟩ := hrel
  have hcs : k = 0 ∨ k = 1 ∨ k = 2 ∨ k = 3 := by omega
  clear hk hk0
  rcases hcs with rfl | rfl | rfl | rfl
  · have hcv : (convert 107 9 (.slice (some ⟨wr.heap.size, 0, none⟩) 1 1)).run Tryz.prog (wr.alloc (.cells #[.int .u8 48] 5)) = .ok (.string ⟨#[48]⟩) (wr.alloc (.cells #[.int .u8 48] 5)) := conv_k wr 48
   have hx : ((⟨#[101, 120]⟩ ++ ⟨#[48]⟩ : ByteArray).toList == []) = false := by decide +kernel
   have hw2 : (⟨#[101, 120]⟩ ++ ⟨#[48]⟩ : ByteArray).toList = [101, 120] ++ [48] := by decide +kernel
   have HC := Lib.hid (ris_g l (⟨#[101, 120]⟩ ++ ⟨#[48]⟩ : ByteArray) (wr.alloc (.cells #[.int .u8 48] 5)) B hx ((HS.out.below HB.out).alloc _))
   rw [hw2] at HC
   have he := HE.out
   generalize hq : ((wrd l).toList == [101, 120] ++ [48]) = q at HC he
   cases q with
   | true =>
    have hr : r = 0 := by rw [he]; simp
    subst hr
    clear HE he hq hx hw2
    go_wp2_with fail
    refine HC.out.mono ?_
    rintro e2 w2 ⟨rfl, hb2⟩
    have hbb := HB.out.trans ((box_then hb2).mono HB.out.size)
    clear hb2 HC HB
    go_wp2_with fail
    go_ret
    exact ⟨rfl, hbb⟩
   | false =>
    have HE2 := Lib.hid (show r = _ from he)
    clear HE he hx hw2
    go_wp2_with fail
    refine HC.out.mono ?_
    rintro e2 w2 ⟨rfl, hb2⟩
    have HB2 := Lib.hid (HB.out.trans ((box_then hb2).mono HB.out.size))
    clear hb2 HC HB
    go_wp2_with fail
    go_roundw
    case rel => exact ⟨1, rfl, ⟨by omega, by omega⟩, Lib.hid (by rw [HE2.out]; simp), HB2⟩
    case measure => (try simp [intOf]); try omega
  · have hcv : (convert 107 9 (.slice (some ⟨wr.heap.size, 0, none⟩) 1 1)).run Tryz.prog (wr.alloc (.cells #[.int .u8 49] 5)) = .ok (.string ⟨#[49]⟩) (wr.alloc (.cells #[.int .u8 49] 5)) := conv_k wr 49
   have hx : ((⟨#[101, 120]⟩ ++ ⟨#[49]⟩ : ByteArray).toList == []) = false := by decide +kernel
   have hw2 : (⟨#[101, 120]⟩ ++ ⟨#[49]⟩ : ByteArray).toList = [101, 120] ++ [49] := by decide +kernel
   have HC := Lib.hid (ris_g l (⟨#[101, 120]⟩ ++ ⟨#[49]⟩ : ByteArray) (wr.alloc (.cells #[.int .u8 49] 5)) B hx ((HS.out.below HB.out).alloc _))
   rw [hw2] at HC
   have he := HE.out
   generalize hq : ((wrd l).toList == [101, 120] ++ [49]) = q at HC he
   cases q with
   | true =>
    have hr : r = 1 := by rw [he]; simp
    subst hr
    clear HE he hq hx hw2
    go_wp2_with fail
    refine HC.out.mono ?_
    rintro e2 w2 ⟨rfl, hb2⟩
    have hbb := HB.out.trans ((box_then hb2).mono HB.out.size)
    clear hb2 HC HB
    go_wp2_with fail
    go_ret
    exact ⟨rfl, hbb⟩
   | false =>
    have HE2 := Lib.hid (show r = _ from he)
    clear HE he hx hw2
    go_wp2_with fail
    refine HC.out.mono ?_
    rintro e2 w2 ⟨rfl, hb2⟩
    have HB2 := Lib.hid (HB.out.trans ((box_then hb2).mono HB.out.size))
    clear hb2 HC HB
    go_wp2_with fail
    go_roundw
    case rel => exact ⟨2, rfl, ⟨by omega, by omega⟩, Lib.hid (by rw [HE2.out]; simp), HB2⟩
    case measure => (try simp [intOf]); try omega
  · have hcv : (convert 107 9 (.slice (some ⟨wr.heap.size, 0, none⟩) 1 1)).run Tryz.prog (wr.alloc (.cells #[.int .u8 50] 5)) = .ok (.string ⟨#[50]⟩) (wr.alloc (.cells #[.int .u8 50] 5)) := conv_k wr 50
   have hx : ((⟨#[101, 120]⟩ ++ ⟨#[50]⟩ : ByteArray).toList == []) = false := by decide +kernel
   have hw2 : (⟨#[101, 120]⟩ ++ ⟨#[50]⟩ : ByteArray).toList = [101, 120] ++ [50] := by decide +kernel
   have HC := Lib.hid (ris_g l (⟨#[101, 120]⟩ ++ ⟨#[50]⟩ : ByteArray) (wr.alloc (.cells #[.int .u8 50] 5)) B hx ((HS.out.below HB.out).alloc _))
   rw [hw2] at HC
   have he := HE.out
   generalize hq : ((wrd l).toList == [101, 120] ++ [50]) = q at HC he
   cases q with
   | true =>
    have hr : r = 2 := by rw [he]; simp
    subst hr
    clear HE he hq hx hw2
    go_wp2_with fail
    refine HC.out.mono ?_
    rintro e2 w2 ⟨rfl, hb2⟩
    have hbb := HB.out.trans ((box_then hb2).mono HB.out.size)
    clear hb2 HC HB
    go_wp2_with fail
    go_ret
    exact ⟨rfl, hbb⟩
   | false =>
    have HE2 := Lib.hid (show r = _ from he)
    clear HE he hx hw2
    go_wp2_with fail
    refine HC.out.mono ?_
    rintro e2 w2 ⟨rfl, hb2⟩
    have HB2 := Lib.hid (HB.out.trans ((box_then hb2).mono HB.out.size))
    clear hb2 HC HB
    go_wp2_with fail
    go_roundw
    case rel => exact ⟨3, rfl, ⟨by omega, by omega⟩, Lib.hid (by rw [HE2.out]; simp), HB2⟩
    case measure => (try simp [intOf]); try omega
  · have hr : r = -1 := by rw [HE.out]; simp
   subst hr
   clear HE
   go_wp2
   go_ret
   exact ⟨rfl, HB.out⟩
set_option maxRecDepth 100000 in
set_option maxHeartbeats 4000000 in
theorem rord_all_g (l : List Tok) (w : World) (B : Nat) (h : PrS w B (.good l)) : Calls Tryz.prog 27 #[.pointer (some ⟨B, 0, none⟩), .string ⟨#[97, 108, 108]⟩] w fun y w' => y = .returned (.int .i64 (ordOf [97, 108, 108] l)) ∧ Below w.heap.size w w' := by
 have HS := Lib.hid h
 clear h
 obtain ⟨r, hr⟩ : ∃ r, r = ordOf [97, 108, 108] l := ⟨_, rfl⟩
 rw [← hr]
 have HR := Lib.hid hr
 clear hr
 go_enter Tryz.func27, Tryz.ntmps27
 go_wp2
 go_loopw [5] (fun i wr => ∃ k : Int, i = .int .i64 k ∧ (0 ≤ k ∧ k ≤ 3) ∧ Hid (r = (if (wrd l).toList == [97, 108, 108] ++ [48] && decide (k ≤ 0) then 0 else if (wrd l).toList == [97, 108, 108] ++ [49] && decide (k ≤ 1) then 1 else if (wrd l).toList == [97, 108, 108] ++ [50] && decide (k ≤ 2) then 2 else -1)) ∧ Hid (Below w.heap.size w wr)) (fun i _ => 3 - (intOf i).toNat)
 case atStart => exact ⟨0, rfl, ⟨by omega, by omega⟩, Lib.hid (by rw [HR.out]; unfold ordOf; simp), Lib.hid (Below.refl _ _)⟩
 case round =>
  obtain ⟨k, rfl, ⟨hk0, hk⟩, HE, HB⟩ := hrel
  have hcs : k = 0 ∨ k = 1 ∨ k = 2 ∨ k = 3 := by omega
  clear hk hk0
  rcases hcs with rfl | rfl | rfl | rfl
  · have hcv : (convert 107 9 (.slice (some ⟨wr.heap.size, 0, none⟩) 1 1)).run Tryz.prog (wr.alloc (.cells #[.int .u8 48] 5)) = .ok (.string ⟨#[48]⟩) (wr.alloc (.cells #[.int .u8 48] 5)) := conv_k wr 48
   have hx : ((⟨#[97, 108, 108]⟩ ++ ⟨#[48]⟩ : ByteArray).toList == []) = false := by decide +kernel
   have hw2 : (⟨#[97, 108, 108]⟩ ++ ⟨#[48]⟩ : ByteArray).toList = [97, 108, 108] ++ [48] := by decide +kernel
   have HC := Lib.hid (ris_g l (⟨#[97, 108, 108]⟩ ++ ⟨#[48]⟩ : ByteArray) (wr.alloc (.cells #[.int .u8 48] 5)) B hx ((HS.out.below HB.out).alloc _))
   rw [hw2] at HC
   have he := HE.out
   generalize hq : ((wrd l).toList == [97, 108, 108] ++ [48]) = q at HC he
   cases q with
   | true =>
    have hr : r = 0 := by rw [he]; simp
    subst hr
    clear HE he hq hx hw2
    go_wp2_with fail
    refine HC.out.mono ?_
    rintro e2 w2 ⟨rfl, hb2⟩
    have hbb := HB.out.trans ((box_then hb2).mono HB.out.size)
    clear hb2 HC HB
    go_wp2_with fail
    go_ret
    exact ⟨rfl, hbb⟩
   | false =>
    have HE2 := Lib.hid (show r = _ from he)
    clear HE he hx hw2
    go_wp2_with fail
    refine HC.out.mono ?_
    rintro e2 w2 ⟨rfl, hb2⟩
    have HB2 := Lib.hid (HB.out.trans ((box_then hb2).mono HB.out.size))
    clear hb2 HC HB
    go_wp2_with fail
    go_roundw
    case rel => exact ⟨1, rfl, ⟨by omega, by omega⟩, Lib.hid (by rw [HE2.out]; simp), HB2⟩
    case measure => (try simp [intOf]); try omega
  · have hcv : (convert 107 9 (.slice (some ⟨wr.heap.size, 0, none⟩) 1 1)).run Tryz.prog (wr.alloc (.cells #[.int .u8 49] 5)) = .ok (.string ⟨#[49]⟩) (wr.alloc (.cells #[.int .u8 49] 5)) := conv_k wr 49
   have hx : ((⟨#[97, 108, 108]⟩ ++ ⟨#[49]⟩ : ByteArray).toList == []) = false := by decide +kernel
   have hw2 : (⟨#[97, 108, 108]⟩ ++ ⟨#[49]⟩ : ByteArray).toList = [97, 108, 108] ++ [49] := by decide +kernel
   have HC := Lib.hid (ris_g l (⟨#[97, 108, 108]⟩ ++ ⟨#[49]⟩ : ByteArray) (wr.alloc (.cells #[.int .u8 49] 5)) B hx ((HS.out.below HB.out).alloc _))
   rw [hw2] at HC
   have he := HE.out
   generalize hq : ((wrd l).toList == [97, 108, 108] ++ [49]) = q at HC he
   cases q with
   | true =>
    have hr : r = 1 := by rw [he]; simp
    subst hr
    clear HE he hq hx hw2
    go_wp2_with fail
    refine HC.out.mono ?_
    rintro e2 w2 ⟨rfl, hb2⟩
    have hbb := HB.out.trans ((box_then hb2).mono HB.out.size)
    clear hb2 HC HB
    go_wp2_with fail
    go_ret
    exact ⟨rfl, hbb⟩
   | false =>
    have HE2 := Lib.hid (show r = _ from he)
    clear HE he hx hw2
    go_wp2_with fail
    refine HC.out.mono ?_
    rintro e2 w2 ⟨rfl, hb2⟩
    have HB2 := Lib.hid (HB.out.trans ((box_then hb2).mono HB.out.size))
    clear hb2 HC HB
    go_wp2_with fail
    go_roundw
    case rel => exact ⟨2, rfl, ⟨by omega, by omega⟩, Lib.hid (by rw [HE2.out]; simp), HB2⟩
    case measure => (try simp [intOf]); try omega
  · have hcv : (convert 107 9 (.slice (some ⟨wr.heap.size, 0, none⟩) 1 1)).run Tryz.prog (wr.alloc (.cells #[.int .u8 50] 5)) = .ok (.string ⟨#[50]⟩) (wr.alloc (.cells #[.int .u8 50] 5)) := conv_k wr 50
   have hx : ((⟨#[97, 108, 108]⟩ ++ ⟨#[50]⟩ : ByteArray).toList == []) = false := by decide +kernel
   have hw2 : (⟨#[97, 108, 108]⟩ ++ ⟨#[50]⟩ : ByteArray).toList = [97, 108, 108] ++ [50] := by decide +kernel
   have HC := Lib.hid (ris_g l (⟨#[97, 108, 108]⟩ ++ ⟨#[50]⟩ : ByteArray) (wr.alloc (.cells #[.int .u8 50] 5)) B hx ((HS.out.below HB.out).alloc _))
   rw [hw2] at HC
   have he := HE.out
   generalize hq : ((wrd l).toList == [97, 108, 108] ++ [50]) = q at HC he
   cases q with
   | true =>
    have hr : r = 2 := by rw [he]; simp
    subst hr
    clear HE he hq hx hw2
    go_wp2_with fail
    refine HC.out.mono ?_
    rintro e2 w2 ⟨rfl, hb2⟩
    have hbb := HB.out.trans ((box_then hb2).mono HB.out.size)
    clear hb2 HC HB
    go_wp2_with fail
    go_ret
    exact ⟨rfl, hbb⟩
   | false =>
    have HE2 := Lib.hid (show r = _ from he)
    clear HE he hx hw2
    go_wp2_with fail
    refine HC.out.mono ?_
    rintro e2 w2 ⟨rfl, hb2⟩
    have HB2 := Lib.hid (HB.out.trans ((box_then hb2).mono HB.out.size))
    clear hb2 HC HB
    go_wp2_with fail
    go_roundw
    case rel => exact ⟨3, rfl, ⟨by omega, by omega⟩, Lib.hid (by rw [HE2.out]; simp), HB2⟩
    case measure => (try simp [intOf]); try omega
  · have hr : r = -1 := by rw [HE.out]; simp
   subst hr
   clear HE
   go_wp2
   go_ret
   exact ⟨rfl, HB.out⟩
set_option maxRecDepth 100000 in
set_option maxHeartbeats 4000000 in
theorem rord_var_g (l : List Tok) (w : World) (B : Nat) (h : PrS w B (.good l)) : Calls Tryz.prog 27 #[.pointer (some ⟨B, 0, none⟩), .string ⟨#[118, 97, 114]⟩] w fun y w' => y = .returned (.int .i64 (ordOf [118, 97, 114] l)) ∧ Below w.heap.size w w' := by
 have HS := Lib.hid h
 clear h
 obtain ⟨r, hr⟩ : ∃ r, r = ordOf [118, 97, 114] l := ⟨_, rfl⟩
 rw [← hr]
 have HR := Lib.hid hr
 clear hr
 go_enter Tryz.func27, Tryz.ntmps27
 go_wp2
 go_loopw [5] (fun i wr => ∃ k : Int, i = .int .i64 k ∧ (0 ≤ k ∧ k ≤ 3) ∧ Hid (r = (if (wrd l).toList == [118, 97, 114] ++ [48] && decide (k ≤ 0) then 0 else if (wrd l).toList == [118, 97, 114] ++ [49] && decide (k ≤ 1) then 1 else if (wrd l).toList == [118, 97, 114] ++ [50] && decide (k ≤ 2) then 2 else -1)) ∧ Hid (Below w.heap.size w wr)) (fun i _ => 3 - (intOf i).toNat)
 case atStart => exact ⟨0, rfl, ⟨by omega, by omega⟩, Lib.hid (by rw [HR.out]; unfold ordOf; simp), Lib.hid (Below.refl _ _)⟩
 case round =>
  obtain ⟨k, rfl, ⟨hk0, hk⟩, HE, HB⟩ := hrel
  have hcs : k = 0 ∨ k = 1 ∨ k = 2 ∨ k = 3 := by omega
  clear hk hk0
  rcases hcs with rfl | rfl | rfl | rfl
  · have hcv : (convert 107 9 (.slice (some ⟨wr.heap.size, 0, none⟩) 1 1)).run Tryz.prog (wr.alloc (.cells #[.int .u8 48] 5)) = .ok (.string ⟨#[48]⟩) (wr.alloc (.cells #[.int .u8 48] 5)) := conv_k wr 48
   have hx : ((⟨#[118, 97, 114]⟩ ++ ⟨#[48]⟩ : ByteArray).toList == []) = false := by decide +kernel
   have hw2 : (⟨#[118, 97, 114]⟩ ++ ⟨#[48]⟩ : ByteArray).toList = [118, 97, 114] ++ [48] := by decide +kernel
   have HC := Lib.hid (ris_g l (⟨#[118, 97, 114]⟩ ++ ⟨#[48]⟩ : ByteArray) (wr.alloc (.cells #[.int .u8 48] 5)) B hx ((HS.out.below HB.out).alloc _))
   rw [hw2] at HC
   have he := HE.out
   generalize hq : ((wrd l).toList == [118, 97, 114] ++ [48]) = q at HC he
   cases q with
   | true =>
    have hr : r = 0 := by rw [he]; simp
    subst hr
    clear HE he hq hx hw2
    go_wp2_with fail
    refine HC.out.mono ?_
    rintro e2 w2 ⟨rfl, hb2⟩
    have hbb := HB.out.trans ((box_then hb2).mono HB.out.size)
    clear hb2 HC HB
    go_wp2_with fail
    go_ret
    exact ⟨rfl, hbb⟩
   | false =>
    have HE2 := Lib.hid (show r = _ from he)
    clear HE he hx hw2
    go_wp2_with fail
    refine HC.out.mono ?_
    rintro e2 w2 ⟨rfl, hb2⟩
    have HB2 := Lib.hid (HB.out.trans ((box_then hb2).mono HB.out.size))
    clear hb2 HC HB
    go_wp2_with fail
    go_roundw
    case rel => exact ⟨1, rfl, ⟨by omega, by omega⟩, Lib.hid (by rw [HE2.out]; simp), HB2⟩
    case measure => (try simp [intOf]); try omega
  · have hcv : (convert 107 9 (.slice (some ⟨wr.heap.size, 0, none⟩) 1 1)).run Tryz.prog (wr.alloc (.cells #[.int .u8 49] 5)) = .ok (.string ⟨#[49]⟩) (wr.alloc (.cells #[.int .u8 49] 5)) := conv_k wr 49
   have hx : ((⟨#[118, 97, 114]⟩ ++ ⟨#[49]⟩ : ByteArray).toList == []) = false := by decide +kernel
   have hw2 : (⟨#[118, 97, 114]⟩ ++ ⟨#[49]⟩ : ByteArray).toList = [118, 97, 114] ++ [49] := by decide +kernel
   have HC := Lib.hid (ris_g l (⟨#[118, 97, 114]⟩ ++ ⟨#[49]⟩ : ByteArray) (wr.alloc (.cells #[.int .u8 49] 5)) B hx ((HS.out.below HB.out).alloc _))
   rw [hw2] at HC
   have he := HE.out
   generalize hq : ((wrd l).toList == [118, 97, 114] ++ [49]) = q at HC he
   cases q with
   | true =>
    have hr : r = 1 := by rw [he]; simp
    subst hr
    clear HE he hq hx hw2
    go_wp2_with fail
    refine HC.out.mono ?_
    rintro e2 w2 ⟨rfl, hb2⟩
    have hbb := HB.out.trans ((box_then hb2).mono HB.out.size)
    clear hb2 HC HB
    go_wp2_with fail
    go_ret
    exact ⟨rfl, hbb⟩
   | false =>
    have HE2 := Lib.hid (show r = _ from he)
    clear HE he hx hw2
    go_wp2_with fail
    refine HC.out.mono ?_
    rintro e2 w2 ⟨rfl, hb2⟩
    have HB2 := Lib.hid (HB.out.trans ((box_then hb2).mono HB.out.size))
    clear hb2 HC HB
    go_wp2_with fail
    go_roundw
    case rel => exact ⟨2, rfl, ⟨by omega, by omega⟩, Lib.hid (by rw [HE2.out]; simp), HB2⟩
    case measure => (try simp [intOf]); try omega
  · have hcv : (convert 107 9 (.slice (some ⟨wr.heap.size, 0, none⟩) 1 1)).run Tryz.prog (wr.alloc (.cells #[.int .u8 50] 5)) = .ok (.string ⟨#[50]⟩) (wr.alloc (.cells #[.int .u8 50] 5)) := conv_k wr 50
   have hx : ((⟨#[118, 97, 114]⟩ ++ ⟨#[50]⟩ : ByteArray).toList == []) = false := by decide +kernel
   have hw2 : (⟨#[118, 97, 114]⟩ ++ ⟨#[50]⟩ : ByteArray).toList = [118, 97, 114] ++ [50] := by decide +kernel
   have HC := Lib.hid (ris_g l (⟨#[118, 97, 114]⟩ ++ ⟨#[50]⟩ : ByteArray) (wr.alloc (.cells #[.int .u8 50] 5)) B hx ((HS.out.below HB.out).alloc _))
   rw [hw2] at HC
   have he := HE.out
   generalize hq : ((wrd l).toList == [118, 97, 114] ++ [50]) = q at HC he
   cases q with
   | true =>
    have hr : r = 2 := by rw [he]; simp
    subst hr
    clear HE he hq hx hw2
    go_wp2_with fail
    refine HC.out.mono ?_
    rintro e2 w2 ⟨rfl, hb2⟩
    have hbb := HB.out.trans ((box_then hb2).mono HB.out.size)
    clear hb2 HC HB
    go_wp2_with fail
    go_ret
    exact ⟨rfl, hbb⟩
   | false =>
    have HE2 := Lib.hid (show r = _ from he)
    clear HE he hx hw2
    go_wp2_with fail
    refine HC.out.mono ?_
    rintro e2 w2 ⟨rfl, hb2⟩
    have HB2 := Lib.hid (HB.out.trans ((box_then hb2).mono HB.out.size))
    clear hb2 HC HB
    go_wp2_with fail
    go_roundw
    case rel => exact ⟨3, rfl, ⟨by omega, by omega⟩, Lib.hid (by rw [HE2.out]; simp), HB2⟩
    case measure => (try simp [intOf]); try omega
  · have hr : r = -1 := by rw [HE.out]; simp
   subst hr
   clear HE
   go_wp2
   go_ret
   exact ⟨rfl, HB.out⟩
end Go.Proofs.YtmpcmpeloebnhaaGreatDoor
namespace Go.Proofs.YtmpcmpeloebnhaaGreatDoor
open Go.RowKit
abbrev relA : Array Value := #[.string ⟨#[61]⟩, .string ⟨#[126, 61]⟩, .string ⟨#[60]⟩, .string ⟨#[60, 61]⟩, .string ⟨#[105, 110]⟩, .string ⟨#[110, 111, 116, 105, 110]⟩, .string ⟨#[115, 117, 98]⟩]
abbrev relB : Array Value := #[.string ⟨#[101, 113]⟩, .string ⟨#[110, 101]⟩, .string ⟨#[108, 116]⟩, .string ⟨#[108, 101]⟩, .string ⟨#[105, 110]⟩, .string ⟨#[110, 111, 116, 105, 110]⟩, .string ⟨#[115, 117, 98]⟩]
set_option maxRecDepth 100000 in
set_option maxHeartbeats 4000000 in
theorem rrel_g (l : List Tok) (w : World) (B : Nat) (h : PrS w B (.good l)) : Calls Tryz.prog 164 #[.pointer (some ⟨B, 0, none⟩)] w fun y w' => y = .returned (.string (psg 4 (wrd l))) ∧ Below w.heap.size w w' := by
 have HS := Lib.hid h
 clear h
 obtain ⟨r, hr⟩ : ∃ r, r = psg 4 (wrd l) := ⟨_, rfl⟩
 rw [← hr]
 have HR : Hid (r = psgF 4 (wrd l) (psigs.drop 4)) := Lib.hid hr
 clear hr
 go_enter Tryz.func164, Tryz.ntmps164
 go_wp2
 go_loopw [5] (fun i wr => ∃ k : Nat, i = .int .i64 k ∧ k ≤ 7 ∧ Hid (r = psgF 4 (wrd l) (psigs.drop (4 + k))) ∧ Hid (wr.heap[w.heap.size]? = some (.cells relA 9)) ∧ Hid (wr.heap[w.heap.size + 1]? = some (.cells relB 9)) ∧ Hid (Below w.heap.size w wr)) (fun i _ => 7 - (intOf i).toNat)
 case atStart =>
  refine ⟨0, rfl, by omega, HR, Lib.hid ?_, Lib.hid (second_at w _ _), Lib.hid (two_boxes _ _ _)⟩
  rw [Below.heap_alloc _ _ _ (by simp)]
  exact new_at _ _
 case round =>
  obtain ⟨k, rfl, hk, HE, H1, H2, HB⟩ := hrel
  have hcs : k = 0 ∨ k = 1 ∨ k = 2 ∨ k = 3 ∨ k = 4 ∨ k = 5 ∨ k = 6 ∨ k = 7 := by omega
  clear hk
  rcases hcs with rfl | rfl | rfl | rfl | rfl | rfl | rfl | rfl
  · have c1 : wr.cell? ⟨w.heap.size, 0, none⟩ = some (.string ⟨#[61]⟩) := by rw [cell_of_row _ _ _ _ _ _ H1.out]; rfl
   have c2 : wr.cell? ⟨w.heap.size + 1, 0, none⟩ = some (.string ⟨#[101, 113]⟩) := by rw [cell_of_row _ _ _ _ _ _ H2.out]; rfl
   have he : r = if ((⟨#[61]⟩ : ByteArray).toList == (wrd l).toList) = true then ⟨#[101, 113]⟩ else psgF 4 (wrd l) (psigs.drop (4 + 1)) := HE.out
   rw [show ((⟨#[61]⟩ : ByteArray).toList == (wrd l).toList) = ((wrd l).toList == (⟨#[61]⟩ : ByteArray).toList) from BEq.comm] at he
   have HC := Lib.hid (ris_g l ⟨#[61]⟩ wr B (by decide +kernel) (HS.out.below HB.out))
   generalize ((wrd l).toList == (⟨#[61]⟩ : ByteArray).toList) = q at HC he
   cases q with
   | true =>
    rw [if_pos rfl] at he
    subst he
    clear HE
    go_wp2_with fail
    refine HC.out.mono ?_
    rintro e2 w2 ⟨rfl, hb2⟩
    have hbb := HB.out.trans (hb2.mono HB.out.size)
    have c3 : w2.cell? ⟨w.heap.size + 1, 0, none⟩ = some (.string ⟨#[101, 113]⟩) := cell_below hb2 c2
    clear hb2 HC HB c1 c2 H1 H2
    go_wp2_with fail
    go_ret
    exact ⟨rfl, hbb⟩
   | false =>
    rw [if_neg (by decide)] at he
    have HE2 := Lib.hid he
    clear HE he
    go_wp2_with fail
    refine HC.out.mono ?_
    rintro e2 w2 ⟨rfl, hb2⟩
    have HB2 := Lib.hid (HB.out.trans (hb2.mono HB.out.size))
    have H12 := Lib.hid ((hb2.block _ (lt_heap H1.out)).trans H1.out)
    have H22 := Lib.hid ((hb2.block _ (lt_heap H2.out)).trans H2.out)
    clear hb2 HC HB c1 c2 H1 H2
    go_wp2_with fail
    go_roundw
    case rel => exact ⟨1, by go_num, by omega, HE2, H12, H22, HB2⟩
    case measure => (try simp [intOf]); try omega
  · have c1 : wr.cell? ⟨w.heap.size, 1, none⟩ = some (.string ⟨#[126, 61]⟩) := by rw [cell_of_row _ _ _ _ _ _ H1.out]; rfl
   have c2 : wr.cell? ⟨w.heap.size + 1, 1, none⟩ = some (.string ⟨#[110, 101]⟩) := by rw [cell_of_row _ _ _ _ _ _ H2.out]; rfl
   have he : r = if ((⟨#[126, 61]⟩ : ByteArray).toList == (wrd l).toList) = true then ⟨#[110, 101]⟩ else psgF 4 (wrd l) (psigs.drop (4 + 2)) := HE.out
   rw [show ((⟨#[126, 61]⟩ : ByteArray).toList == (wrd l).toList) = ((wrd l).toList == (⟨#[126, 61]⟩ : ByteArray).toList) from BEq.comm] at he
   have HC := Lib.hid (ris_g l ⟨#[126, 61]⟩ wr B (by decide +kernel) (HS.out.below HB.out))
   generalize ((wrd l).toList == (⟨#[126, 61]⟩ : ByteArray).toList) = q at HC he
   cases q with
   | true =>
    rw [if_pos rfl] at he
    subst he
    clear HE
    go_wp2_with fail
    refine HC.out.mono ?_
    rintro e2 w2 ⟨rfl, hb2⟩
    have hbb := HB.out.trans (hb2.mono HB.out.size)
    have c3 : w2.cell? ⟨w.heap.size + 1, 1, none⟩ = some (.string ⟨#[110, 101]⟩) := cell_below hb2 c2
    clear hb2 HC HB c1 c2 H1 H2
    go_wp2_with fail
    go_ret
    exact ⟨rfl, hbb⟩
   | false =>
    rw [if_neg (by decide)] at he
    have HE2 := Lib.hid he
    clear HE he
    go_wp2_with fail
    refine HC.out.mono ?_
    rintro e2 w2 ⟨rfl, hb2⟩
    have HB2 := Lib.hid (HB.out.trans (hb2.mono HB.out.size))
    have H12 := Lib.hid ((hb2.block _ (lt_heap H1.out)).trans H1.out)
    have H22 := Lib.hid ((hb2.block _ (lt_heap H2.out)).trans H2.out)
    clear hb2 HC HB c1 c2 H1 H2
    go_wp2_with fail
    go_roundw
    case rel => exact ⟨2, by go_num, by omega, HE2, H12, H22, HB2⟩
    case measure => (try simp [intOf]); try omega
  · have c1 : wr.cell? ⟨w.heap.size, 2, none⟩ = some (.string ⟨#[60]⟩) := by rw [cell_of_row _ _ _ _ _ _ H1.out]; rfl
   have c2 : wr.cell? ⟨w.heap.size + 1, 2, none⟩ = some (.string ⟨#[108, 116]⟩) := by rw [cell_of_row _ _ _ _ _ _ H2.out]; rfl
   have he : r = if ((⟨#[60]⟩ : ByteArray).toList == (wrd l).toList) = true then ⟨#[108, 116]⟩ else psgF 4 (wrd l) (psigs.drop (4 + 3)) := HE.out
   rw [show ((⟨#[60]⟩ : ByteArray).toList == (wrd l).toList) = ((wrd l).toList == (⟨#[60]⟩ : ByteArray).toList) from BEq.comm] at he
   have HC := Lib.hid (ris_g l ⟨#[60]⟩ wr B (by decide +kernel) (HS.out.below HB.out))
   generalize ((wrd l).toList == (⟨#[60]⟩ : ByteArray).toList) = q at HC he
   cases q with
   | true =>
    rw [if_pos rfl] at he
    subst he
    clear HE
    go_wp2_with fail
    refine HC.out.mono ?_
    rintro e2 w2 ⟨rfl, hb2⟩
    have hbb := HB.out.trans (hb2.mono HB.out.size)
    have c3 : w2.cell? ⟨w.heap.size + 1, 2, none⟩ = some (.string ⟨#[108, 116]⟩) := cell_below hb2 c2
    clear hb2 HC HB c1 c2 H1 H2
    go_wp2_with fail
    go_ret
    exact ⟨rfl, hbb⟩
   | false =>
    rw [if_neg (by decide)] at he
    have HE2 := Lib.hid he
    clear HE he
    go_wp2_with fail
    refine HC.out.mono ?_
    rintro e2 w2 ⟨rfl, hb2⟩
    have HB2 := Lib.hid (HB.out.trans (hb2.mono HB.out.size))
    have H12 := Lib.hid ((hb2.block _ (lt_heap H1.out)).trans H1.out)
    have H22 := Lib.hid ((hb2.block _ (lt_heap H2.out)).trans H2.out)
    clear hb2 HC HB c1 c2 H1 H2
    go_wp2_with fail
    go_roundw
    case rel => exact ⟨3, by go_num, by omega, HE2, H12, H22, HB2⟩
    case measure => (try simp [intOf]); try omega
  · have c1 : wr.cell? ⟨w.heap.size, 3, none⟩ = some (.string ⟨#[60, 61]⟩) := by rw [cell_of_row _ _ _ _ _ _ H1.out]; rfl
   have c2 : wr.cell? ⟨w.heap.size + 1, 3, none⟩ = some (.string ⟨#[108, 101]⟩) := by rw [cell_of_row _ _ _ _ _ _ H2.out]; rfl
   have he : r = if ((⟨#[60, 61]⟩ : ByteArray).toList == (wrd l).toList) = true then ⟨#[108, 101]⟩ else psgF 4 (wrd l) (psigs.drop (4 + 4)) := HE.out
   rw [show ((⟨#[60, 61]⟩ : ByteArray).toList == (wrd l).toList) = ((wrd l).toList == (⟨#[60, 61]⟩ : ByteArray).toList) from BEq.comm] at he
   have HC := Lib.hid (ris_g l ⟨#[60, 61]⟩ wr B (by decide +kernel) (HS.out.below HB.out))
   generalize ((wrd l).toList == (⟨#[60, 61]⟩ : ByteArray).toList) = q at HC he
   cases q with
   | true =>
    rw [if_pos rfl] at he
    subst he
    clear HE
    go_wp2_with fail
    refine HC.out.mono ?_
    rintro e2 w2 ⟨rfl, hb2⟩
    have hbb := HB.out.trans (hb2.mono HB.out.size)
    have c3 : w2.cell? ⟨w.heap.size + 1, 3, none⟩ = some (.string ⟨#[108, 101]⟩) := cell_below hb2 c2
    clear hb2 HC HB c1 c2 H1 H2
    go_wp2_with fail
    go_ret
    exact ⟨rfl, hbb⟩
   | false =>
    rw [if_neg (by decide)] at he
    have HE2 := Lib.hid he
    clear HE he
    go_wp2_with fail
    refine HC.out.mono ?_
    rintro e2 w2 ⟨rfl, hb2⟩
    have HB2 := Lib.hid (HB.out.trans (hb2.mono HB.out.size))
    have H12 := Lib.hid ((hb2.block _ (lt_heap H1.out)).trans H1.out)
    have H22 := Lib.hid ((hb2.block _ (lt_heap H2.out)).trans H2.out)
    clear hb2 HC HB c1 c2 H1 H2
    go_wp2_with fail
    go_roundw
    case rel => exact ⟨4, by go_num, by omega, HE2, H12, H22, HB2⟩
    case measure => (try simp [intOf]); try omega
  · have c1 : wr.cell? ⟨w.heap.size, 4, none⟩ = some (.string ⟨#[105, 110]⟩) := by rw [cell_of_row _ _ _ _ _ _ H1.out]; rfl
   have c2 : wr.cell? ⟨w.heap.size + 1, 4, none⟩ = some (.string ⟨#[105, 110]⟩) := by rw [cell_of_row _ _ _ _ _ _ H2.out]; rfl
   have he : r = if ((⟨#[105, 110]⟩ : ByteArray).toList == (wrd l).toList) = true then ⟨#[105, 110]⟩ else psgF 4 (wrd l) (psigs.drop (4 + 5)) := HE.out
   rw [show ((⟨#[105, 110]⟩ : ByteArray).toList == (wrd l).toList) = ((wrd l).toList == (⟨#[105, 110]⟩ : ByteArray).toList) from BEq.comm] at he
   have HC := Lib.hid (ris_g l ⟨#[105, 110]⟩ wr B (by decide +kernel) (HS.out.below HB.out))
   generalize ((wrd l).toList == (⟨#[105, 110]⟩ : ByteArray).toList) = q at HC he
   cases q with
   | true =>
    rw [if_pos rfl] at he
    subst he
    clear HE
    go_wp2_with fail
    refine HC.out.mono ?_
    rintro e2 w2 ⟨rfl, hb2⟩
    have hbb := HB.out.trans (hb2.mono HB.out.size)
    have c3 : w2.cell? ⟨w.heap.size + 1, 4, none⟩ = some (.string ⟨#[105, 110]⟩) := cell_below hb2 c2
    clear hb2 HC HB c1 c2 H1 H2
    go_wp2_with fail
    go_ret
    exact ⟨rfl, hbb⟩
   | false =>
    rw [if_neg (by decide)] at he
    have HE2 := Lib.hid he
    clear HE he
    go_wp2_with fail
    refine HC.out.mono ?_
    rintro e2 w2 ⟨rfl, hb2⟩
    have HB2 := Lib.hid (HB.out.trans (hb2.mono HB.out.size))
    have H12 := Lib.hid ((hb2.block _ (lt_heap H1.out)).trans H1.out)
    have H22 := Lib.hid ((hb2.block _ (lt_heap H2.out)).trans H2.out)
    clear hb2 HC HB c1 c2 H1 H2
    go_wp2_with fail
    go_roundw
    case rel => exact ⟨5, by go_num, by omega, HE2, H12, H22, HB2⟩
    case measure => (try simp [intOf]); try omega
  · have c1 : wr.cell? ⟨w.heap.size, 5, none⟩ = some (.string ⟨#[110, 111, 116, 105, 110]⟩) := by rw [cell_of_row _ _ _ _ _ _ H1.out]; rfl
   have c2 : wr.cell? ⟨w.heap.size + 1, 5, none⟩ = some (.string ⟨#[110, 111, 116, 105, 110]⟩) := by rw [cell_of_row _ _ _ _ _ _ H2.out]; rfl
   have he : r = if ((⟨#[110, 111, 116, 105, 110]⟩ : ByteArray).toList == (wrd l).toList) = true then ⟨#[110, 111, 116, 105, 110]⟩ else psgF 4 (wrd l) (psigs.drop (4 + 6)) := HE.out
   rw [show ((⟨#[110, 111, 116, 105, 110]⟩ : ByteArray).toList == (wrd l).toList) = ((wrd l).toList == (⟨#[110, 111, 116, 105, 110]⟩ : ByteArray).toList) from BEq.comm] at he
   have HC := Lib.hid (ris_g l ⟨#[110, 111, 116, 105, 110]⟩ wr B (by decide +kernel) (HS.out.below HB.out))
   generalize ((wrd l).toList == (⟨#[110, 111, 116, 105, 110]⟩ : ByteArray).toList) = q at HC he
   cases q with
   | true =>
    rw [if_pos rfl] at he
    subst he
    clear HE
    go_wp2_with fail
    refine HC.out.mono ?_
    rintro e2 w2 ⟨rfl, hb2⟩
    have hbb := HB.out.trans (hb2.mono HB.out.size)
    have c3 : w2.cell? ⟨w.heap.size + 1, 5, none⟩ = some (.string ⟨#[110, 111, 116, 105, 110]⟩) := cell_below hb2 c2
    clear hb2 HC HB c1 c2 H1 H2
    go_wp2_with fail
    go_ret
    exact ⟨rfl, hbb⟩
   | false =>
    rw [if_neg (by decide)] at he
    have HE2 := Lib.hid he
    clear HE he
    go_wp2_with fail
    refine HC.out.mono ?_
    rintro e2 w2 ⟨rfl, hb2⟩
    have HB2 := Lib.hid (HB.out.trans (hb2.mono HB.out.size))
    have H12 := Lib.hid ((hb2.block _ (lt_heap H1.out)).trans H1.out)
    have H22 := Lib.hid ((hb2.block _ (lt_heap H2.out)).trans H2.out)
    clear hb2 HC HB c1 c2 H1 H2
    go_wp2_with fail
    go_roundw
    case rel => exact ⟨6, by go_num, by omega, HE2, H12, H22, HB2⟩
    case measure => (try simp [intOf]); try omega
  · have c1 : wr.cell? ⟨w.heap.size, 6, none⟩ = some (.string ⟨#[115, 117, 98]⟩) := by rw [cell_of_row _ _ _ _ _ _ H1.out]; rfl
   have c2 : wr.cell? ⟨w.heap.size + 1, 6, none⟩ = some (.string ⟨#[115, 117, 98]⟩) := by rw [cell_of_row _ _ _ _ _ _ H2.out]; rfl
   have he : r = if ((⟨#[115, 117, 98]⟩ : ByteArray).toList == (wrd l).toList) = true then ⟨#[115, 117, 98]⟩ else psgF 4 (wrd l) (psigs.drop (4 + 7)) := HE.out
   rw [show ((⟨#[115, 117, 98]⟩ : ByteArray).toList == (wrd l).toList) = ((wrd l).toList == (⟨#[115, 117, 98]⟩ : ByteArray).toList) from BEq.comm] at he
   have HC := Lib.hid (ris_g l ⟨#[115, 117, 98]⟩ wr B (by decide +kernel) (HS.out.below HB.out))
   generalize ((wrd l).toList == (⟨#[115, 117, 98]⟩ : ByteArray).toList) = q at HC he
   cases q with
   | true =>
    rw [if_pos rfl] at he
    subst he
    clear HE
    go_wp2_with fail
    refine HC.out.mono ?_
    rintro e2 w2 ⟨rfl, hb2⟩
    have hbb := HB.out.trans (hb2.mono HB.out.size)
    have c3 : w2.cell? ⟨w.heap.size + 1, 6, none⟩ = some (.string ⟨#[115, 117, 98]⟩) := cell_below hb2 c2
    clear hb2 HC HB c1 c2 H1 H2
    go_wp2_with fail
    go_ret
    exact ⟨rfl, hbb⟩
   | false =>
    rw [if_neg (by decide)] at he
    have HE2 := Lib.hid he
    clear HE he
    go_wp2_with fail
    refine HC.out.mono ?_
    rintro e2 w2 ⟨rfl, hb2⟩
    have HB2 := Lib.hid (HB.out.trans (hb2.mono HB.out.size))
    have H12 := Lib.hid ((hb2.block _ (lt_heap H1.out)).trans H1.out)
    have H22 := Lib.hid ((hb2.block _ (lt_heap H2.out)).trans H2.out)
    clear hb2 HC HB c1 c2 H1 H2
    go_wp2_with fail
    go_roundw
    case rel => exact ⟨7, by go_num, by omega, HE2, H12, H22, HB2⟩
    case measure => (try simp [intOf]); try omega
  · have he : r = ⟨#[]⟩ := HE.out
   subst he
   clear HE
   go_wp2
   go_ret
   exact ⟨rfl, HB.out⟩
set_option maxRecDepth 100000 in
set_option maxHeartbeats 4000000 in
theorem rrel_b (p e : Int) (w : World) (B : Nat) (h : PrS w B (.bad p e)) : Calls Tryz.prog 164 #[.pointer (some ⟨B, 0, none⟩)] w fun y w' => y = .returned (.string (⟨#[]⟩)) ∧ Below w.heap.size w w' := by
 have HS := Lib.hid h
 clear h
 go_enter Tryz.func164, Tryz.ntmps164
 go_wp2
 go_loopw [5] (fun i wr => ∃ k : Nat, i = .int .i64 k ∧ k ≤ 7 ∧ Hid (wr.heap[w.heap.size]? = some (.cells relA 9)) ∧ Hid (wr.heap[w.heap.size + 1]? = some (.cells relB 9)) ∧ Hid (Below w.heap.size w wr)) (fun i _ => 7 - (intOf i).toNat)
 case atStart =>
  refine ⟨0, rfl, by omega, Lib.hid ?_, Lib.hid (second_at w _ _), Lib.hid (two_boxes _ _ _)⟩
  rw [Below.heap_alloc _ _ _ (by simp)]
  exact new_at _ _
 case round =>
  obtain ⟨k, rfl, hk, H1, H2, HB⟩ := hrel
  have hcs : k = 0 ∨ k = 1 ∨ k = 2 ∨ k = 3 ∨ k = 4 ∨ k = 5 ∨ k = 6 ∨ k = 7 := by omega
  clear hk
  rcases hcs with rfl | rfl | rfl | rfl | rfl | rfl | rfl | rfl
  · have c1 : wr.cell? ⟨w.heap.size, 0, none⟩ = some (.string ⟨#[61]⟩) := by rw [cell_of_row _ _ _ _ _ _ H1.out]; rfl
   have c2 : wr.cell? ⟨w.heap.size + 1, 0, none⟩ = some (.string ⟨#[101, 113]⟩) := by rw [cell_of_row _ _ _ _ _ _ H2.out]; rfl
   have HC := Lib.hid (ris_b ⟨#[61]⟩ wr B p e (HS.out.below HB.out))
   go_wp2_with fail
   refine HC.out.mono ?_
   rintro e2 w2 ⟨rfl, hb2⟩
   have HB2 := Lib.hid (HB.out.trans (hb2.mono HB.out.size))
   have H12 := Lib.hid ((hb2.block _ (lt_heap H1.out)).trans H1.out)
   have H22 := Lib.hid ((hb2.block _ (lt_heap H2.out)).trans H2.out)
   clear hb2 HC HB c1 c2 H1 H2
   go_wp2_with fail
   go_roundw
   case rel => exact ⟨1, by go_num, by omega, H12, H22, HB2⟩
   case measure => (try simp [intOf]); try omega
  · have c1 : wr.cell? ⟨w.heap.size, 1, none⟩ = some (.string ⟨#[126, 61]⟩) := by rw [cell_of_row _ _ _ _ _ _ H1.out]; rfl
   have c2 : wr.cell? ⟨w.heap.size + 1, 1, none⟩ = some (.string ⟨#[110, 101]⟩) := by rw [cell_of_row _ _ _ _ _ _ H2.out]; rfl
   have HC := Lib.hid (ris_b ⟨#[126, 61]⟩ wr B p e (HS.out.below HB.out))
   go_wp2_with fail
   refine HC.out.mono ?_
   rintro e2 w2 ⟨rfl, hb2⟩
   have HB2 := Lib.hid (HB.out.trans (hb2.mono HB.out.size))
   have H12 := Lib.hid ((hb2.block _ (lt_heap H1.out)).trans H1.out)
   have H22 := Lib.hid ((hb2.block _ (lt_heap H2.out)).trans H2.out)
   clear hb2 HC HB c1 c2 H1 H2
   go_wp2_with fail
   go_roundw
   case rel => exact ⟨2, by go_num, by omega, H12, H22, HB2⟩
   case measure => (try simp [intOf]); try omega
  · have c1 : wr.cell? ⟨w.heap.size, 2, none⟩ = some (.string ⟨#[60]⟩) := by rw [cell_of_row _ _ _ _ _ _ H1.out]; rfl
   have c2 : wr.cell? ⟨w.heap.size + 1, 2, none⟩ = some (.string ⟨#[108, 116]⟩) := by rw [cell_of_row _ _ _ _ _ _ H2.out]; rfl
   have HC := Lib.hid (ris_b ⟨#[60]⟩ wr B p e (HS.out.below HB.out))
   go_wp2_with fail
   refine HC.out.mono ?_
   rintro e2 w2 ⟨rfl, hb2⟩
   have HB2 := Lib.hid (HB.out.trans (hb2.mono HB.out.size))
   have H12 := Lib.hid ((hb2.block _ (lt_heap H1.out)).trans H1.out)
   have H22 := Lib.hid ((hb2.block _ (lt_heap H2.out)).trans H2.out)
   clear hb2 HC HB c1 c2 H1 H2
   go_wp2_with fail
   go_roundw
   case rel => exact ⟨3, by go_num, by omega, H12, H22, HB2⟩
   case measure => (try simp [intOf]); try omega
  · have c1 : wr.cell? ⟨w.heap.size, 3, none⟩ = some (.string ⟨#[60, 61]⟩) := by rw [cell_of_row _ _ _ _ _ _ H1.out]; rfl
   have c2 : wr.cell? ⟨w.heap.size + 1, 3, none⟩ = some (.string ⟨#[108, 101]⟩) := by rw [cell_of_row _ _ _ _ _ _ H2.out]; rfl
   have HC := Lib.hid (ris_b ⟨#[60, 61]⟩ wr B p e (HS.out.below HB.out))
   go_wp2_with fail
   refine HC.out.mono ?_
   rintro e2 w2 ⟨rfl, hb2⟩
   have HB2 := Lib.hid (HB.out.trans (hb2.mono HB.out.size))
   have H12 := Lib.hid ((hb2.block _ (lt_heap H1.out)).trans H1.out)
   have H22 := Lib.hid ((hb2.block _ (lt_heap H2.out)).trans H2.out)
   clear hb2 HC HB c1 c2 H1 H2
   go_wp2_with fail
   go_roundw
   case rel => exact ⟨4, by go_num, by omega, H12, H22, HB2⟩
   case measure => (try simp [intOf]); try omega
  · have c1 : wr.cell? ⟨w.heap.size, 4, none⟩ = some (.string ⟨#[105, 110]⟩) := by rw [cell_of_row _ _ _ _ _ _ H1.out]; rfl
   have c2 : wr.cell? ⟨w.heap.size + 1, 4, none⟩ = some (.string ⟨#[105, 110]⟩) := by rw [cell_of_row _ _ _ _ _ _ H2.out]; rfl
   have HC := Lib.hid (ris_b ⟨#[105, 110]⟩ wr B p e (HS.out.below HB.out))
   go_wp2_with fail
   refine HC.out.mono ?_
   rintro e2 w2 ⟨rfl, hb2⟩
   have HB2 := Lib.hid (HB.out.trans (hb2.mono HB.out.size))
   have H12 := Lib.hid ((hb2.block _ (lt_heap H1.out)).trans H1.out)
   have H22 := Lib.hid ((hb2.block _ (lt_heap H2.out)).trans H2.out)
   clear hb2 HC HB c1 c2 H1 H2
   go_wp2_with fail
   go_roundw
   case rel => exact ⟨5, by go_num, by omega, H12, H22, HB2⟩
   case measure => (try simp [intOf]); try omega
  · have c1 : wr.cell? ⟨w.heap.size, 5, none⟩ = some (.string ⟨#[110, 111, 116, 105, 110]⟩) := by rw [cell_of_row _ _ _ _ _ _ H1.out]; rfl
   have c2 : wr.cell? ⟨w.heap.size + 1, 5, none⟩ = some (.string ⟨#[110, 111, 116, 105, 110]⟩) := by rw [cell_of_row _ _ _ _ _ _ H2.out]; rfl
   have HC := Lib.hid (ris_b ⟨#[110, 111, 116, 105, 110]⟩ wr B p e (HS.out.below HB.out))
   go_wp2_with fail
   refine HC.out.mono ?_
   rintro e2 w2 ⟨rfl, hb2⟩
   have HB2 := Lib.hid (HB.out.trans (hb2.mono HB.out.size))
   have H12 := Lib.hid ((hb2.block _ (lt_heap H1.out)).trans H1.out)
   have H22 := Lib.hid ((hb2.block _ (lt_heap H2.out)).trans H2.out)
   clear hb2 HC HB c1 c2 H1 H2
   go_wp2_with fail
   go_roundw
   case rel => exact ⟨6, by go_num, by omega, H12, H22, HB2⟩
   case measure => (try simp [intOf]); try omega
  · have c1 : wr.cell? ⟨w.heap.size, 6, none⟩ = some (.string ⟨#[115, 117, 98]⟩) := by rw [cell_of_row _ _ _ _ _ _ H1.out]; rfl
   have c2 : wr.cell? ⟨w.heap.size + 1, 6, none⟩ = some (.string ⟨#[115, 117, 98]⟩) := by rw [cell_of_row _ _ _ _ _ _ H2.out]; rfl
   have HC := Lib.hid (ris_b ⟨#[115, 117, 98]⟩ wr B p e (HS.out.below HB.out))
   go_wp2_with fail
   refine HC.out.mono ?_
   rintro e2 w2 ⟨rfl, hb2⟩
   have HB2 := Lib.hid (HB.out.trans (hb2.mono HB.out.size))
   have H12 := Lib.hid ((hb2.block _ (lt_heap H1.out)).trans H1.out)
   have H22 := Lib.hid ((hb2.block _ (lt_heap H2.out)).trans H2.out)
   clear hb2 HC HB c1 c2 H1 H2
   go_wp2_with fail
   go_roundw
   case rel => exact ⟨7, by go_num, by omega, H12, H22, HB2⟩
   case measure => (try simp [intOf]); try omega
  · go_wp2
   go_ret
   exact ⟨rfl, HB.out⟩
end Go.Proofs.YtmpcmpeloebnhaaGreatDoor
