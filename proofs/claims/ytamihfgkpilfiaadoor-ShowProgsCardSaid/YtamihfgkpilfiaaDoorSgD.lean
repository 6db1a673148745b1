/- show.Prog: the text of every program that may be. -/
import Derived.Test.YtamihfgkpilfiaaDoorSgC
import Derived.Test.YtamihfgkpilfiaaDoorRtC
import Derived.Test.YtamihfgkpilfiaaDoorLexA
import Derived.Test.YtamihfgkpilfiaaDoorRows
import Derived.WalkKit
import Derived.WalkLawsBesides
import Derived.WalkSpells
import Derived.ProofKit
import Derived.Outline
import Derived.Deep.QuietTactic
import Derived.BigQuiet
import Derived.Deep.Light
import Derived.Deep.CutBlock
import Derived.Deep.DeepCutAuto
import Derived.Deep.DeepFit
import Derived.Deep.LoopGhost
import Derived.Lib.Hide
import Derived.Lib.OthersKept
import Derived.IntWalk
import Derived.StillTailTactics
namespace Go.Proofs.YtamihfgkpilfiaaDoor
open Go.RowKit
/-! show.Prog. -/
abbrev boxG (da : Option Addr) (dlen dc : Nat) (pa : Option Addr) (pl pc : Nat) (op name : ByteArray) (n pos : Int) (a : Option Addr) (k cap : Nat) : Obj := .cells (pgCells da dlen dc pa pl pc op name n pos a k cap) 33
abbrev boxW : Obj := .cells #[.pointer none, .slice none 0 0] tW
theorem pdsLie_below {w w' : World} (hb : Below w.heap.size w w') {pa : Option Addr} {ps : List Pd} (h : PdsLie w pa ps) : PdsLie w' pa ps := by
  refine ⟨?_, fun p hp => (h.2 p hp).below hb⟩
  rcases h.1 with h1 | ⟨b, o, h1, h2, h3⟩
  · exact .inl h1
  · exact .inr ⟨b, o, h1, h2, fun i p hi => (h3 i p hi).below hb⟩
set_option maxRecDepth 100000 in
set_option maxHeartbeats 8000000 in
theorem showP (ds : List Dc) (da : Option Addr) (dc : Nat) (ps : List Pd) (pa : Option Addr) (pc : Nat) (T : Nd) (w : World) (hd : DcsIn w da ds) (hp : PdsLie w pa ps) (hm : T.In w)
    (od : ds.all Dc.ok = true) (op' : ps.all Pd.okS = true) (om : T.okF = true) (os : T.size ≤ 2000) (ld : ds.length ≤ 100) (lp : ps.length ≤ 100) :
    Calls Tryd.prog 16 #[.agg #[.slice da ds.length dc, .slice pa ps.length pc, .string T.op, .string T.name, .int .i64 T.n, .int .i64 T.pos, .slice T.a T.kids.len T.cap]] w fun e w' => e = .returned (.string (mkS (pgTx ds ps T))) ∧ Below w.heap.size w w' := by
  have hlen := pgTx_len od op' om os
  obtain ⟨t, ht⟩ : ∃ t, t = pgTx ds ps T := ⟨_, rfl⟩
  rw [← ht] at hlen ⊢
  have HTL : Hid (t.length ≤ 1000000000) := Lib.hid (by omega)
  have HT1 : Hid (dsTx ds ++ pdsTx ps ++ (T.fx ++ [59, 10]) = t) := Lib.hid ht.symm
  have HSF := Lib.hid (fun (W : World) (hW : Below w.heap.size w W) => showF T W (hm.below hW) om os)
  obtain ⟨op, name, n, pos, a, cap, kids⟩ := T
  simp only [Nd.val_def] at HSF
  obtain ⟨fx, hfx⟩ : ∃ fx, fx = Nd.fx ⟨op, name, n, pos, a, cap, kids⟩ := ⟨_, rfl⟩
  rw [← hfx] at HT1
  have HSF := Lib.hid (fun W hW => by have := HSF.out W hW; rw [← hfx] at this; exact this)
  show Calls _ _ #[.agg (pgCells da ds.length dc pa ps.length pc op name n pos a kids.len cap)] _ _
  have hW1 : WB w.heap.size (w.heap.size + 1) [] ((w.alloc (boxG da ds.length dc pa ps.length pc op name n pos a kids.len cap)).alloc boxW) := by
    have := wb_new (w.alloc (boxG da ds.length dc pa ps.length pc op name n pos a kids.len cap))
    rw [alloc_size] at this
    rcases this with h | h
    · exact .inl (bat_mono h (by omega))
    · exact .inr (bat_mono h (by omega))
  have hN1 : ((w.alloc (boxG da ds.length dc pa ps.length pc op name n pos a kids.len cap)).alloc boxW).heap[w.heap.size]? = some (boxG da ds.length dc pa ps.length pc op name n pos a kids.len cap) := by
    rw [Below.heap_alloc _ _ _ (by simp)]; exact new_at _ _
  have HW1 := Lib.hid hW1
  have HN1 := Lib.hid hN1
  have HB1 := Lib.hid (two_boxes w (boxG da ds.length dc pa ps.length pc op name n pos a kids.len cap) boxW)
  have HD := Lib.hid hd
  have HP := Lib.hid hp
  have HOD := Lib.hid od
  have HOP := Lib.hid op'
  have HLD := Lib.hid ld
  have HLP := Lib.hid lp
  obtain ⟨W1, hW1e⟩ : ∃ W1, W1 = (w.alloc (boxG da ds.length dc pa ps.length pc op name n pos a kids.len cap)).alloc boxW := ⟨_, rfl⟩
  have HQ1 : Hid (KeptW (w.heap.size + 1) W1 ((w.alloc (boxG da ds.length dc pa ps.length pc op name n pos a kids.len cap)).alloc boxW)) := Lib.hid (by rw [hW1e]; exact Lib.OthersKept.refl _ _ _)
  rw [← hW1e] at HN1
  clear hd hp hm od op' om os ld lp hlen ht hfx hW1 hN1 hW1e
  have hc5 := cellsNode
  have hc8 := cellsPred
  have hc3 := cellsDecl
  go_enter Tryd.func16, Tryd.ntmps16
  go_wp2_with fail
  go_loopw [11] (fun i wr => ∃ j : Nat, i = .int .i64 j ∧ j ≤ ds.length ∧ Hid (WB w.heap.size (w.heap.size + 1) (dsTx (ds.take j)) wr) ∧ Hid (Below w.heap.size w wr) ∧ Hid (KeptW (w.heap.size + 1) W1 wr)) (fun i _ => ds.length - (intOf i).toNat)
  case atStart => exact ⟨0, rfl, Nat.zero_le _, HW1, HB1, HQ1⟩
  case round =>
    clear HW1 HB1 HQ1
    obtain ⟨j, rfl, hj, HW, HB, HK⟩ := hrel
    by_cases hlt : j < ds.length
    · have hlt2 : (j : Int) < ds.length := by omega
      obtain ⟨d, hd⟩ : ∃ d, ds[j]? = some d := ⟨_, List.getElem?_eq_getElem hlt⟩
      have hdm : d ∈ ds := by obtain ⟨hx, rfl⟩ := List.getElem?_eq_some_iff.1 hd; exact List.getElem_mem _
      have hdok : d.ok = true := List.all_eq_true.1 HOD.out d hdm
      obtain ⟨pb, po, hpa2, hplim, hpat, _⟩ : ∃ b o, da = some ⟨b, o, none⟩ ∧ ds.length ≤ 140737488351232 ∧ (∀ i d, ds[i]? = some d → DcAt wr b (o + i * 3) d) ∧ ∀ d ∈ ds, d.name.size ≤ 140737488351232 := by
        rcases HD.out.below HB.out with h | h
        · exfalso; rw [show ds = [] from h] at hlt; exact absurd hlt (Nat.not_lt_zero _)
        · exact h
      obtain ⟨e0, e1, e2⟩ := hpat j d hd
      have htk := dsTx_take ds j d hd
      have hle := dsTx_le ds (j + 1)
      have hdl := dsTx_len HOD.out
      have hld := HLD.out
      have hq1 : (dsTx (ds.take j)).length + (dTx d).length ≤ 140737488351232 := by
        rw [htk] at hle
        simp only [List.length_append, List.length_cons, List.length_nil] at hle
        omega
      have hq2 : (dsTx (ds.take j) ++ dTx d).length + ([59, 10] : L8).length ≤ 140737488351232 := by
        rw [htk] at hle
        simp only [List.length_append, List.length_cons, List.length_nil] at hle ⊢
        omega
      have HQ3 := Lib.hid (show dsTx (ds.take j) ++ dTx d ++ [59, 10] = dsTx (ds.take (j + 1)) by rw [htk, List.append_assoc])
      have hwlt := HW.out.lt
      have hbx := below_box wr (boxD d.name d.order d.pos)
      have HC := Lib.hid (wdecl_any d hdok w.heap.size (w.heap.size + 1) _ (dTx d) _ (HW.out.alloc (boxD d.name d.order d.pos)) rfl hq1)
      have HPP := Lib.hid (fun (W : World) hW => put1 w.heap.size (w.heap.size + 1) (dsTx (ds.take j) ++ dTx d) ⟨#[59, 10]⟩ W hW hq2)
      have HBx := Lib.hid (HB.out.trans (hbx.mono HB.out.size))
      have HKx := Lib.hid (HK.out.trans (kept_below hbx))
      obtain ⟨name1, order1, pos1⟩ := d
      simp only at e0 e1 e2
      subst hpa2
      clear hpat htk hle hdl hld hq1 hq2 hbx HW HB HK hd hdm hdok
      go_wp2_with fail
      refine HC.out.mono ?_
      rintro e w3 ⟨rfl, hW3, hb3, hk3⟩
      have HP3 := Lib.hid (HPP.out w3 hW3)
      have HB3 := Lib.hid (HBx.out.trans hb3)
      have HK3 := Lib.hid (HKx.out.trans hk3)
      clear hW3 hb3 hk3 HC HPP HBx HKx e0 e1 e2
      go_wp2_with fail
      refine HP3.out.mono ?_
      rintro e w4 ⟨rfl, hW4, hb4, hk4⟩
      have hW4' : WB w.heap.size (w.heap.size + 1) (dsTx (ds.take (j + 1))) w4 := by rw [← HQ3.out]; exact hW4
      have HW4 := Lib.hid hW4'
      have HB4 := Lib.hid (HB3.out.trans hb4)
      have HK4 := Lib.hid (HK3.out.trans hk4)
      clear hW4 hW4' hb4 hk4 HP3 HB3 HK3 HQ3
      go_wp2
      go_roundw
      case rel => exact ⟨j + 1, by go_num, by omega, HW4, HB4, HK4⟩
      case measure => (try simp [intOf]); omega
    · obtain rfl : j = ds.length := by omega
      have hall : ds.take ds.length = ds := List.take_length
      rw [hall] at HW
      clear hall
      obtain ⟨c0, c1, c2, c3, c4, c5, c6⟩ := pg_cells (obj_kept (b := w.heap.size + 1) HN1.out (by decide) (by omega) HK.out)
      go_wp2_with fail
      have hdle : (dsTx ds).length + (pdsTx ps).length + (fx ++ [59, 10]).length ≤ 1000000000 := by
        have h1 := HTL.out
        rw [← HT1.out] at h1
        simp only [List.length_append] at h1 ⊢
        omega
      have HDL := Lib.hid hdle
      clear hdle
      go_loopw [23] (fun i wr2 => ∃ j : Nat, i = .int .i64 j ∧ j ≤ ps.length ∧ Hid (WB w.heap.size (w.heap.size + 1) (dsTx ds ++ pdsTx (ps.take j)) wr2) ∧ Hid (Below w.heap.size w wr2) ∧ Hid (KeptW (w.heap.size + 1) W1 wr2)) (fun i _ => ps.length - (intOf i).toNat)
      case atStart => exact ⟨0, rfl, Nat.zero_le _, Lib.hid (by simpa [pdsTx] using HW.out), HB, HK⟩
      case round =>
        clear HW HB HK c0 c1 c2 c3 c4 c5 c6
        obtain ⟨j, rfl, hj, HW, HB, HK⟩ := hrel
        by_cases hlt : j < ps.length
        · have hlt2 : (j : Int) < ps.length := by omega
          obtain ⟨p, hp⟩ : ∃ p, ps[j]? = some p := ⟨_, List.getElem?_eq_getElem hlt⟩
          have hpm : p ∈ ps := by obtain ⟨hx, rfl⟩ := List.getElem?_eq_some_iff.1 hp; exact List.getElem_mem _
          have hpok : p.okS = true := List.all_eq_true.1 HOP.out p hpm
          obtain ⟨pb, po, hpa2, hplim, hpat⟩ : ∃ b o, pa = some ⟨b, o, none⟩ ∧ ps.length ≤ 140737488351232 ∧ ∀ i p, ps[i]? = some p → PdAt w b (o + i * 8) p := by
            rcases HP.out.1 with h | h
            · exfalso; rw [show ps = [] from h] at hlt; exact absurd hlt (Nat.not_lt_zero _)
            · exact h
          obtain ⟨e0, e1, e2, e3, e4, e5, e6, e7⟩ := (hpat j p hp).below HB.out
          have htk := pdsTx_take ps j p hp
          have hle := pdsTx_le ps (j + 1)
          have hdl := HDL.out
          have hq1 : (dsTx ds ++ pdsTx (ps.take j)).length + (pdTx p).length ≤ 140737488351232 := by
            rw [htk] at hle
            simp only [List.length_append] at hle ⊢
            omega
          have HQ3 := Lib.hid (show dsTx ds ++ pdsTx (ps.take j) ++ pdTx p = dsTx ds ++ pdsTx (ps.take (j + 1)) by rw [htk, List.append_assoc])
          have hPI : PIn w.heap.size p wr := ⟨w, rfl, HP.out.2 p hpm, HB.out⟩
          have hbx := below_box wr (boxP p.name p.pa p.params.length p.pcap p.body.op p.body.name p.body.n p.body.pos p.body.a p.body.kids.len p.body.cap p.pos)
          have HC := Lib.hid (wpred_any p hpok w.heap.size (w.heap.size + 1) _ (pdTx p) _ (hPI.next (hbx.mono HB.out.size)) (HW.out.alloc (boxP p.name p.pa p.params.length p.pcap p.body.op p.body.name p.body.n p.body.pos p.body.a p.body.kids.len p.body.cap p.pos)) rfl hq1)
          have HBx := Lib.hid (HB.out.trans (hbx.mono HB.out.size))
          have HKx := Lib.hid (HK.out.trans (kept_below hbx))
          obtain ⟨nm, prs, ppa, ppc, ⟨bop, bname, bn, bpos, ba, bcap, bkids⟩, ppos⟩ := p
          simp only at e0 e1 e2 e3 e4 e5 e6 e7
          subst hpa2
          clear hpat htk hle hdl hq1 hPI hbx HW HB HK hp hpm hpok
          go_wp2_with fail
          refine HC.out.mono ?_
          rintro e w3 ⟨rfl, hW3, hb3, hk3⟩
          have hW3' : WB w.heap.size (w.heap.size + 1) (dsTx ds ++ pdsTx (ps.take (j + 1))) w3 := by rw [← HQ3.out]; exact hW3
          have HW3 := Lib.hid hW3'
          have HB3 := Lib.hid (HBx.out.trans hb3)
          have HK3 := Lib.hid (HKx.out.trans hk3)
          clear hW3 hW3' hb3 hk3 HC HBx HKx e0 e1 e2 e3 e4 e5 e6 e7 HQ3
          go_wp2
          go_roundw
          case rel => exact ⟨j + 1, by go_num, by omega, HW3, HB3, HK3⟩
          case measure => (try simp [intOf]); omega
        · obtain rfl : j = ps.length := by omega
          have hall : ps.take ps.length = ps := List.take_length
          rw [hall] at HW
          clear hall
          obtain ⟨c0, c1, c2, c3, c4, c5, c6⟩ := pg_cells (obj_kept (b := w.heap.size + 1) HN1.out (by decide) (by omega) HK.out)
          have HSF2 := Lib.hid (HSF.out wr HB.out)
          have HQ4 : (dsTx ds ++ pdsTx ps).length + (fx ++ [59, 10]).length ≤ 140737488351232 := by have := HDL.out; simp only [List.length_append] at this ⊢; omega
          have HL4 := Lib.hid HQ4
          clear HQ4
          go_wp2_with fail
          refine HSF2.out.mono ?_
          rintro e w3 ⟨rfl, hb3⟩
          have HP3 := Lib.hid (put2 w.heap.size (w.heap.size + 1) _ ⟨fx.toArray⟩ ⟨#[59, 10]⟩ w3 (HW.out.below hb3) HL4.out)
          have HB3 := Lib.hid (HB.out.trans (hb3.mono HB.out.size))
          clear hb3 HSF2 HW HB HK c0 c1 c2 c3 c4 c5 c6
          go_wp2_with fail
          refine HP3.out.mono ?_
          rintro e w4 ⟨rfl, hW4, hb4, _⟩
          have hW4' : WB w.heap.size (w.heap.size + 1) t w4 := by rw [← HT1.out]; exact hW4
          have htne : t ≠ [] := by rw [← HT1.out]; simp
          have HS := Lib.hid (wstr_any w.heap.size (w.heap.size + 1) t w4 hW4' htne)
          have HB4 := Lib.hid (HB3.out.trans hb4)
          clear HP3 hW4 hW4' hb4 HB3 htne
          go_wp2_with fail
          refine HS.out.mono ?_
          rintro e w5 ⟨rfl, hb5⟩
          have hB5 := HB4.out.trans hb5
          clear hb5 HS HB4
          go_wp2_with fail
          go_ret
          exact ⟨rfl, hB5⟩
end Go.Proofs.YtamihfgkpilfiaaDoor
