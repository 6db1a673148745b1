/- The writer: preds. -/
import Derived.Test.YtamihfgkpilfiaaDoorSgB
import Derived.Test.YtamihfgkpilfiaaDoorLexA
import Derived.Test.YtamihfgkpilfiaaDoorRows
import Derived.WalkKit
import Derived.WalkLawsBesides
import Derived.WalkSpells
import Derived.ProofKit
import Derived.Outline
import Derived.Deep.QuietTactic
import Derived.BigQuiet
import Derived.Deep.Light
import Derived.Deep.CutBlock
import Derived.Deep.DeepCutAuto
import Derived.Deep.DeepFit
import Derived.Deep.LoopGhost
import Derived.Lib.Hide
import Derived.Lib.OthersKept
import Derived.IntWalk
import Derived.StillTailTactics
namespace Go.Proofs.YtamihfgkpilfiaaDoor
open Go.RowKit
/-! The writer: preds. -/
theorem put3_box (B b : Nat) (l : L8) (x y z : ByteArray) (w : World) (o : Obj) (h : WB B b l (w.alloc o)) (hlen : l.length + (x.data.toList ++ y.data.toList ++ z.data.toList).length ≤ 140737488351232) :
    Calls Tryd.prog 33 #[wAt b, .slice (some ⟨w.heap.size + 1, 0, none⟩) 3 3] ((w.alloc o).alloc (.cells #[.string x, .string y, .string z] 9)) (WPost B b (l ++ (x.data.toList ++ y.data.toList ++ z.data.toList)) (w.alloc o)) := by
  have := put3 B b l x y z (w.alloc o) h hlen
  rw [alloc_size] at this
  exact this
/-- A pred that lies below a number of blocks. -/
def PIn (B : Nat) (p : Pd) (w : World) : Prop := ∃ w0 : World, w0.heap.size = B ∧ PdLies w0 p ∧ Below B w0 w
theorem PIn.next {B : Nat} {p : Pd} {w w' : World} (h : PIn B p w) (hb : Below B w w') : PIn B p w' := by
  obtain ⟨w0, h0, h1, h2⟩ := h
  exact ⟨w0, h0, h1, h2.trans hb⟩
theorem PIn.size {B : Nat} {p : Pd} {w : World} (h : PIn B p w) : B ≤ w.heap.size := by
  obtain ⟨w0, rfl, h1, h2⟩ := h
  exact h2.size
theorem PIn.now {B : Nat} {p : Pd} {w : World} (h : PIn B p w) : PdLies w p := by
  obtain ⟨w0, rfl, h1, h2⟩ := h
  exact h1.below h2
theorem comma_at (B b : Nat) (l : L8) (j : Nat) (w : World) (h : WB B b l w) (hlen : l.length + 2 ≤ 140737488351232) :
    Calls Tryd.prog 60 #[wAt b, .int .i64 j] w (WPost B b (l ++ (if (j == 0) = true then [] else [44, 32])) w) := by
  cases j with
  | zero => simpa using comma_first B b l w h
  | succ j => simpa using comma_more B b l j w h hlen
abbrev boxP (nm : ByteArray) (pa : Option Addr) (pl pc : Nat) (op name : ByteArray) (n pos : Int) (a : Option Addr) (k cap : Nat) (at' : Int) : Obj := .cells (pdCells nm pa pl pc op name n pos a k cap at') 53
set_option maxRecDepth 100000 in
set_option maxHeartbeats 8000000 in
theorem wpred_any (p : Pd) (hp : p.okS = true) (B b : Nat) (l t : L8) (w : World) (hI : PIn B p w) (h : WB B b l w) (ht : t = pdTx p) (hlen : l.length + t.length ≤ 140737488351232) :
    Calls Tryd.prog 34 #[wAt b, .agg (pdCells p.name p.pa p.params.length p.pcap p.body.op p.body.name p.body.n p.body.pos p.body.a p.body.kids.len p.body.cap p.pos)] w (WPost B b (l ++ t) w) := by
  obtain ⟨hn, h6, hpa, hbo, hbs⟩ := pok_parts hp
  have hBw := hI.size
  have hbw := h.lt
  have hSF := fun (W : World) (hW : PIn B p W) => showF p.body W hW.now.body hbo hbs
  obtain ⟨nm, prs, ppa, ppc, ⟨bop, bname, bn, bpos, ba, bcap, bkids⟩, ppos⟩ := p
  simp only [Nd.val_def] at hn h6 hpa hSF
  show Calls _ _ #[wAt b, .agg (pdCells nm ppa prs.length ppc bop bname bn bpos ba bkids.len bcap ppos)] _ _
  obtain ⟨fx, hfx⟩ : ∃ fx, fx = Nd.fx ⟨bop, bname, bn, bpos, ba, bcap, bkids⟩ := ⟨_, rfl⟩
  have ht2 : t = ([112, 114, 101, 100, 32] ++ nm.data.toList ++ [40]) ++ prTx true prs ++ ([41, 32, 61, 32] ++ fx ++ [59, 10]) := by rw [ht, hfx]; rfl
  rw [← hfx] at hSF
  obtain ⟨r, hr⟩ : ∃ r, r = [112, 114, 101, 100, 32] ++ nm.data.toList ++ [40] := ⟨_, rfl⟩
  rw [← hr] at ht2
  have hL1 : l.length + r.length ≤ 140737488351232 := by rw [ht2] at hlen; simp only [List.length_append] at hlen ⊢; omega
  have hL2 : (l ++ r).length + (prTx true prs).length ≤ 140737488351232 := by rw [ht2] at hlen; simp only [List.length_append] at hlen ⊢; omega
  have hL3 : (l ++ r ++ prTx true prs).length + ([41, 32, 61, 32] ++ fx ++ [59, 10]).length ≤ 140737488351232 := by rw [ht2] at hlen; simp only [List.length_append] at hlen ⊢; omega
  have HE := Lib.hid (show l ++ r ++ prTx true prs ++ ([41, 32, 61, 32] ++ fx ++ [59, 10]) = l ++ t by rw [ht2]; simp only [List.append_assoc])
  have hP1 := put3_box B b l ⟨#[112, 114, 101, 100, 32]⟩ nm ⟨#[40]⟩ w _ (h.alloc (boxP nm ppa prs.length ppc bop bname bn bpos ba bkids.len bcap ppos)) (by rw [hr] at hL1; exact hL1)
  rw [show l ++ ((⟨#[112, 114, 101, 100, 32]⟩ : ByteArray).data.toList ++ nm.data.toList ++ (⟨#[40]⟩ : ByteArray).data.toList) = l ++ r by rw [hr]] at hP1
  have HP1 := Lib.hid hP1
  have HN1 := Lib.hid (new_at w (boxP nm ppa prs.length ppc bop bname bn bpos ba bkids.len bcap ppos))
  have HB1 := Lib.hid ((below_box w (boxP nm ppa prs.length ppc bop bname bn bpos ba bkids.len bcap ppos)).mono hBw)
  have HK1 := Lib.hid (kept_below (b := b) (below_box w (boxP nm ppa prs.length ppc bop bname bn bpos ba bkids.len bcap ppos)))
  have HI0 := Lib.hid hI
  have HSF := Lib.hid hSF
  have HL2 := Lib.hid hL2
  have HL3 := Lib.hid hL3
  have HPA := Lib.hid hpa
  obtain ⟨c0, c1, c2, c3, c4, c5, c6⟩ := pd_cells HN1.out
  clear hSF hL1 hL2 hL3 ht ht2 hlen hpa hn hbo hbs hI h hfx hP1 hp hr
  have hc5 := cellsNode
  have hc8 := cellsPred
  have hc3 := cellsDecl
  go_enter Tryd.func34, Tryd.ntmps34
  go_wp2_with fail
  refine HP1.out.mono ?_
  rintro e w2 ⟨rfl, hW2, hb2, hk2⟩
  have HN2 := Lib.hid (obj_kept HN1.out (by decide) (by omega) hk2)
  clear c0 c1 c2 c3 c4 c5 c6
  obtain ⟨c0, c1, c2, c3, c4, c5, c6⟩ := pd_cells HN2.out
  have HW2 := Lib.hid hW2
  have HB2 := Lib.hid (HB1.out.trans hb2)
  have HK2 := Lib.hid hk2
  clear hW2 hb2 hk2 HP1
  go_wp2_with fail
  go_loopw [14] (fun i wr => ∃ j : Nat, i = .int .i64 j ∧ j ≤ prs.length ∧ Hid (WB B b (l ++ r ++ prTx true (prs.take j)) wr) ∧ Hid (Below B w wr) ∧ Hid (KeptW b (w.alloc (boxP nm ppa prs.length ppc bop bname bn bpos ba bkids.len bcap ppos)) wr)) (fun i _ => prs.length - (intOf i).toNat)
  case atStart => exact ⟨0, rfl, Nat.zero_le _, Lib.hid (by simpa [prTx] using HW2.out), HB2, HK2⟩
  case round =>
    obtain ⟨j, rfl, hj, HW, HB, HK⟩ := hrel
    clear HW2 HB2 HK2 c0 c1 c2 c3 c4 c5 c6 HN2
    have hPI := HI0.out.next HB.out
    by_cases hlt : j < prs.length
    · have hlt2 : (j : Int) < prs.length := by omega
      obtain ⟨d, hd⟩ : ∃ d, prs[j]? = some d := ⟨_, List.getElem?_eq_getElem hlt⟩
      have hdm : d ∈ prs := by obtain ⟨hx, rfl⟩ := List.getElem?_eq_some_iff.1 hd; exact List.getElem_mem _
      have hdok : d.ok = true := List.all_eq_true.1 HPA.out d hdm
      obtain ⟨pb, po, hpa2, hplim, hpat, _⟩ : ∃ b o, ppa = some ⟨b, o, none⟩ ∧ prs.length ≤ 140737488351232 ∧ (∀ i d, prs[i]? = some d → DcAt wr b (o + i * 3) d) ∧ ∀ d ∈ prs, d.name.size ≤ 140737488351232 := by
        rcases hPI.now.params with h | h
        · exfalso; rw [show prs = [] from h] at hlt; exact absurd hlt (Nat.not_lt_zero _)
        · exact h
      obtain ⟨e0, e1, e2⟩ := hpat j d hd
      have htk := prTx_take prs j d hd
      have hle := prTx_le prs (j + 1)
      have hl2 := HL2.out
      have hq1 : (l ++ r ++ prTx true (prs.take j)).length + 2 ≤ 140737488351232 := by
        have hL3' := HL3.out
        have := prTx_le prs j
        simp only [List.length_append, List.length_cons, List.length_nil] at hL3' ⊢
        omega
      have hq2 : (l ++ r ++ prTx true (prs.take j) ++ (if (j == 0) = true then [] else [44, 32])).length + (dTx d).length ≤ 140737488351232 := by
        rw [htk] at hle
        simp only [List.length_append] at hle hl2 ⊢
        omega
      have hq3 : l ++ r ++ prTx true (prs.take j) ++ (if (j == 0) = true then [] else [44, 32]) ++ dTx d = l ++ r ++ prTx true (prs.take (j + 1)) := by rw [htk]; simp only [List.append_assoc]
      have HQ3 := Lib.hid hq3
      have hwlt := HW.out.lt
      have hbx := below_box wr (boxD d.name d.order d.pos)
      have HNB := Lib.hid (new_at wr (boxD d.name d.order d.pos))
      have HC := Lib.hid (comma_at B b _ j _ (HW.out.alloc (boxD d.name d.order d.pos)) hq1)
      have HDD := Lib.hid (fun (W : World) hW => wdecl_any d hdok B b _ (dTx d) W hW rfl hq2)
      have HBx := Lib.hid (HB.out.trans (hbx.mono hPI.size))
      have HKx := Lib.hid (HK.out.trans (kept_below hbx))
      obtain ⟨name1, order1, pos1⟩ := d
      simp only at e0 e1 e2
      subst hpa2
      clear hPI hpat htk hle hl2 hq1 hq2 hq3 hbx HW HB HK hd hdm hdok
      go_wp2_with fail
      refine HC.out.mono ?_
      rintro e w3 ⟨rfl, hW3, hb3, hk3⟩
      obtain ⟨f0, f1, f2⟩ := boxD_cells (obj_kept HNB.out (by decide) (by omega) hk3)
      have HD3 := Lib.hid (HDD.out w3 hW3)
      have HB3 := Lib.hid (HBx.out.trans hb3)
      have HK3 := Lib.hid (HKx.out.trans hk3)
      clear hW3 hb3 hk3 HC HDD HBx HKx e0 e1 e2
      go_wp2_with fail
      refine HD3.out.mono ?_
      rintro e w4 ⟨rfl, hW4, hb4, hk4⟩
      rw [HQ3.out] at hW4
      have HW4 := Lib.hid hW4
      have HB4 := Lib.hid (HB3.out.trans hb4)
      have HK4 := Lib.hid (HK3.out.trans hk4)
      clear hW4 hb4 hk4 HD3 HB3 HK3 f0 f1 f2 HQ3
      go_wp2
      go_roundw
      case rel => exact ⟨j + 1, by go_num, by omega, HW4, HB4, HK4⟩
      case measure => (try simp [intOf]); omega
    · obtain rfl : j = prs.length := by omega
      have hall : prs.take prs.length = prs := List.take_length
      rw [hall] at HW
      obtain ⟨c0, c1, c2, c3, c4, c5, c6⟩ := pd_cells (obj_kept HN1.out (by decide) (by omega) HK.out)
      have HSF2 := Lib.hid (HSF.out wr hPI)
      clear hPI hall
      go_wp2_with fail
      refine HSF2.out.mono ?_
      rintro e w3 ⟨rfl, hb3⟩
      have hbs := HI0.out.next HB.out
      have HP3 := Lib.hid (put3 B b _ ⟨#[41, 32, 61, 32]⟩ ⟨fx.toArray⟩ ⟨#[59, 10]⟩ w3 (HW.out.below hb3) HL3.out)
      have HB3 := Lib.hid (HB.out.trans (hb3.mono hbs.size))
      have HK3 := Lib.hid (HK.out.trans (kept_below hb3))
      clear hb3 hbs HSF2 HW HB HK c0 c1 c2 c3 c4 c5 c6
      go_wp2_with fail
      refine HP3.out.mono ?_
      rintro e w4 ⟨rfl, hW4, hb4, hk4⟩
      have hW4' : WB B b (l ++ t) w4 := by rw [← HE.out]; exact hW4
      have HZ := Lib.hid (show WPost B b (l ++ t) w (.returned (.tuple #[])) w4 from ⟨rfl, hW4', HB3.out.trans hb4, HK1.out.trans (HK3.out.trans hk4)⟩)
      clear HP3 hW4 hW4' hb4 hk4 HB3 HK3
      go_wp2_with fail
      go_end0
      exact HZ.out
end Go.Proofs.YtamihfgkpilfiaaDoor
