/- The walk of TreeProgs. -/
import Derived.Test.YtmmicnjiikiklaaDoorGIs
import Derived.Test.YtmmicnjiikiklaaDoorOpen
import Derived.Test.YtmmicnjiikiklaaDoorTrC
import Derived.Test.YtmmicnjiikiklaaDoorLexTb
import Derived.Test.YtmmicnjiikiklaaDoorLexA
import Derived.Test.YtmmicnjiikiklaaDoorRows
import Derived.WalkKit
import Derived.WalkLawsBesides
import Derived.WalkSpells
import Derived.ProofKit
import Derived.Outline
import Derived.Deep.QuietTactic
import Derived.BigQuiet
import Derived.Deep.Light
import Derived.Deep.CutBlock
import Derived.Deep.DeepCutAuto
import Derived.Deep.DeepFit
import Derived.Deep.LoopGhost
import Derived.Lib.Hide
import Derived.Lib.OthersKept
import Derived.IntWalk
import Derived.StillTailTactics
import Derived.Deep.RegionHeld3
namespace Go.Proofs.YtmmicnjiikiklaaDoor
open Go.RowKit
/-! The walk of TreeProgs. -/
theorem pds_fine {w : World} {pa : Option Addr} {ps : List Pd} (h : PdsLie w pa ps) (hf : ∀ p ∈ ps, p.body.deep ≤ 30 ∧ p.body.size ≤ 300) : PdsIn w pa ps :=
  ⟨h.1, fun p hp => ⟨(h.2 p hp).params, (h.2 p hp).body, (h.2 p hp).sized, (h.2 p hp).name, (hf p hp).1, by have := (hf p hp).2; omega⟩⟩
theorem PdsLie.below {w w' : World} (hb : Below w.heap.size w w') {pa : Option Addr} {ps : List Pd} (h : PdsLie w pa ps) : PdsLie w' pa ps := by
  refine ⟨?_, fun p hp => (h.2 p hp).below hb⟩
  rcases h.1 with h1 | ⟨b, o, h1, h2, h3⟩
  · exact .inl h1
  · exact .inr ⟨b, o, h1, h2, fun i p hi => (h3 i p hi).below hb⟩
theorem PdsIn.below {w w' : World} (hb : Below w.heap.size w w') {pa : Option Addr} {ps : List Pd} (h : PdsIn w pa ps) : PdsIn w' pa ps := by
  refine ⟨?_, fun p hp => (h.2 p hp).below hb⟩
  rcases h.1 with h1 | ⟨b, o, h1, h2, h3⟩
  · exact .inl h1
  · exact .inr ⟨b, o, h1, h2, fun i p hi => (h3 i p hi).below hb⟩
/-- The box's cells, and all that was there. -/
def PgS (w : World) (B : Nat) (da : Option Addr) (dlen dc : Nat) (pa : Option Addr) (pl pc : Nat) (op name : ByteArray) (n pos : Int) (a : Option Addr) (k cap : Nat) (w' : World) : Prop :=
  w'.heap[B]? = some (.cells (pgCells da dlen dc pa pl pc op name n pos a k cap) 28) ∧ Below w.heap.size w w'
/-- Whatever was there at w is there at w'. -/
def WFrom (w w' : World) : Prop := Below w.heap.size w w'
theorem WFrom.refl (w : World) : WFrom w w := Below.refl _ _
theorem WFrom.drew {w w' : World} (h : WFrom w w') : WFrom w w'.drew := Below.drew h
set_option maxRecDepth 100000 in
set_option maxHeartbeats 16000000 in
theorem progs_walk (ds : List Dc) (da : Option Addr) (dc : Nat) (ps : List Pd) (pa : Option Addr) (pc : Nat) (T : Nd) (w : World) (hd : DcsIn w da ds) (hp : PdsLie w pa ps) (hm : T.In w) (hms : T.sized) (hTT : LTabs w ∧ UT w) :
    Calls Tryd.prog 3 #[.agg #[.slice da ds.length dc, .slice pa ps.length pc, .string T.op, .string T.name, .int .i64 T.n, .int .i64 T.pos, .slice T.a T.kids.len T.cap]] w fun e w' => e = .returned (.bool true) ∧ Below w.heap.size w w' := by
  obtain ⟨hT, hU⟩ := hTT
  have hc5 := cellsNode
  have hc8 := cellsPred
  have HF0 := Lib.hid (fun W (hb : Below w.heap.size w W) => fine_any T W (hm.below hb))
  have HIS := Lib.hid (fun W (hb : Below w.heap.size w W) (hpf : ∀ p ∈ ps, p.body.deep ≤ 30 ∧ p.body.size ≤ 300) (h1 : T.deep ≤ 30) (h2 : T.size ≤ 300) => is_any ds da dc ps pa pc T W (hT.below hb) (hd.below hb) ((pds_fine hp hpf).below hb) (hm.below hb) hms h1 (by omega))
  have HRS := Lib.hid (fun W (hb : Below w.heap.size w W) (hpf : ∀ p ∈ ps, p.body.deep ≤ 30 ∧ p.body.size ≤ 300) (h1 : T.deep ≤ 30) (h2 : T.size ≤ 300) => ris_any ds da dc ps pa pc T W (Utf8Tabs_below hU hb) (hd.below hb) ((pds_fine hp hpf).below hb) (hm.below hb) hms h1 (by omega))
  have HPI := Lib.hid hp.1
  have HPL := Lib.hid hp.2
  obtain ⟨op, name, n, pos, a, cap, kids⟩ := T
  rw [Nd.val_def] at HF0
  simp only [] at HIS HRS
  generalize (Nd.mk op name n pos a cap kids).okF = q at HIS HRS
  generalize hdp : (Nd.mk op name n pos a cap kids).deep = dp at HF0 HIS HRS
  generalize hsz : (Nd.mk op name n pos a cap kids).size = sz at HF0 HIS HRS
  clear hdp hsz hT hU hd hp hm hms
  have HB := Lib.hid (new_at w (.cells (pgCells da ds.length dc pa ps.length pc op name n pos a kids.len cap) 28))
  show Calls _ _ #[.agg #[.slice da ds.length dc, .slice pa ps.length pc, .string op, .string name, .int .i64 n, .int .i64 pos, .slice a kids.len cap]] w _
  have HC := Lib.hid (HF0.out _ (below_box w (.cells (pgCells da ds.length dc pa ps.length pc op name n pos a kids.len cap) 28)))
  by_cases hdl : (ds.length : Int) ≤ 50
  case neg =>
    go_enter Tryd.func3, Tryd.ntmps3
    go_wp2_with fail
    go_ret
    exact ⟨rfl, below_box _ _⟩
  by_cases hpl : (ps.length : Int) ≤ 20
  case neg =>
    go_enter Tryd.func3, Tryd.ntmps3
    go_wp2_with fail
    go_ret
    exact ⟨rfl, below_box _ _⟩
  by_cases hfine : (decide (dp ≤ 30) && decide (sz ≤ 300)) = true
  case neg =>
    rw [Bool.eq_false_iff.2 hfine] at HC
    clear hfine
    go_enter Tryd.func3, Tryd.ntmps3
    go_wp2_with fail
    refine HC.out.mono ?_
    rintro e w2 ⟨rfl, hb2⟩
    have hbx := box_then hb2
    clear hb2 HC
    go_wp2_with fail
    go_ret
    exact ⟨rfl, hbx⟩
  have hf2 := hfine
  rw [hfine] at HC
  rw [Bool.and_eq_true, decide_eq_true_eq, decide_eq_true_eq] at hf2
  have HFI := Lib.hid hf2
  clear hfine hf2
  go_enter Tryd.func3, Tryd.ntmps3
  go_wp2_with fail
  refine HC.out.mono ?_
  rintro e w2 ⟨rfl, hb2⟩
  have hbx := box_then hb2
  have HX := Lib.hid ((hb2.block _ (lt_heap HB.out)).trans HB.out)
  clear hb2 HC
  go_wp2_with fail
  go_loopw [3] (fun i wr => ∃ k : Nat, i = .int .i64 k ∧ k ≤ ps.length ∧ RowKit.Hid (∀ p ∈ ps.take k, p.body.deep ≤ 30 ∧ p.body.size ≤ 300) ∧ RowKit.Hid (wr.heap[w.heap.size]? = some (.cells (pgCells da ds.length dc pa ps.length pc op name n pos a kids.len cap) 28)) ∧ Below w.heap.size w wr) (fun i _ => ps.length - (intOf i).toNat)
  case atStart => exact ⟨0, rfl, by omega, Lib.hid (fun p hp => by simp at hp), HX, hbx⟩
  case round =>
    clear HX hbx
    obtain ⟨k, rfl, hk, HL, HX, hbx⟩ := hrel
    obtain ⟨b0, b1, b2, b3, b4, b5, b6⟩ := pg_cells HX.out
    by_cases hkl : k < ps.length
    · have hkl2 : (k : Int) < ps.length := by omega
      have hg := List.getElem?_eq_getElem hkl
      obtain ⟨pb, po, hpa, hplim, hpat⟩ : ∃ b o, pa = some ⟨b, o, none⟩ ∧ ps.length ≤ 140737488351232 ∧ ∀ i p, ps[i]? = some p → PdAt w b (o + i * 8) p := by
        rcases HPI.out with h | h
        · rw [h] at hkl; exact absurd hkl (Nat.not_lt_zero _)
        · exact h
      subst hpa
      obtain ⟨c0, c1, c2, c3, c4, c5, c6, c7⟩ := (hpat k (ps[k]'hkl) hg).below hbx
      have HF := Lib.hid (HPL.out (ps[k]'hkl) (List.getElem_mem _))
      have HT : RowKit.Hid (ps.take (k + 1) = ps.take k ++ [ps[k]'hkl]) := Lib.hid (List.take_succ_eq_append_getElem hkl)
      clear hg hpat
      generalize (ps[k]'hkl) = p at c0 c1 c2 c3 c4 c5 c6 c7 HF HT
      obtain ⟨nm, prs, ppa, ppc, ⟨bop, bname, bn, bpos, ba, bcap, bkids⟩, ppos⟩ := p
      simp only [] at c0 c1 c2 c3 c4 c5 c6 c7
      have hcall := fine_any ⟨bop, bname, bn, bpos, ba, bcap, bkids⟩ wr (HF.out.body.below hbx)
      have HTK : RowKit.Hid ((Nd.mk bop bname bn bpos ba bcap bkids).deep ≤ 30 → (Nd.mk bop bname bn bpos ba bcap bkids).size ≤ 300 → ∀ p ∈ ps.take (k + 1), p.body.deep ≤ 30 ∧ p.body.size ≤ 300) := Lib.hid (fun h1 h2 p hp => by
        rw [HT.out, List.mem_append, List.mem_singleton] at hp
        rcases hp with hp | rfl
        · exact HL.out p hp
        · exact ⟨h1, h2⟩)
      rw [Nd.val_def] at hcall
      generalize (Nd.mk bop bname bn bpos ba bcap bkids).deep = bd at HTK hcall
      generalize (Nd.mk bop bname bn bpos ba bcap bkids).size = bz at HTK hcall
      simp only [] at hcall
      have HC := Lib.hid hcall
      clear hcall HT
      by_cases h20 : (prs.length : Int) ≤ 20
      case neg =>
        go_wp2_with fail
        go_ret
        exact ⟨rfl, hbx⟩
      by_cases hfine : (decide (bd ≤ 30) && decide (bz ≤ 300)) = true
      case neg =>
        rw [Bool.eq_false_iff.2 hfine] at HC
        clear hfine
        go_wp2_with fail
        refine HC.out.mono ?_
        rintro e w3 ⟨rfl, hb3⟩
        have hbx3 := hbx.trans (hb3.mono hbx.size)
        clear hb3 HC
        go_wp2_with fail
        go_ret
        exact ⟨rfl, hbx3⟩
      rw [hfine] at HC
      rw [Bool.and_eq_true, decide_eq_true_eq, decide_eq_true_eq] at hfine
      have HL3 := Lib.hid (HTK.out hfine.1 hfine.2)
      clear hfine
      go_wp2_with fail
      refine HC.out.mono ?_
      rintro e w3 ⟨rfl, hb3⟩
      have hbx3 := hbx.trans (hb3.mono hbx.size)
      have HX3 := Lib.hid ((hb3.block _ (lt_heap HX.out)).trans HX.out)
      clear hb3 HC b0 b1 b2 b3 b4 b5 b6 c0 c1 c2 c3 c4 c5 c6 c7
      go_wp2_with fail
      go_roundw
      case rel => exact ⟨k + 1, by go_num, by omega, HL3, HX3, hbx3⟩
      case measure => (try simp [intOf]); omega
    · obtain rfl : k = ps.length := by omega
      have hpf : ∀ p ∈ ps, p.body.deep ≤ 30 ∧ p.body.size ≤ 300 := by
        have := HL.out
        rw [List.take_length] at this
        exact this
      have HI2 := Lib.hid (fun W hb => HIS.out W hb hpf HFI.out.1 HFI.out.2)
      have HR2 := Lib.hid (fun W hb => HRS.out W hb hpf HFI.out.1 HFI.out.2)
      clear hpf HIS HRS HL HF0 HPI HPL
      generalize (ps.all Pd.ok && ds.all Dc.ok && q) = qq at HI2 HR2
      have hsz : w.heap.size < wr.heap.size := lt_heap HX.out
      have HI3 := Lib.hid (fun (W : World) (hb : WFrom wr W) => (HI2.out W (hbx.trans (Below.mono hb hbx.size))).mono fun e W' h => (⟨h.1, Below.trans hb (h.2.mono (Below.size hb))⟩ : e = .returned (.bool qq) ∧ WFrom wr W'))
      have HR3 := Lib.hid (fun (W : World) (hb : WFrom wr W) => (HR2.out W (hbx.trans (Below.mono hb hbx.size))).mono fun e W' h => (⟨h.1, Below.trans hb (h.2.mono (Below.size hb))⟩ : e = .returned (.bool qq) ∧ WFrom wr W'))
      have HK3 := Lib.hid (fun (W : World) (hb : WFrom wr W) => (tknown_any W).mono fun e W' h => (⟨h.1, Below.trans hb (h.2.mono (Below.size hb))⟩ : e = .returned (.bool true) ∧ WFrom wr W'))
      clear HI2 HR2
      have hfr0 := Lib.hid (WFrom.refl wr).drew
      have hqq : (qq == qq) = true := by simp
      go_wp2_with fail
      go_region_held3 (fun w' => w'.cell? ⟨w.heap.size, 0, none⟩ = some (.slice da ds.length dc) ∧ w'.cell? ⟨w.heap.size, 1, none⟩ = some (.slice pa ps.length pc) ∧ w'.cell? ⟨w.heap.size, 2, none⟩ = some (.string op) ∧ w'.cell? ⟨w.heap.size, 3, none⟩ = some (.string name) ∧ w'.cell? ⟨w.heap.size, 4, none⟩ = some (.int .i64 n) ∧ w'.cell? ⟨w.heap.size, 5, none⟩ = some (.int .i64 pos) ∧ w'.cell? ⟨w.heap.size, 6, none⟩ = some (.slice a kids.len cap)) (go_keep)
        (first | (go_at_call 8; refine (HI3.out _ hfr0.out).mono ?_; rintro e w4 ⟨rfl, d4⟩; obtain ⟨c0, c1, c2, c3, c4, c5, c6⟩ := pg_cells ((Below.block d4 _ hsz).trans HX.out); have hd4 := Lib.hid d4; clear d4) | (go_at_call 9; refine (HR3.out _ (Hid.out (by assumption))).mono ?_; rintro e w5 ⟨rfl, d5⟩; obtain ⟨c0, c1, c2, c3, c4, c5, c6⟩ := pg_cells ((Below.block d5 _ hsz).trans HX.out); have hd5 := Lib.hid d5; clear d5) | (go_at_call 10; refine (HK3.out _ (Hid.out (by assumption))).mono ?_; rintro e w6 ⟨rfl, d6⟩; obtain ⟨c0, c1, c2, c3, c4, c5, c6⟩ := pg_cells ((Below.block d6 _ hsz).trans HX.out); have hd6 := Lib.hid d6; clear d6))
      have hb7 := hbx.trans (Below.mono hd6.out hbx.size)
      clear hd6
      go_wp2_with fail
      go_ret
      exact ⟨rfl, hb7⟩
end Go.Proofs.YtmmicnjiikiklaaDoor
