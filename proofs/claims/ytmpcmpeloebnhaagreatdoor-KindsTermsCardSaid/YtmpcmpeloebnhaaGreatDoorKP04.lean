/- Parts of the proof: KM RefA RefName RefNum. -/
import Derived.Test.YtmpcmpeloebnhaaGreatDoorKP03
import Derived.Test.YtmpcmpeloebnhaaGreatDoorKP00
import Derived.Test.YtmpcmpeloebnhaaGreatDoorRows
import Derived.Test.YtmpcmpeloebnhaaGreatDoorKP01
import Derived.WalkKit
import Derived.WalkLawsBesides
import Derived.WalkSpells
import Derived.ProofKit
import Derived.Outline
import Derived.Deep.QuietTactic
import Derived.BigQuiet
import Derived.Deep.Light
import Derived.Deep.CutBlock
import Derived.Deep.DeepCutAuto
import Derived.Deep.DeepFit
import Derived.Deep.LoopGhost
import Derived.Lib.Hide
import Derived.Lib.OthersKept
import Derived.IntWalk
import Derived.StillTailTactics
import Derived.Maps.OwnSet
import Derived.Maps.OwnOps
import Derived.Deep.RegionHeld3
import Derived.OrdersHeld
namespace Go.Proofs.YtmpcmpeloebnhaaGreatDoor
open Go.RowKit
open Go.Maps
theorem below_kpK {w a b : World} {B : Nat} (h : Below w.heap.size w a) (k : Kp B a b) (hB : w.heap.size ≤ B) : Below w.heap.size w b :=
 h.trans ⟨k.os, k.tape, k.output, k.size, fun i hi => k.block i (Nat.lt_of_lt_of_le hi h.size) (fun e => by have := Option.some.inj e; omega)⟩
def PrdQ (w : World) (N m : Nat) (Q : ByteArray → Option (List Dc)) : Prop := ∃ f : ByteArray → Option Value, SMap Tryz.prog 9 w N m f ∧ ∀ s, (f s = none ∧ Q s = none) ∨ ∃ (a : Option Addr) (cap : Nat) (ds : List Dc), f s = some (.slice a ds.length cap) ∧ Q s = some ds ∧ DcsIn w a ds
theorem PrdQ.below {w w' : World} {N m : Nat} {Q : ByteArray → Option (List Dc)} (h : PrdQ w N m Q) (hb : Below w.heap.size w w') : PrdQ w' N m Q := by
 obtain ⟨f, h3, h4⟩ := h
 refine ⟨f, h3.same (hb.block N h3.lt), fun s => ?_⟩
 rcases h4 s with h | ⟨a, cap, ds, g1, g2, g3⟩
 ·exact .inl h
 ·exact .inr ⟨a, cap, ds, g1, g2, g3.below hb⟩
theorem PrdQ.is {w : World} {N m M : Nat} {Q : ByteArray → Option (List Dc)} (h : PrdQ w N m Q) (hM : N ≠ M) : PrdIs w M (.map (some N)) Q := by
 obtain ⟨f, h3, h4⟩ := h
 exact ⟨N, m, f, rfl, hM, h3, h4⟩
theorem PrdQ.lt {w : World} {N m : Nat} {Q : ByteArray → Option (List Dc)} (h : PrdQ w N m Q) : N < w.heap.size := by
 obtain ⟨f, h3, h4⟩ := h
 exact h3.lt
def predR (Q : ByteArray → Option (List Dc)) (P : Pd) : Int × Int := if (Q P.name).isSome = true then (P.pos, 6) else if (onceR P.params).2 = 0 then P.body.fk Q (ordD P.params) else onceR P.params
abbrev pdBox (P : Pd) : Obj := .cells #[.string P.name, .slice P.pa P.params.length P.pcap, .string P.body.op, .string P.body.name, .int .i64 P.body.n, .int .i64 P.body.pos, .slice P.body.a P.body.kids.len P.body.cap, .int .i64 P.pos] 64
theorem pdb_cells {w : World} {B : Nat} {P : Pd} (h : w.heap[B]? = some (pdBox P)) : w.cell? ⟨B, 0, none⟩ = some (.string P.name) ∧ w.cell? ⟨B, 1, none⟩ = some (.slice P.pa P.params.length P.pcap) ∧ w.cell? ⟨B, 2, none⟩ = some (.string P.body.op) ∧ w.cell? ⟨B, 3, none⟩ = some (.string P.body.name) ∧ w.cell? ⟨B, 4, none⟩ = some (.int .i64 P.body.n) ∧ w.cell? ⟨B, 5, none⟩ = some (.int .i64 P.body.pos) ∧ w.cell? ⟨B, 6, none⟩ = some (.slice P.body.a P.body.kids.len P.body.cap) ∧ w.cell? ⟨B, 7, none⟩ = some (.int .i64 P.pos) := by
 refine ⟨?_, ?_, ?_, ?_, ?_, ?_, ?_, ?_⟩ <;> (rw [cell_of_row _ _ _ _ _ _ h]; rfl)
set_option maxRecDepth 100000 in
set_option maxHeartbeats 16000000 in
theorem kpred_any (P : Pd) (w : World) (N m : Nat) (Q : ByteArray → Option (List Dc)) (hq : PrdQ w N m Q) (hl : P.params.length ≤ 1000000) (hd : DcsIn w P.pa P.params) (hb : P.body.In w) (hs : P.body.sized) (hn : P.name.size ≤ 140737488351232) (hok : P.body.okF = true) (hz : P.body.size ≤ 2000) :
  Calls Tryz.prog 46 #[.agg #[.string P.name, .slice P.pa P.params.length P.pcap, .string P.body.op, .string P.body.name, .int .i64 P.body.n, .int .i64 P.body.pos, .slice P.body.a P.body.kids.len P.body.cap, .int .i64 P.pos], .map (some N)] w fun e w' => e = .returned (.tuple #[.int .i64 (predR Q P).1, .int .i64 (predR Q P).2]) ∧ Below w.heap.size w w' := by
 obtain ⟨q0, hq0⟩ : ∃ q0, q0 = predR Q P := ⟨_, rfl⟩
 rw [← hq0]
 have hc8 := cellsPred
 have hc5 := cellsNode
 have hnm : P.name.size ≤ maxLen := by unfold maxLen; omega
 have HB := Lib.hid (new_at w (pdBox P))
 have HW := Lib.hid (below_box w (pdBox P))
 have hQ1 := hq.below HW.out
 have hNl := hq.lt
 have HQ1 := Lib.hid hQ1
 obtain ⟨f, hsm, hf⟩ := hQ1
 have HSM := Lib.hid hsm
 have hpq := hf P.name
 obtain ⟨p0, p1, p2, p3, p4, p5, p6, p7⟩ := pdb_cells HB.out
 have HDI := Lib.hid (hd.below HW.out)
 have HC1 := Lib.hid (konce_any P.params P.pa P.pcap (w.alloc (pdBox P)) hl HDI.out)
 have HFQ := Lib.hid (fun W M nM (ho : OrdIs W M nM (ordD P.params)) (hM : w.heap.size < M) (hn : nM ≤ P.params.length) (hW : Below w.heap.size w W) => kformula_all P.body W M nM (.map (some N)) (ordD P.params) Q ho ((hq.below hW).is (by omega)) (hb.below hW) hs hok (by omega))
 have HSC := Lib.hid (fun W (hW : Below w.heap.size w W) => kscope_any P.params P.pa P.pcap (some N) W hl (hd.below hW))
 clear hq hd hb hs hok hsm hf hn hz
 rw [Nd.val_def] at HFQ
 rcases hpq with ⟨hfn, hqn⟩ | ⟨qa, qcap, qds, hfn, hqn, _⟩
 ·have hr : q0 = (if (onceR P.params).2 = 0 then P.body.fk Q (ordD P.params) else onceR P.params) := by rw [hq0]; unfold predR; rw [hqn]; rfl
  have HN := Lib.hid hfn
  clear hq0 hfn hqn
  generalize onceR P.params = o at HC1 hr
  obtain ⟨op1, oe⟩ := o
  simp only [] at HC1 hr
  by_cases hoe : oe = 0
  ·subst hoe
   have hr2 : q0 = P.body.fk Q (ordD P.params) := by rw [hr, if_pos rfl]
   rw [← hr2] at HFQ
   clear hr hr2
   go_enter Tryz.func46, Tryz.ntmps46
   go_wp2_with (at_lookup; refine wpList_lookup_smap _ rfl _ _ 79 rfl 9 22 Tryz.underlying9 Tryz.underlying79 (zeroDcs _) N m f rfl HSM.out P.name rfl hnm ?_; rw [HN.out])
   go_wp2_with fail
   refine HC1.out.mono ?_
   rintro e w2 ⟨rfl, hb2⟩
   have HW2 := Lib.hid (HW.out.trans (hb2.mono HW.out.size))
   replace p1 := cell_below hb2 p1
   replace p2 := cell_below hb2 p2
   replace p3 := cell_below hb2 p3
   replace p4 := cell_below hb2 p4
   replace p5 := cell_below hb2 p5
   replace p6 := cell_below hb2 p6
   have hbsz : w.heap.size < w2.heap.size := by have h1 := hb2.size; rw [alloc_size] at h1; omega
   clear hb2 HC1 HN HSM HQ1 HDI p0 p7 HB
   have HC3 := Lib.hid (HSC.out w2.drew HW2.out.drew)
   have HB2 := Lib.hid (Below.refl w2.heap.size w2).drew
   go_wp2_with fail
   go_region_held3 (fun wz => wz.cell? ⟨w.heap.size, 1, none⟩ = some (.slice P.pa P.params.length P.pcap) ∧ wz.cell? ⟨w.heap.size, 2, none⟩ = some (.string P.body.op) ∧ wz.cell? ⟨w.heap.size, 3, none⟩ = some (.string P.body.name) ∧ wz.cell? ⟨w.heap.size, 4, none⟩ = some (.int .i64 P.body.n) ∧ wz.cell? ⟨w.heap.size, 5, none⟩ = some (.int .i64 P.body.pos) ∧ wz.cell? ⟨w.heap.size, 6, none⟩ = some (.slice P.body.a P.body.kids.len P.body.cap)) (go_keep) (first | (go_at_call 47; refine HC3.out.mono ?_; rintro e w4 ⟨M, nM, rfl, hM1, hM2, ho4, hb4⟩; replace p1 := cell_below (HB2.out.trans (hb4.mono HB2.out.size)) p1; replace p2 := cell_below (HB2.out.trans (hb4.mono HB2.out.size)) p2; replace p3 := cell_below (HB2.out.trans (hb4.mono HB2.out.size)) p3; replace p4 := cell_below (HB2.out.trans (hb4.mono HB2.out.size)) p4; replace p5 := cell_below (HB2.out.trans (hb4.mono HB2.out.size)) p5; replace p6 := cell_below (HB2.out.trans (hb4.mono HB2.out.size)) p6; have HW4 := Lib.hid (HW2.out.trans ((HB2.out.trans (hb4.mono HB2.out.size)).mono HW2.out.size)); have HC5 := Lib.hid (HFQ.out w4 M nM ho4 (Nat.lt_of_lt_of_le hbsz hM1) hM2 HW4.out); have hM3 : w.heap.size ≤ M := Nat.le_of_lt (Nat.lt_of_lt_of_le hbsz hM1); have HCW := Lib.hid (fun w5 (h : Kp M w4 w5) => ho4.cl h); clear ho4 hb4) | (go_at_call 48; refine HC5.out.mono ?_; rintro e w5 ⟨rfl, hk5, m5, hm5, ho5⟩; have HW5 := Lib.hid (below_kpK HW4.out hk5 hM3); replace p1 := (HCW.out w5 hk5).cell _ _ p1; replace p2 := (HCW.out w5 hk5).cell _ _ p2; replace p3 := (HCW.out w5 hk5).cell _ _ p3; replace p4 := (HCW.out w5 hk5).cell _ _ p4; replace p5 := (HCW.out w5 hk5).cell _ _ p5; replace p6 := (HCW.out w5 hk5).cell _ _ p6; clear hk5 ho5))
   clear HCW HC5 HC3 HW4 HB2 HFQ HSC HW2 HW p1 p2 p3 p4 p5 p6
   go_wp2_with fail
   go_ret2
   exact ⟨rfl, HW5.out⟩
  ·have hr2 : q0 = (op1, oe) := by rw [hr, if_neg hoe]
   have hob : (oe != 0) = true := by simp [hoe]
   subst hr2
   clear hr hoe
   go_enter Tryz.func46, Tryz.ntmps46
   go_wp2_with (at_lookup; refine wpList_lookup_smap _ rfl _ _ 79 rfl 9 22 Tryz.underlying9 Tryz.underlying79 (zeroDcs _) N m f rfl HSM.out P.name rfl hnm ?_; rw [HN.out])
   go_wp2_with fail
   refine HC1.out.mono ?_
   rintro e w2 ⟨rfl, hb2⟩
   have HW2 := Lib.hid (HW.out.trans (hb2.mono HW.out.size))
   clear hb2 HC1
   go_wp2_with fail
   go_ret2
   exact ⟨rfl, HW2.out⟩
 ·have hr : q0 = (P.pos, 6) := by rw [hq0]; unfold predR; rw [hqn]; rfl
  have HN := Lib.hid hfn
  clear hq0 hfn hqn
  subst hr
  go_enter Tryz.func46, Tryz.ntmps46
  go_wp2_with (at_lookup; refine wpList_lookup_smap _ rfl _ _ 79 rfl 9 22 Tryz.underlying9 Tryz.underlying79 (zeroDcs _) N m f rfl HSM.out P.name rfl hnm ?_; rw [HN.out])
  go_wp2_with fail
  go_ret2
  exact ⟨rfl, HW.out⟩
end Go.Proofs.YtmpcmpeloebnhaaGreatDoor
namespace Go.Proofs.YtmpcmpeloebnhaaGreatDoor
open Go.RowKit
set_option maxHeartbeats 1000000 in
theorem rclass_any (r : Int) (w : World) :
  Calls Tryz.prog 141 #[.int .i32 r] w fun e w' => e = .returned (.int .i64 (cls r)) ∧ w = w' := by
 go_enter Tryz.func141, Tryz.ntmps141
 go_upto_block 0 with fail
 go_cut [] from 5 (fun wc => w = wc ∧ noOther r)
 case first =>
  go_wp2
  all_goals first
   | (go_ret; refine ⟨ret_int ?_, rfl⟩; go_light; (try simp only [beq_iff_eq, beq_eq_false_iff_ne, ne_eq] at *); first | exact cls1 (by unfold isLet; omega) | exact cls2 (by omega) | exact cls3 (by omega))
   | (go_meet; case rel => (refine ⟨rfl, ?_⟩; go_light; (try simp only [beq_eq_false_iff_ne, ne_eq] at *); exact ⟨by unfold isLet; omega, by omega, by omega⟩))
 case rest =>
  obtain ⟨rfl, hno⟩ := hcut
  go_wp2
  go_loop [4] (fun i => ∃ k : Nat, k ≤ 17 ∧ i = .int .i64 k ∧ noSgn r k) (fun i => 17 - (intOf i).toNat)
  case atStart => exact ⟨0, by omega, rfl, by simp [noSgn]⟩
  case round =>
   obtain ⟨k, hk, rfl, hs⟩ := hrel
   by_cases hlt : k < 17
   ·have hsg := all17 k hlt
    by_cases he : r = sgn[k]'hlt
    ·have h1 : (r == sgn[k]'hlt) = true := by simpa using he
     have h4 := Lib.hid (cls4k r k hlt he)
     clear he
     go_wp2
     go_ret
     exact ⟨ret_int h4.out, rfl⟩
    ·have h1 : (r == sgn[k]'hlt) = false := by simpa using he
     have h4 := noSgn_succ r k hlt hs he
     clear he
     go_wp2
     go_round
     case rel => exact ⟨k + 1, by omega, by go_num, h4⟩
     case measure => simp [intOf]; omega
   ·have h0 := Lib.hid (cls0k r k hno (by omega) hs)
    go_wp2
    go_ret
    exact ⟨ret_int h0.out, rfl⟩
end Go.Proofs.YtmpcmpeloebnhaaGreatDoor
namespace Go.Proofs.YtmpcmpeloebnhaaGreatDoor
open Go.RowKit
theorem go_decode (s : ByteArray) (pos : Nat) (hp : pos < s.size) : Lib.decodeGo (s.extract pos s.size) = Utf8.decode s pos := by
 unfold Lib.decodeGo
 rw [Lib.tail_size, if_neg (by omega), Lib.tail_decode, Nat.add_zero]
set_option maxRecDepth 1000000 in
set_option maxHeartbeats 2000000 in
theorem reach_any (s : ByteArray) (w : World) (hs : s.size ≤ 1000000) (hT : Lib.Utf8Tabs 2 3 w) :
  Calls Tryz.prog 65 #[.string s] w (EachPost s w) := by
 obtain ⟨i0, hi, hz0, hz1, hz2⟩ := info_parts Tryz.infoRune
 go_enter Tryz.func65, Tryz.ntmps65
 go_wp2
 go_loopw [4, 5] (fun v i wr => ∃ (pos b : Nat) (acc : List (Int × Int)), i = .int .i64 pos ∧ pos ≤ s.size ∧ wr.ownsRow w.heap.size 131 2 v acc.length (flat acc) ∧ Below w.heap.size w wr ∧ Hid (soFar s acc b pos) ∧ s.size ≤ pos + b ∧ acc.length ≤ pos) (fun _ i wr => s.size - (intOf i).toNat)
 case atStart => exact ⟨0, s.size, [], rfl, by omega, World.ownsRow_nil _ _ _ _, Below.refl _ _, soFar_start s, by omega, by simp⟩
 case round =>
  obtain ⟨pos, b, acc, rfl, hps, hown, hbw, HS, hb, hlen⟩ := hrel
  by_cases hp : pos < s.size
  ·have hwd := width_pos s pos hp
   have hwl := width_le s pos hp
   have hTr := Utf8Tabs_below hT hbw
   obtain ⟨b, rfl⟩ : ∃ f', b = f' + 1 := ⟨b - 1, by omega⟩
   go_wp2_with fail
   refine (Tryz.utf8_DecodeRuneInString _ _ hTr).mono ?_
   rintro e w1 ⟨rfl, hb1⟩
   rw [go_decode s pos hp]
   have hown1 := own_below hown hb1
   have hbw1 : Below w.heap.size w w1 := hbw.trans (hb1.mono hbw.size)
   have hz1' := hbw1.size
   clear hown hb1 hTr
   by_cases hbad : badAt s pos
   ·have hr1 : (((Utf8.decode s pos).1 : Int) == 65533) = true := by rw [beq_iff_eq]; have := hbad.1; omega
    have hn : ((Utf8.decode s pos).2 : Int) < 2 := by have := hbad.2; omega
    have hX := soFar_bad s acc b pos hp hbad HS.out
    have H1 := Lib.hid hX.1
    have H2 := Lib.hid hX.2
    clear hX HS hbad
    go_wp2
    go_ret2
    exact ⟨u4, ret_v H2.out, by rw [← H1.out]; exact hown1, hbw1⟩
   ·have R := soFar_one s acc b pos hp hbad HS.out
    have HS' := Lib.hid R
    clear R HS
    by_cases hr : (Utf8.decode s pos).1 = 65533
    ·have hr1 : (((Utf8.decode s pos).1 : Int) == 65533) = true := by rw [beq_iff_eq]; omega
     have hn : 2 ≤ ((Utf8.decode s pos).2 : Int) := by unfold badAt at hbad; omega
     clear hr hbad
     go_wp2_with (at_builtin; refine wpList_append_own _ rfl _ _ 99 rfl w.heap.size 131 i0 (.agg #[.int .i32 0, .int .i64 0]) 2 16 Tryz.underlying99 hi hz0 hz1 hz2 rfl (by decide) _ _ _ rfl (hown1.alloc _) ⟨w1.heap.size, 0, none⟩ 1 1 [.int .i32 ((Utf8.decode s pos).1 : Int), .int .i64 (pos : Int)] rfl rfl (cell_two_new _ _ _ _) (fun x hx => by simp at hx; rcases hx with rfl | rfl <;> rfl) (by unfold maxLen; omega) (by omega) (by simp; omega) ?_; intro v' w3 hown' hgrow3 hnil3)
     have hbw3 : Below w.heap.size w w3 := Below.grown (hbw1.alloc (by omega) _) hgrow3 (by simp; omega) (fun j hj => (hown1.lt _ hj).1)
     rw [← flat_snoc acc ((((Utf8.decode s pos).1 : Int), (pos : Int)))] at hown'
     go_wp2
     go_roundw
     case rel => exact ⟨pos + (Utf8.decode s pos).2, b, acc ++ [((((Utf8.decode s pos).1 : Int), (pos : Int)))], by go_num, hwl, by simpa using hown', hbw3, HS'.out, by omega, by simp; omega⟩
     case measure => simp [intOf]; omega
    ·have hrb : (((Utf8.decode s pos).1 : Int) == 65533) = false := by rw [beq_eq_false_iff_ne]; omega
     clear hr hbad
     go_wp2_with (at_builtin; refine wpList_append_own _ rfl _ _ 99 rfl w.heap.size 131 i0 (.agg #[.int .i32 0, .int .i64 0]) 2 16 Tryz.underlying99 hi hz0 hz1 hz2 rfl (by decide) _ _ _ rfl (hown1.alloc _) ⟨w1.heap.size, 0, none⟩ 1 1 [.int .i32 ((Utf8.decode s pos).1 : Int), .int .i64 (pos : Int)] rfl rfl (cell_two_new _ _ _ _) (fun x hx => by simp at hx; rcases hx with rfl | rfl <;> rfl) (by unfold maxLen; omega) (by omega) (by simp; omega) ?_; intro v' w3 hown' hgrow3 hnil3)
     have hbw3 : Below w.heap.size w w3 := Below.grown (hbw1.alloc (by omega) _) hgrow3 (by simp; omega) (fun j hj => (hown1.lt _ hj).1)
     rw [← flat_snoc acc ((((Utf8.decode s pos).1 : Int), (pos : Int)))] at hown'
     go_wp2
     go_roundw
     case rel => exact ⟨pos + (Utf8.decode s pos).2, b, acc ++ [((((Utf8.decode s pos).1 : Int), (pos : Int)))], by go_num, hwl, by simpa using hown', hbw3, HS'.out, by omega, by simp; omega⟩
     case measure => simp [intOf]; omega
  ·have hX := soFar_end s acc b pos hp HS.out
   have H1 := Lib.hid hX.1
   have H2 := Lib.hid hX.2
   clear hX HS
   go_wp2
   go_ret2
   exact ⟨u4, ret_v H2.out, by rw [← H1.out]; exact hown, hbw⟩
end Go.Proofs.YtmpcmpeloebnhaaGreatDoor
namespace Go.Proofs.YtmpcmpeloebnhaaGreatDoor
open Go.RowKit
def Rd (w : World) (R : Nat) (s : ByteArray) (lv : Value) (bad i : Int) : Prop := w.heap[R]? = some (.cells #[.string s, lv, .int .i64 bad, .int .i64 i] 101)
structure RS (w : World) (R : Nat) (s : ByteArray) (lv : Value) (L : RL) (bad : Int) (i : Nat) : Prop where
 rd : Rd w R s lv bad i
 row : w.ownsRow (R + 1) 131 2 lv L.length (flat L)
 le : i ≤ L.length
 sz : L.length ≤ 1000000
theorem rd_cells {w : World} {R : Nat} {s : ByteArray} {lv : Value} {bad i : Int} (h : Rd w R s lv bad i) : (w.cell? ⟨R, 0, none⟩ = some (.string s) ∧ w.cell? ⟨R, 1, none⟩ = some lv ∧ w.cell? ⟨R, 2, none⟩ = some (.int .i64 bad) ∧ w.cell? ⟨R, 3, none⟩ = some (.int .i64 i)) ∧ (w.frozen? ⟨R, 0, none⟩ = false ∧ w.frozen? ⟨R, 1, none⟩ = false ∧ w.frozen? ⟨R, 2, none⟩ = false ∧ w.frozen? ⟨R, 3, none⟩ = false) := by
 unfold Rd at h
 refine ⟨⟨?_, ?_, ?_, ?_⟩, ⟨?_, ?_, ?_, ?_⟩⟩
 all_goals first | (rw [cell_of_row w R _ _ _ _ h]; rfl) | simp [World.frozen?, h]
theorem Rd.lt {w : World} {R : Nat} {s : ByteArray} {lv : Value} {bad i : Int} (h : Rd w R s lv bad i) : R < w.heap.size := (Array.getElem?_eq_some_iff.1 h).1
theorem Rd.below {w w' : World} {R : Nat} {s : ByteArray} {lv : Value} {bad i : Int} (h : Rd w R s lv bad i) (hb : Below w.heap.size w w') : Rd w' R s lv bad i := by
 unfold Rd at *
 rw [hb.block R (Array.getElem?_eq_some_iff.1 h).1]; exact h
theorem RS.below {w w' : World} {R : Nat} {s : ByteArray} {lv : Value} {L : RL} {bad : Int} {i : Nat} (h : RS w R s lv L bad i) (hb : Below w.heap.size w w') : RS w' R s lv L bad i :=
 ⟨h.rd.below hb, own_below h.row hb, h.le, h.sz⟩
theorem RS.slice {w : World} {R : Nat} {s : ByteArray} {lv : Value} {L : RL} {bad : Int} {i : Nat} (h : RS w R s lv L bad i) : ∃ a cap, lv = .slice a L.length cap ∧ (0 < L.length → ∃ g, a = some ⟨g, 0, none⟩ ∧ R < g ∧ g < w.heap.size ∧ ∀ j (hj : j < L.length), w.cell? ⟨g, j * 2, none⟩ = some (.int .i32 (L[j]'hj).1) ∧ w.cell? ⟨g, j * 2 + 1, none⟩ = some (.int .i64 (L[j]'hj).2)) := by
 have hr := h.row
 rcases h.row.2 with ⟨rfl, h0⟩ | ⟨g, cap, cur, rfl, hg, hc⟩
 ·exact ⟨none, 0, by rw [h0], fun hn => by omega⟩
 ·refine ⟨_, cap, rfl, fun _ => ⟨g, rfl, by omega, (hr.lt g rfl).2, fun j hj => ?_⟩⟩
  exact ⟨(hr.cellAt (j * 2) (by omega)).trans (flat_get0 L j hj), (hr.cellAt (j * 2 + 1) (by omega)).trans (flat_get1 L j hj)⟩
def clsAt (L : RL) (j : Nat) : Int := match L[j]? with
 | some q => cls q.1
 | none => -1
def isAt (L : RL) (j : Nat) (c : Int) : Bool := match L[j]? with
 | some q => q.1 == c
 | none => false
def posAt (s : ByteArray) (L : RL) (j : Nat) : Int := match L[j]? with
 | some q => q.2
 | none => s.size
theorem quiet_more {P : Program} {f : FuncId} {args : Array Value} {w : World} {a n : Nat} {v : Value}
  (h : Calls P f args (w.drewN (a + n)) fun e w' => e = .returned v ∧ w.drewN (a + n) = w') :
  Calls P f args (w.drewN (a + n)) fun e w'' => e = .returned v ∧ ∃ m, w'' = w.drewN (a + m) :=
 h.mono fun _ _ hx => ⟨hx.1, n, hx.2.symm⟩
set_option maxRecDepth 100000 in
set_option maxHeartbeats 2000000 in
theorem rdclass_any (w : World) (R : Nat) (s : ByteArray) (lv : Value) (L : RL) (bad : Int) (i k : Nat) (hS : RS w R s lv L bad i) (hk : k ≤ 1000000) :
  Calls Tryz.prog 116 #[.pointer (some ⟨R, 0, none⟩), .int .i64 k] w fun e w' => e = .returned (.int .i64 (clsAt L (i + k))) ∧ ∃ q, w' = w.drewN q := by
 obtain ⟨⟨k0, k1, k2, k3⟩, f0, f1, f2, f3⟩ := rd_cells hS.rd
 obtain ⟨a, cap, rfl, hrow⟩ := hS.slice
 have hle := hS.le
 have hsz := hS.sz
 have hw1 : IntKind.i64.wrap ((i : Int) + (k : Int)) = (i : Int) + (k : Int) := by rw [IntKind.wrap_i64]; omega
 by_cases h : i + k < L.length
 ·obtain ⟨g, rfl, hg, hgs, hcells⟩ := hrow (by omega)
  have hc0 := (hcells (i + k) h).1
  have hv : clsAt L (i + k) = cls (L[i + k]'h).1 := by unfold clsAt; rw [List.getElem?_eq_getElem h]
  rw [hv]
  generalize (L[i + k]'h) = q at hc0
  have hlt : (i : Int) + (k : Int) < (L.length : Int) := by omega
  have h0 : 0 ≤ (i : Int) + (k : Int) := by omega
  have hnat : ((i : Int) + (k : Int)).toNat = i + k := by omega
  clear hrow hcells hv hS h
  go_enter Tryz.func116, Tryz.ntmps116
  go_wp2
  go_quiet (fail)
  go_wp2
  go_quiet ((go_at_call 141; exact quiet_more (rclass_any _ _)))
  go_wp2
  go_ret
  exact ⟨rfl, _, by rw [World.drewN_drewN]⟩
 ·have hv : clsAt L (i + k) = -1 := by unfold clsAt; rw [List.getElem?_eq_none (by omega)]
  rw [hv]
  have hge : (L.length : Int) ≤ (i : Int) + (k : Int) := by omega
  have hge' : L.length ≤ i + k := by omega
  have hgd : decide ((L.length : Int) ≤ (i : Int) + (k : Int)) = true := by rw [decide_eq_true_iff]; omega
  clear hrow hv hS h
  go_enter Tryz.func116, Tryz.ntmps116
  go_wp2
  go_quiet (fail)
  go_wp2
  go_ret
  exact ⟨rfl, _, rfl⟩
set_option maxRecDepth 100000 in
set_option maxHeartbeats 2000000 in
theorem rdis_any (w : World) (R : Nat) (s : ByteArray) (lv : Value) (L : RL) (bad c : Int) (i k : Nat) (hS : RS w R s lv L bad i) (hk : k ≤ 1000000) :
  Calls Tryz.prog 117 #[.pointer (some ⟨R, 0, none⟩), .int .i64 k, .int .i32 c] w fun e w' => e = .returned (.bool (isAt L (i + k) c)) ∧ ∃ q, w' = w.drewN q := by
 obtain ⟨⟨k0, k1, k2, k3⟩, f0, f1, f2, f3⟩ := rd_cells hS.rd
 obtain ⟨a, cap, rfl, hrow⟩ := hS.slice
 have hle := hS.le
 have hsz := hS.sz
 have hw1 : IntKind.i64.wrap ((i : Int) + (k : Int)) = (i : Int) + (k : Int) := by rw [IntKind.wrap_i64]; omega
 by_cases h : i + k < L.length
 ·obtain ⟨g, rfl, hg, hgs, hcells⟩ := hrow (by omega)
  have hc0 := (hcells (i + k) h).1
  have hv : isAt L (i + k) c = ((L[i + k]'h).1 == c) := by unfold isAt; rw [List.getElem?_eq_getElem h]
  rw [hv]
  generalize (L[i + k]'h) = q at hc0
  have hlt : (i : Int) + (k : Int) < (L.length : Int) := by omega
  have h0 : 0 ≤ (i : Int) + (k : Int) := by omega
  have hnat : ((i : Int) + (k : Int)).toNat = i + k := by omega
  clear hrow hcells hv hS h
  go_enter Tryz.func117, Tryz.ntmps117
  go_wp2
  go_quiet (fail)
  go_wp2
  go_ret
  exact ⟨rfl, _, rfl⟩
 ·have hv : isAt L (i + k) c = false := by unfold isAt; rw [List.getElem?_eq_none (by omega)]
  rw [hv]
  have hge : (L.length : Int) ≤ (i : Int) + (k : Int) := by omega
  have hge' : L.length ≤ i + k := by omega
  have hgd : decide ((i : Int) + (k : Int) < (L.length : Int)) = false := by rw [decide_eq_false_iff_not]; omega
  clear hrow hv hS h
  go_enter Tryz.func117, Tryz.ntmps117
  go_wp2
  go_quiet (fail)
  go_wp2
  go_ret
  exact ⟨rfl, _, rfl⟩
set_option maxRecDepth 100000 in
set_option maxHeartbeats 2000000 in
theorem rdat_any (w : World) (R : Nat) (s : ByteArray) (lv : Value) (L : RL) (bad : Int) (i k : Nat) (hS : RS w R s lv L bad i) (hk : k ≤ 1000000) :
  Calls Tryz.prog 67 #[.pointer (some ⟨R, 0, none⟩), .int .i64 k] w fun e w' => e = .returned (.int .i64 (posAt s L (i + k))) ∧ ∃ q, w' = w.drewN q := by
 obtain ⟨⟨k0, k1, k2, k3⟩, f0, f1, f2, f3⟩ := rd_cells hS.rd
 obtain ⟨a, cap, rfl, hrow⟩ := hS.slice
 have hle := hS.le
 have hsz := hS.sz
 have hw1 : IntKind.i64.wrap ((i : Int) + (k : Int)) = (i : Int) + (k : Int) := by rw [IntKind.wrap_i64]; omega
 by_cases h : i + k < L.length
 ·obtain ⟨g, rfl, hg, hgs, hcells⟩ := hrow (by omega)
  have hc0 := (hcells (i + k) h).2
  have hv : posAt s L (i + k) = (L[i + k]'h).2 := by unfold posAt; rw [List.getElem?_eq_getElem h]
  rw [hv]
  generalize (L[i + k]'h) = q at hc0
  have hlt : (i : Int) + (k : Int) < (L.length : Int) := by omega
  have h0 : 0 ≤ (i : Int) + (k : Int) := by omega
  have hnat : ((i : Int) + (k : Int)).toNat = i + k := by omega
  clear hrow hcells hv hS h
  go_enter Tryz.func67, Tryz.ntmps67
  go_wp2
  go_quiet (fail)
  go_wp2
  refine wp_region_quiet_lit (by kernel_rfl) (by kernel_rfl) ?_
  repeat (any_goals (first | go_big_quiet_step (fail) | quiet_step (fail)))
  all_goals (refine wpQuiet_nil ?_; intro _ hw'; obtain ⟨nq2, hw''⟩ := hw'; subst hw'')
  go_wp2
  go_ret
  exact ⟨rfl, _, by rw [World.drewN_drewN]⟩
 ·have hv : posAt s L (i + k) = s.size := by unfold posAt; rw [List.getElem?_eq_none (by omega)]
  rw [hv]
  have hge : (L.length : Int) ≤ (i : Int) + (k : Int) := by omega
  have hge' : L.length ≤ i + k := by omega
  clear hrow hv hS h
  go_enter Tryz.func67, Tryz.ntmps67
  go_wp2
  go_quiet (fail)
  go_wp2
  go_ret
  exact ⟨rfl, _, rfl⟩
end Go.Proofs.YtmpcmpeloebnhaaGreatDoor
namespace Go.Proofs.YtmpcmpeloebnhaaGreatDoor
open Go.RowKit
theorem RS.set {w : World} {R : Nat} {s : ByteArray} {lv : Value} {L : RL} {bad : Int} {i : Nat} (h : RS w R s lv L bad i) (j : Nat) (hj : j ≤ L.length) : RS (w.setCell ⟨R, 3, none⟩ (.int .i64 j)) R s lv L bad j := by
 refine ⟨?_, ownsRow_setCell_below h.row (show R < R + 1 by omega) _, hj, h.sz⟩
 have h0 := heap_setCell_same w R 3 _ _ (.int .i64 j) h.rd
 exact h0
theorem grown_set (w : World) (R : Nat) (v : Value) : w.grownBy (w.setCell ⟨R, 3, none⟩ v) (some R) :=
 ⟨rfl, rfl, rfl, by simp, fun k _ hk => heap_setCell_other w ⟨R, 3, none⟩ k v (fun e => hk (by simp [e]))⟩
theorem grown_refl (w : World) (r : Option Nat) : w.grownBy w r := ⟨rfl, rfl, rfl, Nat.le_refl _, fun _ _ _ => rfl⟩
theorem grown_of_below {w w' : World} (h : Below w.heap.size w w') (r : Option Nat) : w.grownBy w' r := ⟨h.os, h.tape, h.output, h.size, fun k hk _ => h.block k hk⟩
theorem below_dn (w : World) (n : Nat) : Below w.heap.size w (w.drewN n) := below_drewN (Below.refl _ _) n
theorem RS.drewN {w : World} {R : Nat} {s : ByteArray} {lv : Value} {L : RL} {bad : Int} {i : Nat} (h : RS w R s lv L bad i) (n : Nat) : RS (w.drewN n) R s lv L bad i := h.below (below_dn w n)
theorem rdclass0 (w : World) (R : Nat) (s : ByteArray) (lv : Value) (L : RL) (bad : Int) (i : Nat) (c : Int) (hS : RS w R s lv L bad i) (hc : clsAt L i = c) :
  Calls Tryz.prog 116 #[.pointer (some ⟨R, 0, none⟩), .int .i64 0] w fun e w' => e = .returned (.int .i64 c) ∧ ∃ q, w' = w.drewN q := by
 rw [← hc]; exact rdclass_any w R s lv L bad i 0 hS (by omega)
theorem rdis0 (w : World) (R : Nat) (s : ByteArray) (lv : Value) (L : RL) (bad : Int) (i : Nat) (c : Int) (b : Bool) (hS : RS w R s lv L bad i) (hb : isAt L i c = b) :
  Calls Tryz.prog 117 #[.pointer (some ⟨R, 0, none⟩), .int .i64 0, .int .i32 c] w fun e w' => e = .returned (.bool b) ∧ ∃ q, w' = w.drewN q := by
 rw [← hb]; exact rdis_any w R s lv L bad c i 0 hS (by omega)
theorem rdat0 (w : World) (R : Nat) (s : ByteArray) (lv : Value) (L : RL) (bad : Int) (i : Nat) (hS : RS w R s lv L bad i) :
  Calls Tryz.prog 67 #[.pointer (some ⟨R, 0, none⟩), .int .i64 0] w fun e w' => e = .returned (.int .i64 (posAt s L i)) ∧ ∃ q, w' = w.drewN q :=
 rdat_any w R s lv L bad i 0 hS (by omega)
theorem drop_at (L : RL) (j : Nat) (h : j < L.length) : L.drop j = (L[j]'h) :: L.drop (j + 1) := List.drop_eq_getElem_cons h
theorem clsAt_in (L : RL) (j : Nat) (h : j < L.length) : clsAt L j = cls (L[j]'h).1 := by unfold clsAt; rw [List.getElem?_eq_getElem h]
theorem clsAt_out (L : RL) (j : Nat) (h : ¬ j < L.length) : clsAt L j = -1 := by unfold clsAt; rw [List.getElem?_eq_none (by omega)]
theorem isAt_in (L : RL) (j : Nat) (c : Int) (h : j < L.length) : isAt L j c = ((L[j]'h).1 == c) := by unfold isAt; rw [List.getElem?_eq_getElem h]
theorem isAt_out (L : RL) (j : Nat) (c : Int) (h : ¬ j < L.length) : isAt L j c = false := by unfold isAt; rw [List.getElem?_eq_none (by omega)]
theorem skp_lf (q : Int × Int) (M : RL) (h : q.1 = 10) : skp true (q :: M) = skp false (q :: M) := by
 have a : skp true (q :: M) = skp false M := by rw [skp, if_pos h]
 have b : skp false (q :: M) = skp false M := by rw [skp, if_pos (by rw [h]; decide +kernel)]
 rw [a, b]
def SkipPost (w : World) (R : Nat) (s : ByteArray) (lv : Value) (L : RL) (bad : Int) (i : Nat) (e : Ending) (w' : World) : Prop :=
 e = .returned (.tuple #[]) ∧ ∃ i', RS w' R s lv L bad i' ∧ w.grownBy w' (some R) ∧ i ≤ i' ∧ L.drop i' = skp false (L.drop i)
set_option maxRecDepth 100000 in
set_option maxHeartbeats 4000000 in
theorem skip_any (w : World) (R : Nat) (s : ByteArray) (lv : Value) (L : RL) (bad : Int) (i : Nat) (hS : RS w R s lv L bad i) :
  Calls Tryz.prog 66 #[.pointer (some ⟨R, 0, none⟩)] w (SkipPost w R s lv L bad i) := by
 obtain ⟨a, cap, rfl, _⟩ := hS.slice
 go_enter Tryz.func66, Tryz.ntmps66
 go_wp2
 go_loopg [] (L.length + 1) (fun gf wx => ∃ j, RS wx R s (.slice a L.length cap) L bad j ∧ w.grownBy wx (some R) ∧ i ≤ j ∧ Hid (skp false (L.drop j) = skp false (L.drop i)) ∧ L.length + 1 ≤ j + gf)
 case atStart => exact ⟨i, hS, grown_refl _ _, by omega, (rfl : skp false (L.drop i) = _), by omega⟩
 case round =>
  obtain ⟨j, hR, hg, hij, HK, hfu⟩ := hrel
  obtain ⟨g', rfl⟩ : ∃ g', gk = g' + 1 := ⟨gk - 1, by have := hR.le; omega⟩
  have hle := hR.le
  have hsz := hR.sz
  clear hS
  by_cases hj : j < L.length
  ·by_cases h3 : cls (L[j]'hj).1 = 3
   ·have hc : clsAt L j = 3 := by rw [clsAt_in L j hj]; exact h3
    have hne : ¬ (L[j]'hj).1 = 35 := by intro h; rw [h, cls35] at h3; omega
    have hi35 : isAt L j 35 = false := by rw [isAt_in L j 35 hj, beq_eq_false_iff_ne]; exact hne
    have hsk : skp false (L.drop j) = skp false (L.drop (j + 1)) := by
     conv => lhs; rw [drop_at L j hj]
     rw [skp, if_pos h3]
    have HN := Lib.hid (hsk.symm.trans HK.out)
    have HC := Lib.hid hc
    have HI := Lib.hid hi35
    clear hc hi35 hsk HK h3 hne
    go_wp2_with fail
    refine (rdclass0 _ R s _ L bad j 3 hR HC.out).mono ?_
    rintro e w2 ⟨rfl, q2, rfl⟩
    go_wp2_with fail
    refine (rdis0 _ R s _ L bad j 35 false (hR.drewN _) HI.out).mono ?_
    rintro e w3 ⟨rfl, q3, rfl⟩
    have hR3 : RS ((wr.drewN q2).drewN q3) R s (.slice a L.length cap) L bad j := (hR.drewN _).drewN _
    have hg3 : w.grownBy ((wr.drewN q2).drewN q3) (some R) := (hg.trans (grown_of_below (below_dn _ _) _)).trans (grown_of_below (below_dn _ _) _)
    generalize (wr.drewN q2).drewN q3 = w3 at hR3 hg3 ⊢
    obtain ⟨⟨k0, k1, k2, k3⟩, f0, f1, f2, f3⟩ := rd_cells hR3.rd
    have hRs : RS (w3.setCell ⟨R, 3, none⟩ (.int .i64 ((j : Int) + 1))) R s (.slice a L.length cap) L bad (j + 1) := hR3.set (j + 1) (by omega)
    have hgs : w.grownBy (w3.setCell ⟨R, 3, none⟩ (.int .i64 ((j : Int) + 1))) (some R) := hg3.trans (grown_set _ _ _)
    clear hR hg
    go_wp2
    go_loopg [] 1 (fun _ wx => RS wx R s (.slice a L.length cap) L bad (j + 1) ∧ w.grownBy wx (some R))
    case atStart => exact ⟨hRs, hgs⟩
    case round =>
     obtain ⟨hRx, hgx⟩ := hrel
     clear hR3 hg3 k0 k1 k2 k3 f0 f1 f2 f3 hRs hgs
     go_wp2
     go_quiet (fail)
     go_wp2
     go_roundg g'
     case rel => exact ⟨j + 1, hRx.drewN _, hgx.trans (grown_of_below (below_dn _ _) _), by omega, HN.out, by omega⟩
     case measure => omega
   ·by_cases h35 : (L[j]'hj).1 = 35
    ·have hc : clsAt L j = 4 := by rw [clsAt_in L j hj, h35]; exact cls35
     have hi35 : isAt L j 35 = true := by rw [isAt_in L j 35 hj, beq_iff_eq]; exact h35
     have hsk : skp false (L.drop j) = skp true (L.drop (j + 1)) := by
      conv => lhs; rw [drop_at L j hj]
      rw [skp, if_neg h3, if_pos h35]
     have HN := Lib.hid (hsk.symm.trans HK.out)
     have HC := Lib.hid hc
     have HI := Lib.hid hi35
     clear hc hi35 hsk HK h3 h35
     go_wp2_with fail
     refine (rdclass0 _ R s _ L bad j 4 hR HC.out).mono ?_
     rintro e w2 ⟨rfl, q2, rfl⟩
     go_wp2_with fail
     refine (rdis0 _ R s _ L bad j 35 true (hR.drewN _) HI.out).mono ?_
     rintro e w3 ⟨rfl, q3, rfl⟩
     have hR2 : RS ((wr.drewN q2).drewN q3) R s (.slice a L.length cap) L bad j := (hR.drewN _).drewN _
     have hg2 : w.grownBy ((wr.drewN q2).drewN q3) (some R) := (hg.trans (grown_of_below (below_dn _ _) _)).trans (grown_of_below (below_dn _ _) _)
     generalize (wr.drewN q2).drewN q3 = w2 at hR2 hg2 ⊢
     clear hR hg
     go_wp2_with fail
     refine (rdis0 _ R s _ L bad j 35 true hR2 HI.out).mono ?_
     rintro e w3 ⟨rfl, q4, rfl⟩
     have hR3 := hR2.drewN q4
     have hg3 : w.grownBy (w2.drewN q4) (some R) := hg2.trans (grown_of_below (below_dn _ _) _)
     generalize w2.drewN q4 = w3 at hR3 hg3 ⊢
     obtain ⟨⟨k0, k1, k2, k3⟩, f0, f1, f2, f3⟩ := rd_cells hR3.rd
     have hRs : RS (w3.setCell ⟨R, 3, none⟩ (.int .i64 ((j : Int) + 1))) R s (.slice a L.length cap) L bad (j + 1) := hR3.set (j + 1) (by omega)
     have hgs : w.grownBy (w3.setCell ⟨R, 3, none⟩ (.int .i64 ((j : Int) + 1))) (some R) := hg3.trans (grown_set _ _ _)
     clear hR2 hg2
     go_wp2
     go_loopg [] (L.length + 1) (fun gf wx => ∃ m, RS wx R s (.slice a L.length cap) L bad m ∧ w.grownBy wx (some R) ∧ j < m ∧ Hid (skp true (L.drop m) = skp false (L.drop i)) ∧ L.length + 1 ≤ m + gf)
     case atStart => exact ⟨j + 1, hRs, hgs, by omega, HN.out, by omega⟩
     case round =>
      obtain ⟨m, hRx, hgx, hjm, HM, hfm⟩ := hrel
      obtain ⟨h', rfl⟩ : ∃ h', gk = h' + 1 := ⟨gk - 1, by have := hRx.le; omega⟩
      have hlm := hRx.le
      clear hR3 hg3 k0 k1 k2 k3 f0 f1 f2 f3 hRs hgs HN HC HI
      obtain ⟨⟨k0, k1, k2, k3⟩, f0, f1, f2, f3⟩ := rd_cells hRx.rd
      by_cases hm : m < L.length
      ·by_cases h10 : (L[m]'hm).1 = 10
       ·have hi10 : isAt L m 10 = true := by rw [isAt_in L m 10 hm, beq_iff_eq]; exact h10
        have hsk : skp true (L.drop m) = skp false (L.drop m) := by
         rw [drop_at L m hm]; exact skp_lf _ _ h10
        have HN := Lib.hid (hsk.symm.trans HM.out)
        have HI := Lib.hid hi10
        have hmi : (m : Int) < (L.length : Int) := by omega
        clear hi10 hsk HM h10
        go_wp2
        go_quiet ((go_at_call 117; exact Calls.quiet_of (rdis0 _ R s _ L bad m 10 true (hRx.drewN _) HI.out)))
        go_wp2
        go_roundg g'
        case rel => exact ⟨m, hRx.drewN _, hgx.trans (grown_of_below (below_dn _ _) _), by omega, HN.out, by omega⟩
        case measure => omega
       ·have hi10 : isAt L m 10 = false := by rw [isAt_in L m 10 hm, beq_eq_false_iff_ne]; exact h10
        have hsk : skp true (L.drop m) = skp true (L.drop (m + 1)) := by
         conv => lhs; rw [drop_at L m hm]
         rw [skp, if_neg h10]
        have HN := Lib.hid (hsk.symm.trans HM.out)
        have HI := Lib.hid hi10
        have hmi : (m : Int) < (L.length : Int) := by omega
        clear hi10 hsk HM h10
        go_wp2
        go_quiet ((go_at_call 117; exact Calls.quiet_of (rdis0 _ R s _ L bad m 10 false (hRx.drewN _) HI.out)))
        have hR5 : RS ((wr.drewN nq).setCell ⟨R, 3, none⟩ (.int .i64 ((m : Int) + 1))) R s (.slice a L.length cap) L bad (m + 1) := (hRx.drewN nq).set (m + 1) (by omega)
        have hg5 : w.grownBy ((wr.drewN nq).setCell ⟨R, 3, none⟩ (.int .i64 ((m : Int) + 1))) (some R) := (hgx.trans (grown_of_below (below_dn _ _) _)).trans (grown_set _ _ _)
        go_wp2
        go_roundg h'
        case rel => exact ⟨m + 1, hR5, hg5, by omega, HN.out, by omega⟩
        case measure => omega
      ·have hsk : skp true (L.drop m) = skp false (L.drop m) := by
        rw [List.drop_of_length_le (by omega)]; rfl
       have HN := Lib.hid (hsk.symm.trans HM.out)
       have hmi : (L.length : Int) ≤ (m : Int) := by omega
       have hmd : decide ((m : Int) < (L.length : Int)) = false := by rw [decide_eq_false_iff_not]; omega
       clear hsk HM
       go_wp2
       go_quiet (fail)
       go_wp2
       go_roundg g'
       case rel => exact ⟨m, hRx.drewN _, hgx.trans (grown_of_below (below_dn _ _) _), by omega, HN.out, by omega⟩
       case measure => omega
    ·have hc : clsAt L j = cls (L[j]'hj).1 := clsAt_in L j hj
     have hi35 : isAt L j 35 = false := by rw [isAt_in L j 35 hj, beq_eq_false_iff_ne]; exact h35
     have hsk : skp false (L.drop j) = L.drop j := by
      rw [drop_at L j hj, skp, if_neg h3, if_neg h35]
     have HN := Lib.hid (hsk.symm.trans HK.out)
     have HI := Lib.hid hi35
     obtain ⟨c, hcc⟩ : ∃ c, cls (L[j]'hj).1 = c := ⟨_, rfl⟩
     rw [hcc] at hc h3
     have HC := Lib.hid hc
     have hc3 : (c == 3) = false := by rw [beq_eq_false_iff_ne]; exact h3
     clear hc hi35 hsk HK h3 h35 hcc
     go_wp2_with fail
     refine (rdclass0 _ R s _ L bad j c hR HC.out).mono ?_
     rintro e w2 ⟨rfl, q2, rfl⟩
     go_wp2_with fail
     refine (rdis0 _ R s _ L bad j 35 false (hR.drewN _) HI.out).mono ?_
     rintro e w3 ⟨rfl, q3, rfl⟩
     go_wp2
     go_end0
     exact ⟨rfl, j, hR.drewN _, hg.trans (grown_of_below (below_dn _ _) _), by omega, HN.out⟩
  ·have hsk : skp false (L.drop j) = L.drop j := by rw [List.drop_of_length_le (by omega)]; rfl
   have HN := Lib.hid (hsk.symm.trans HK.out)
   have HC := Lib.hid (clsAt_out L j hj)
   have HI := Lib.hid (isAt_out L j 35 hj)
   clear hsk HK
   go_wp2_with fail
   refine (rdclass0 _ R s _ L bad j (-1) hR HC.out).mono ?_
   rintro e w2 ⟨rfl, q2, rfl⟩
   go_wp2_with fail
   refine (rdis0 _ R s _ L bad j 35 false (hR.drewN _) HI.out).mono ?_
   rintro e w3 ⟨rfl, q3, rfl⟩
   go_wp2
   go_end0
   exact ⟨rfl, j, hR.drewN _, hg.trans (grown_of_below (below_dn _ _) _), by omega, HN.out⟩
end Go.Proofs.YtmpcmpeloebnhaaGreatDoor
namespace Go.Proofs.YtmpcmpeloebnhaaGreatDoor
open Go.RowKit
theorem own_grown {w w' : World} {B e size n : Nat} {v : Value} {xs : List Value} {R : Nat} (h : w.ownsRow B e size v n xs) (hg : w.grownBy w' (some R)) (hR : R < B) : w'.ownsRow B e size v n xs := by
 obtain ⟨h1, h2⟩ := h
 refine ⟨h1, ?_⟩
 rcases h2 with h2 | ⟨g, cap, cur, a, b, c, d⟩
 ·exact .inl h2
 ·exact .inr ⟨g, cap, cur, a, b, by rw [hg.block g (lt_of_block c) (fun e => by cases e; omega)]; exact c, d⟩
theorem RS.grown {w w' : World} {R : Nat} {s : ByteArray} {lv : Value} {L : RL} {bad : Int} {i j : Nat} (h : RS w R s lv L bad i) (hg : w.grownBy w' (some R)) (hd : Rd w' R s lv bad j) (hj : j ≤ L.length) : RS w' R s lv L bad j :=
 ⟨hd, own_grown h.row hg (by omega), hj, h.sz⟩
theorem rd_other {w : World} {R : Nat} {s : ByteArray} {lv : Value} {bad i : Int} (h : Rd w R s lv bad i) (a : Addr) (ha : R ≠ a.block) (v : Value) : Rd (w.setCell a v) R s lv bad i := by
 unfold Rd at *
 rw [heap_setCell_other w a R v ha]; exact h
theorem rd_set {w : World} {R : Nat} {s : ByteArray} {lv : Value} {bad i : Int} (h : Rd w R s lv bad i) (j : Int) : Rd (w.setCell ⟨R, 3, none⟩ (.int .i64 j)) R s lv bad j :=
 heap_setCell_same w R 3 _ _ (.int .i64 j) h
theorem rd_alloc {w : World} {R : Nat} {s : ByteArray} {lv : Value} {bad i : Int} (h : Rd w R s lv bad i) (o : Obj) : Rd (w.alloc o) R s lv bad i :=
 h.below ((Below.refl _ _).alloc (Nat.le_refl _) _)
theorem grown_new {w w' : World} {r : Option Nat} (h : w.grownBy w' r) (a : Addr) (ha : w.heap.size ≤ a.block) (v : Value) : w.grownBy (w'.setCell a v) r :=
 ⟨h.os, h.tape, h.output, by have := h.size; simp; exact this, fun k hk hne => by rw [heap_setCell_other w' a k v (by omega)]; exact h.block k hk hne⟩
theorem grown_alloc {w w' : World} {r : Option Nat} (h : w.grownBy w' r) (o : Obj) : w.grownBy (w'.alloc o) r :=
 h.trans (grown_of_below ((Below.refl _ _).alloc (Nat.le_refl _) _) r)
theorem grown_dn {w w' : World} {r : Option Nat} (h : w.grownBy w' r) (n : Nat) : w.grownBy (w'.drewN n) r := h.trans (grown_of_below (below_dn _ _) r)
theorem grown_R {w w' : World} {R : Nat} (h : w.grownBy w' (some R)) (o : Nat) (v : Value) : w.grownBy (w'.setCell ⟨R, o, none⟩ v) (some R) :=
 ⟨h.os, h.tape, h.output, by have := h.size; simp; exact this, fun k hk hne => by rw [heap_setCell_other w' _ k v (fun e => hne (by simp [e]))]; exact h.block k hk hne⟩
theorem refwords_any (w : World) :
  Calls Tryz.prog 151 #[] w fun e w' => e = .returned (wrdsV w.heap.size) ∧ w' = w.alloc (.cells wrdsCells 9) := by
 go_enter Tryz.func151, Tryz.ntmps151
 go_wp2
 go_ret
 exact ⟨rfl, rfl⟩
theorem isWrd_at (t : ByteArray) (k : Nat) (hk : k < wrds.length) : ((wrds.drop k).any fun x => x.data.toList == t.data.toList) = ((wrds[k]'hk).data.toList == t.data.toList || ((wrds.drop (k + 1)).any fun x => x.data.toList == t.data.toList)) := by
 have : wrds.drop k = wrds[k]'hk :: wrds.drop (k + 1) := List.drop_eq_getElem_cons hk
 rw [this, List.any_cons]
set_option maxRecDepth 100000 in
set_option maxHeartbeats 2000000 in
theorem refword_any (t : ByteArray) (w : World) :
  Calls Tryz.prog 142 #[.string t] w fun e w' => e = .returned (.bool (isWrd t)) ∧ Below w.heap.size w w' := by
 go_enter Tryz.func142, Tryz.ntmps142
 go_wp2_with fail
 refine (refwords_any _).mono ?_
 rintro e w1 ⟨rfl, rfl⟩
 have hc := wrds_cells w
 have HC := Lib.hid hc
 clear hc
 obtain ⟨W, hW⟩ : ∃ W, W = w.alloc (.cells wrdsCells 9) := ⟨_, rfl⟩
 have hbW : Below w.heap.size w W := by rw [hW]; exact (Below.refl _ _).alloc (Nat.le_refl _) _
 rw [← hW]
 have HW := Lib.hid hW
 clear hW
 unfold wrdsV
 go_wp2
 go_loop [4] (fun i => ∃ k : Nat, i = .int .i64 k ∧ k ≤ 17 ∧ Hid (isWrd t = (wrds.drop k).any fun x => x.data.toList == t.data.toList)) (fun i => 17 - (intOf i).toNat)
 case atStart => exact ⟨0, rfl, by omega, (rfl : isWrd t = _)⟩
 case round =>
  obtain ⟨k, rfl, hk, HK⟩ := hrel
  by_cases hlt : k < 17
  ·have c0 : W.cell? ⟨w.heap.size, k, none⟩ = some (.string (wrds.getD k ByteArray.empty)) := by rw [HW.out]; exact HC.out k hlt
   rw [show wrds.getD k ByteArray.empty = wrds[k]'hlt by rw [List.getD_eq_getElem?_getD, List.getElem?_eq_getElem hlt]; rfl] at c0
   have hk1 := isWrd_at t k hlt
   generalize (wrds[k]'hlt) = x at c0 hk1
   by_cases he : x.data.toList = t.data.toList
   ·have hr : isWrd t = true := by rw [HK.out, hk1, beq_iff_eq.2 he]; rfl
    obtain rfl : x = t := ByteArray.ext (Array.ext' he)
    have HR := Lib.hid hr
    clear hk1 HK he hr
    go_wp2
    go_ret
    exact ⟨ret_bool HR.out.symm, hbW⟩
   ·have hr : isWrd t = (wrds.drop (k + 1)).any fun x => x.data.toList == t.data.toList := by
     rw [HK.out, hk1, beq_eq_false_iff_ne.2 he]; rfl
    have HR := Lib.hid hr
    have he2 : ¬ x.toList = t.toList := by rw [Lib.toList_data, Lib.toList_data]; exact he
    have he3 : (x.toList == t.toList) = false := by rw [beq_eq_false_iff_ne]; exact he2
    clear hk1 HK he hr
    go_wp2
    go_round
    case rel => exact ⟨k + 1, by go_num, by omega, HR.out⟩
    case measure => simp [intOf]; omega
  ·have hr : isWrd t = false := by rw [HK.out, List.drop_of_length_le (by show wrds.length ≤ k; exact Nat.not_lt.1 hlt)]; rfl
   have HR := Lib.hid hr
   clear HK hr
   go_wp2
   go_ret
   exact ⟨ret_bool HR.out.symm, hbW⟩
theorem blk_other {w : World} {B : Nat} {a b c d : Value} (h : Blk4 w B a b c d) (x : Addr) (hx : B ≠ x.block) (v : Value) : Blk4 (w.setCell x v) B a b c d := by
 unfold Blk4 at *
 rw [heap_setCell_other w x B v hx]; exact h
theorem blk_set1 {w : World} {B : Nat} {a b c d : Value} (h : Blk4 w B a b c d) (v : Value) : Blk4 (w.setCell ⟨B, 1, none⟩ v) B a v c d := heap_setCell_same w B 1 _ _ v h
theorem blk_set2 {w : World} {B : Nat} {a b c d : Value} (h : Blk4 w B a b c d) (v : Value) : Blk4 (w.setCell ⟨B, 2, none⟩ v) B a b v d := heap_setCell_same w B 2 _ _ v h
end Go.Proofs.YtmpcmpeloebnhaaGreatDoor
namespace Go.Proofs.YtmpcmpeloebnhaaGreatDoor
open Go.RowKit
theorem cnt_in (p : Int → Bool) (L : RL) (i k : Nat) (h : k < cnt p (L.drop i)) : ∃ hk : i + k < L.length, p (L[i + k]'hk).1 = true := by
 have h1 := cnt_le p (L.drop i)
 rw [List.length_drop] at h1
 have hk : i + k < L.length := by omega
 refine ⟨hk, ?_⟩
 have hm : (L.drop i)[k]'(by rw [List.length_drop]; omega) ∈ (L.drop i).take (cnt p (L.drop i)) := by
  rw [List.mem_take_iff_getElem]
  exact ⟨k, by rw [List.length_drop]; omega, rfl⟩
 have := cnt_all p (L.drop i) _ hm
 rw [List.getElem_drop] at this
 exact this
theorem cnt_stop (p : Int → Bool) : ∀ (L : RL) (h : cnt p L < L.length), p (L[cnt p L]'h).1 = false := by
 intro L
 induction L with
 | nil => intro h; simp [cnt] at h
 | cons q L ih =>
  intro h
  by_cases hq : p q.1 = true
  ·have e := cnt_pos (L := L) hq
   simp only [e, List.getElem_cons_succ]
   exact ih (by rw [e] at h; simpa using h)
  ·have e := cnt_zero (L := L) (by simpa using hq)
   simp only [e, List.getElem_cons_zero]
   simpa using hq
theorem cnt_out (p : Int → Bool) (L : RL) (i : Nat) (h : i + cnt p (L.drop i) < L.length) : p (L[i + cnt p (L.drop i)]'h).1 = false := by
 have := cnt_stop p (L.drop i) (by rw [List.length_drop]; omega)
 rw [List.getElem_drop] at this
 exact this
theorem rdclassk (w : World) (R : Nat) (s : ByteArray) (lv : Value) (L : RL) (bad : Int) (i k : Nat) (c : Int) (hS : RS w R s lv L bad i) (hk : k ≤ 1000000) (hc : clsAt L (i + k) = c) :
  Calls Tryz.prog 116 #[.pointer (some ⟨R, 0, none⟩), .int .i64 k] w fun e w' => e = .returned (.int .i64 c) ∧ ∃ q, w' = w.drewN q := by
 rw [← hc]; exact rdclass_any w R s lv L bad i k hS hk
theorem rdisk (w : World) (R : Nat) (s : ByteArray) (lv : Value) (L : RL) (bad : Int) (i k : Nat) (c : Int) (b : Bool) (hS : RS w R s lv L bad i) (hk : k ≤ 1000000) (hb : isAt L (i + k) c = b) :
  Calls Tryz.prog 117 #[.pointer (some ⟨R, 0, none⟩), .int .i64 k, .int .i32 c] w fun e w' => e = .returned (.bool b) ∧ ∃ q, w' = w.drewN q := by
 rw [← hb]; exact rdis_any w R s lv L bad c i k hS hk
theorem refword_is (t : ByteArray) (b : Bool) (w : World) (h : isWrd t = b) :
  Calls Tryz.prog 142 #[.string t] w fun e w' => e = .returned (.bool b) ∧ Below w.heap.size w w' := by
 rw [← h]; exact refword_any t w
theorem nm_cases (r : Int) (h : nmB r = true) : cls r = 1 ∨ cls r = 2 ∨ r = 39 := by
 unfold nmB at h
 simp only [Bool.or_eq_true, beq_iff_eq] at h
 omega
theorem nm_not (r : Int) (h : nmB r = false) : ¬ cls r = 1 ∧ ¬ cls r = 2 ∧ ¬ r = 39 := by
 unfold nmB at h
 simp only [Bool.or_eq_false_iff, beq_eq_false_iff_ne, ne_eq] at h
 exact ⟨h.1.1, h.1.2, h.2⟩
theorem cls39 : cls 39 = 4 := by decide +kernel
theorem name_pos (s : ByteArray) (L : RL) (bad : Int) (i c : Nat) (hL : L = (each s).1) (hbad : bad = (each s).2) (hi : i < L.length) (_hc : i + c ≤ L.length) :
  0 ≤ (L[i]'hi).2 ∧ (L[i]'hi).2 ≤ posOf (endOf s bad) (L.drop (i + c)) ∧ posOf (endOf s bad) (L.drop (i + c)) ≤ s.size ∧
  (i + c < L.length → posAt s L (i + c) = posOf (endOf s bad) (L.drop (i + c))) ∧
  (¬ i + c < L.length → (0 ≤ bad → posOf (endOf s bad) (L.drop (i + c)) = bad) ∧ (¬ 0 ≤ bad → posOf (endOf s bad) (L.drop (i + c)) = posAt s L (i + c))) := by
 have hsr := eachF_srt s s.size 0 (by omega)
 have he : eachF s s.size 0 = each s := rfl
 rw [he, ← hL, ← hbad] at hsr
 have h0 := each_at s (L[i]'hi) (by rw [← hL]; exact List.getElem_mem _)
 have h1 := posOf_drop _ (L.drop i) c (srt_drop _ L i hsr)
 rw [List.drop_drop, drop_at L i hi] at h1
 have h2 := (posOf_ge s s.size 0 (by omega) (i + c)).2
 rw [he, ← hL, ← hbad] at h2
 refine ⟨h0, h1, h2, ?_, ?_⟩
 ·intro h
  unfold posAt
  rw [drop_at L _ h, List.getElem?_eq_getElem h]
  rfl
 ·intro h
  rw [List.drop_of_length_le (by omega)]
  unfold posAt endOf posOf
  rw [List.getElem?_eq_none (by omega)]
  refine ⟨fun hb => if_neg (by omega), fun hb => if_pos ?_⟩
  rcases bad_range s with hr | hr
  ·rw [hbad]; exact hr
  ·rw [← hbad] at hr; omega
def nameT (s : ByteArray) (L : RL) (bad : Int) (i : Nat) (po : Int) : ByteArray := s.extract po.toNat (posOf (endOf s bad) (L.drop (i + cnt nmB (L.drop i)))).toNat
set_option maxRecDepth 100000 in
set_option maxHeartbeats 4000000 in
theorem rname_any (w : World) (R : Nat) (s : ByteArray) (lv : Value) (L : RL) (bad : Int) (i : Nat) (hS : RS w R s lv L bad i) (hL : L = (each s).1) (hbad : bad = (each s).2) (hi : i < L.length) (h1 : cls (L[i]'hi).1 = 1)
  (po : Int) (hpo : (L[i]'hi).2 = po) (K : Int) (hK : K = if isWrd (nameT s L bad i po) then 3 else 1) (b : Bool) (hb : b = decide (cnt nmB (L.drop i) ≤ 12)) :
  Calls Tryz.prog 118 #[.pointer (some ⟨R, 0, none⟩)] w fun e w' => e = .returned (.tuple #[.agg #[.int .i64 K, .string (nameT s L bad i po), .int .i64 0, .int .i64 po], .bool b]) ∧ Rd w' R s lv bad ((i : Int) + cnt nmB (L.drop i)) ∧ w.grownBy w' (some R) := by
 obtain ⟨a, cap, rfl, _⟩ := hS.slice
 have hRlt := hS.rd.lt
 have hlsz := hS.sz
 have hc1 : 1 ≤ cnt nmB (L.drop i) := by
  rw [drop_at L i hi, cnt_pos (by unfold nmB; rw [h1]; rfl)]; omega
 have hcl : i + cnt nmB (L.drop i) ≤ L.length := by have := cnt_le nmB (L.drop i); rw [List.length_drop] at this; omega
 have hpos := name_pos s L bad i (cnt nmB (L.drop i)) hL hbad hi hcl
 have hin := cnt_in nmB L i
 have hout := cnt_out nmB L i
 unfold nameT at hK ⊢
 obtain ⟨c, hc⟩ : ∃ c, c = cnt nmB (L.drop i) := ⟨_, rfl⟩
 rw [← hc] at hc1 hcl hpos hin hout hK hb ⊢
 obtain ⟨en, hen⟩ : ∃ en, en = posOf (endOf s bad) (L.drop (i + c)) := ⟨_, rfl⟩
 rw [← hen, hpo] at hpos
 rw [← hen] at hK ⊢
 obtain ⟨hp0, hp1, hp2, hp3, hp4⟩ := hpos
 have HIN := Lib.hid hin
 have HOUT := Lib.hid hout
 have HP3 := Lib.hid hp3
 have HP4 := Lib.hid hp4
 have HK := Lib.hid hK
 have HB := Lib.hid hb
 have HPO := Lib.hid hpo
 have H1 := Lib.hid h1
 clear hin hout hp3 hp4 hK hb hpo h1 hc hen hL hbad
 obtain ⟨T, hT⟩ : ∃ T, T = s.extract po.toNat en.toNat := ⟨_, rfl⟩
 rw [← hT] at HK ⊢
 have HTX := Lib.hid hT
 clear hT
 go_enter Tryz.func118, Tryz.ntmps118
 go_wp2
 obtain ⟨W0, hW0⟩ : ∃ W0, W0 = w.alloc (.cells #[.int .i64 0, .string ⟨#[]⟩, .int .i64 0, .int .i64 0] 70) := ⟨_, rfl⟩
 have hR0 : RS W0 R s (.slice a L.length cap) L bad i := by rw [hW0]; exact hS.below ((Below.refl _ _).alloc (Nat.le_refl _) _)
 have hB0 : Blk4 W0 w.heap.size (.int .i64 0) (.string ⟨#[]⟩) (.int .i64 0) (.int .i64 0) := by rw [hW0]; exact blk4_new _ _ _ _ _
 have hg0 : w.grownBy W0 (some R) := by rw [hW0]; exact grown_alloc (grown_refl _ _) _
 have hs0 : W0.heap.size = w.heap.size + 1 := by rw [hW0]; simp
 rw [← hW0]
 have HS0 := Lib.hid hs0
 clear hW0 hs0 hS
 go_loopw [4] (fun v wr => ∃ n q : Nat, v = .int .i64 n ∧ n ≤ c ∧ wr = W0.drewN q) (fun v _ => c - (intOf v).toNat)
 case atStart => exact ⟨0, 0, rfl, by omega, rfl⟩
 case round =>
  obtain ⟨n, q, rfl, hn, rfl⟩ := hrel
  by_cases hnc : n < c
  ·obtain ⟨hk, hp⟩ := HIN.out n hnc
   rcases nm_cases _ hp with h | h | h
   ·have HC := Lib.hid (show clsAt L (i + n) = 1 by rw [clsAt_in L _ hk]; exact h)
    clear h hp
    go_wp2_with fail
    refine (rdclassk _ R s _ L bad i n 1 (hR0.drewN _) (by omega) HC.out).mono ?_
    rintro e w2 ⟨rfl, q2, rfl⟩
    go_wp2
    go_roundw
    case rel => exact ⟨n + 1, _, by go_num, by omega, rfl⟩
    case measure => simp [intOf]; omega
   ·have hn0 : 0 < (n : Int) := by
     rcases Nat.eq_zero_or_pos n with h0 | h0
     ·subst h0
      have := H1.out
      simp only [Nat.add_zero] at h
      omega
     ·omega
    have HC := Lib.hid (show clsAt L (i + n) = 2 by rw [clsAt_in L _ hk]; exact h)
    clear h hp
    go_wp2_with fail
    refine (rdclassk _ R s _ L bad i n 2 (hR0.drewN _) (by omega) HC.out).mono ?_
    rintro e w2 ⟨rfl, q2, rfl⟩
    go_wp2_with fail
    refine (rdclassk _ R s _ L bad i n 2 (hR0.drewN _) (by omega) HC.out).mono ?_
    rintro e w2 ⟨rfl, q3, rfl⟩
    go_wp2
    go_roundw
    case rel => exact ⟨n + 1, _, by go_num, by omega, rfl⟩
    case measure => simp [intOf]; omega
   ·have hn0 : 0 < (n : Int) := by
     rcases Nat.eq_zero_or_pos n with h0 | h0
     ·subst h0
      have := H1.out
      simp only [Nat.add_zero] at h
      rw [h, cls39] at this
      omega
     ·omega
    have HC := Lib.hid (show clsAt L (i + n) = 4 by rw [clsAt_in L _ hk, h]; exact cls39)
    have HI := Lib.hid (show isAt L (i + n) 39 = true by rw [isAt_in L _ 39 hk, beq_iff_eq]; exact h)
    clear h hp
    go_wp2_with fail
    refine (rdclassk _ R s _ L bad i n 4 (hR0.drewN _) (by omega) HC.out).mono ?_
    rintro e w2 ⟨rfl, q2, rfl⟩
    go_wp2_with fail
    refine (rdclassk _ R s _ L bad i n 4 (hR0.drewN _) (by omega) HC.out).mono ?_
    rintro e w2 ⟨rfl, q3, rfl⟩
    go_wp2_with fail
    refine (rdisk _ R s _ L bad i n 39 true (hR0.drewN _) (by omega) HI.out).mono ?_
    rintro e w2 ⟨rfl, q4, rfl⟩
    go_wp2
    go_roundw
    case rel => exact ⟨n + 1, _, by go_num, by omega, rfl⟩
    case measure => simp [intOf]; omega
  ·obtain rfl : n = c := by omega
   have hn0 : 0 < (n : Int) := by omega
   obtain ⟨cv, hcv, hcv1, hcv2, hcv3⟩ : ∃ cv, clsAt L (i + n) = cv ∧ ¬ cv = 1 ∧ ¬ cv = 2 ∧ isAt L (i + n) 39 = false := by
    by_cases hin : i + n < L.length
    ·have := nm_not _ (HOUT.out hin)
     exact ⟨_, clsAt_in L _ hin, this.1, this.2.1, by rw [isAt_in L _ 39 hin, beq_eq_false_iff_ne]; exact this.2.2⟩
    ·exact ⟨-1, clsAt_out L _ hin, by omega, by omega, isAt_out L _ _ hin⟩
   have HC := Lib.hid hcv
   have HI := Lib.hid hcv3
   have e1 : (cv == 1) = false := by rw [beq_eq_false_iff_ne]; exact hcv1
   have e2 : (cv == 2) = false := by rw [beq_eq_false_iff_ne]; exact hcv2
   clear hcv hcv1 hcv2 hcv3
   go_wp2_with fail
   refine (rdclassk _ R s _ L bad i n cv (hR0.drewN _) (by omega) HC.out).mono ?_
   rintro e w2 ⟨rfl, q2, rfl⟩
   go_wp2_with fail
   refine (rdclassk _ R s _ L bad i n cv (hR0.drewN _) (by omega) HC.out).mono ?_
   rintro e w2 ⟨rfl, q3, rfl⟩
   go_wp2_with fail
   refine (rdisk _ R s _ L bad i n 39 false (hR0.drewN _) (by omega) HI.out).mono ?_
   rintro e w2 ⟨rfl, q4, rfl⟩
   clear e1 e2 HC HI HIN HOUT H1
   obtain ⟨Q, hQ⟩ : ∃ Q, Q = q + q2 + q3 := ⟨_, rfl⟩
   have hR1 := (hR0.drewN Q).drewN q4
   have hB1 := (hB0.below (below_dn W0 Q)).below (below_dn _ q4)
   have hg1 := grown_dn (grown_dn hg0 Q) q4
   have hs1 : ((W0.drewN Q).drewN q4).heap.size = w.heap.size + 1 := HS0.out
   rw [← hQ]
   generalize (W0.drewN Q).drewN q4 = W1 at hR1 hB1 hg1 hs1 ⊢
   clear hQ hR0 hB0 hg0 HS0
   go_wp2_with fail
   refine (rdat0 W1 R s _ L bad i hR1).mono ?_
   rintro e w2 ⟨rfl, q5, rfl⟩
   rw [show posAt s L i = po by rw [← HPO.out]; unfold posAt; rw [List.getElem?_eq_getElem hi]]
   go_wp2_with fail
   obtain ⟨W2, hW2⟩ : ∃ W2, W2 = (W1.drewN q5).alloc (.cells #[.int .i64 1, .string ⟨#[]⟩, .int .i64 0, .int .i64 po] 70) := ⟨_, rfl⟩
   have hR2 : RS W2 R s (.slice a L.length cap) L bad i := by rw [hW2]; exact (hR1.drewN q5).below ((Below.refl _ _).alloc (Nat.le_refl _) _)
   have hBa : Blk4 W2 w.heap.size (.int .i64 0) (.string ⟨#[]⟩) (.int .i64 0) (.int .i64 0) := by rw [hW2]; exact (hB1.below (below_dn _ _)).below ((Below.refl _ _).alloc (Nat.le_refl _) _)
   have hBb : Blk4 W2 (w.heap.size + 1) (.int .i64 1) (.string ⟨#[]⟩) (.int .i64 0) (.int .i64 po) := by
    rw [hW2, ← hs1]; exact blk4_new (W1.drewN q5) _ _ _ _
   have hg2 : w.grownBy W2 (some R) := by rw [hW2]; exact grown_alloc (grown_dn hg1 _) _
   have hs2 : W2.heap.size = w.heap.size + 2 := by rw [hW2]; simp; exact hs1
   rw [← hW2]
   clear hW2 hR1 hB1 hg1 hs1
   refine (rdat_any W2 R s _ L bad i n hR2 (by omega)).mono ?_
   rintro e w2 ⟨rfl, q6, rfl⟩
   have hcase : (i + n < L.length ∧ posAt s L (i + n) = en) ∨ (¬ i + n < L.length ∧ 0 ≤ bad ∧ en = bad) ∨ (¬ i + n < L.length ∧ ¬ 0 ≤ bad ∧ posAt s L (i + n) = en) := by
    by_cases h : i + n < L.length
    ·exact .inl ⟨h, HP3.out h⟩
    ·by_cases h2 : 0 ≤ bad
     ·exact .inr (.inl ⟨h, h2, (HP4.out h).1 (by omega)⟩)
     ·exact .inr (.inr ⟨h, h2, ((HP4.out h).2 (by omega)).symm⟩)
   obtain ⟨pe, hpe⟩ : ∃ pe, posAt s L (i + n) = pe := ⟨_, rfl⟩
   rw [hpe] at hcase ⊢
   have hR3 := hR2.drewN q6
   have hBa3 := hBa.below (below_dn W2 q6)
   have hBb3 := hBb.below (below_dn W2 q6)
   have hg3 := grown_dn hg2 q6
   have hs3 : (W2.drewN q6).heap.size = w.heap.size + 2 := hs2
   generalize W2.drewN q6 = W3 at hR3 hBa3 hBb3 hg3 hs3 ⊢
   clear hpe hR2 hBa hBb hg2 hs2 HP3 HP4
   obtain ⟨⟨k0, k1, k2, k3⟩, f0, f1, f2, f3⟩ := rd_cells hR3.rd
   obtain ⟨⟨a0, a1, a2, a3⟩, fa0, fa1, fa2, fa3⟩ := blk4 hBa3
   obtain ⟨⟨b0, b1, b2, b3⟩, fb0, fb1, fb2, fb3⟩ := blk4 hBb3
   have hw1 : IntKind.i64.wrap ((i : Int) + (n : Int)) = (i : Int) + (n : Int) := by rw [IntKind.wrap_i64]; omega
   have hne1 : R ≠ w.heap.size := by omega
   have hne2 : R ≠ w.heap.size + 1 := by omega
   have hq : (isWrd T = true ∧ K = 3) ∨ (isWrd T = false ∧ K = 1) := by
    have := HK.out
    rcases h : isWrd T with _ | _
    ·rw [h] at this; exact .inr ⟨rfl, this⟩
    ·rw [h] at this; exact .inl ⟨rfl, this⟩
   obtain ⟨bv, hbv⟩ : ∃ bv, bv = decide (n ≤ 12) := ⟨_, rfl⟩
   have hbi : decide ((n : Int) ≤ 12) = b := by
    rw [HB.out, Bool.eq_iff_iff, decide_eq_true_iff, decide_eq_true_iff]; omega
   have HBI := Lib.hid hbi
   clear hbi hbv bv HK HB
   have hdec : (((L.length : Int) ≤ (i : Int) + (n : Int)) ∧ 0 ≤ bad ∧ en = bad) ∨ (decide ((L.length : Int) ≤ (i : Int) + (n : Int)) = false ∧ pe = en) ∨ (((L.length : Int) ≤ (i : Int) + (n : Int)) ∧ ¬ 0 ≤ bad ∧ pe = en) := by
    rcases hcase with ⟨h1, h2⟩ | ⟨h1, h2, h3⟩ | ⟨h1, h2, h3⟩
    ·exact .inr (.inl ⟨by rw [decide_eq_false_iff_not]; omega, h2⟩)
    ·exact .inl ⟨by omega, h2, h3⟩
    ·exact .inr (.inr ⟨by omega, h2, h3⟩)
   clear hcase
   rcases hdec with ⟨hge, hbd, rfl⟩ | ⟨hge, rfl⟩ | ⟨hge, hbd, rfl⟩
   all_goals
    go_wp2
    go_quiet (fail)
    have hR4 := hR3.drewN nq
    have hBa4 := hBa3.below (below_dn W3 nq)
    have hBb4 := hBb3.below (below_dn W3 nq)
    have hg4 := grown_dn hg3 nq
    have hs4 : (W3.drewN nq).heap.size = w.heap.size + 2 := hs3
    generalize W3.drewN nq = W4 at hR4 hBa4 hBb4 hg4 hs4 ⊢
    clear k0 k1 k2 k3 f0 f1 f2 f3 a0 a1 a2 a3 fa0 fa1 fa2 fa3 b0 b1 b2 b3 fb0 fb1 fb2 fb3 hR3 hBa3 hBb3 hg3 hs3
    obtain ⟨⟨k0, k1, k2, k3⟩, f0, f1, f2, f3⟩ := rd_cells hR4.rd
    obtain ⟨⟨a0, a1, a2, a3⟩, fa0, fa1, fa2, fa3⟩ := blk4 hBa4
    obtain ⟨⟨b0, b1, b2, b3⟩, fb0, fb1, fb2, fb3⟩ := blk4 hBb4
    go_wp2_with fail
    go_still_tail 9, (by kernel_rfl)
    change wpList _ _ _ _ _ W4.drew
    have hd4 : Below W4.heap.size W4 W4.drew := (Below.refl W4.heap.size W4).trans ⟨rfl, rfl, rfl, Nat.le_refl _, fun _ _ => rfl⟩
    have hR5 := hR4.below hd4
    have hBa5 := hBa4.below hd4
    have hBb5 := hBb4.below hd4
    have hg5 := hg4.trans (grown_of_below hd4 _)
    have hs5 : W4.drew.heap.size = w.heap.size + 2 := hs4
    generalize W4.drew = W5 at hR5 hBa5 hBb5 hg5 hs5 ⊢
    clear hd4 k0 k1 k2 k3 f0 f1 f2 f3 a0 a1 a2 a3 fa0 fa1 fa2 fa3 b0 b1 b2 b3 fb0 fb1 fb2 fb3 hR4 hBa4 hBb4 hg4 hs4
    obtain ⟨⟨k0, k1, k2, k3⟩, f0, f1, f2, f3⟩ := rd_cells hR5.rd
    obtain ⟨⟨a0, a1, a2, a3⟩, fa0, fa1, fa2, fa3⟩ := blk4 hBa5
    obtain ⟨⟨b0, b1, b2, b3⟩, fb0, fb1, fb2, fb3⟩ := blk4 hBb5
    go_wp2_with fail
    rw [← HTX.out]
    have hR6 := rd_set (rd_other hR5.rd ⟨w.heap.size + 1, 1, none⟩ hne2 (.string T)) ((i : Int) + (n : Int))
    have hBa6 := blk_other (blk_other hBa5 ⟨w.heap.size + 1, 1, none⟩ (by simp) (.string T)) ⟨R, 3, none⟩ (fun e => hne1 e.symm) (.int .i64 ((i : Int) + (n : Int)))
    have hBb6 := blk_other (blk_set1 hBb5 (.string T)) ⟨R, 3, none⟩ (fun e => hne2 e.symm) (.int .i64 ((i : Int) + (n : Int)))
    have hg6 := grown_R (grown_new hg5 ⟨w.heap.size + 1, 1, none⟩ (by simp) (.string T)) 3 (.int .i64 ((i : Int) + (n : Int)))
    have hs6 : ((W5.setCell ⟨w.heap.size + 1, 1, none⟩ (.string T)).setCell ⟨R, 3, none⟩ (.int .i64 ((i : Int) + (n : Int)))).heap.size = w.heap.size + 2 := by simp; exact hs5
    generalize (W5.setCell ⟨w.heap.size + 1, 1, none⟩ (.string T)).setCell ⟨R, 3, none⟩ (.int .i64 ((i : Int) + (n : Int))) = W6 at hR6 hBa6 hBb6 hg6 hs6 ⊢
    clear k0 k1 k2 k3 f0 f1 f2 f3 a0 a1 a2 a3 fa0 fa1 fa2 fa3 b0 b1 b2 b3 fb0 fb1 fb2 fb3 hR5 hBa5 hBb5 hg5 hs5
    rcases hq with ⟨hq, rfl⟩ | ⟨hq, rfl⟩
    ·refine (refword_is T _ _ hq).mono ?_
     rintro e w7 ⟨rfl, hb7⟩
     have hR7 := hR6.below hb7
     have hBa7 := hBa6.below hb7
     have hBb7 := hBb6.below hb7
     have hg7 := hg6.trans (grown_of_below hb7 _)
     have hs7 : w.heap.size + 2 ≤ w7.heap.size := by have := hb7.size; omega
     clear hb7 hR6 hBa6 hBb6 hg6 hs6
     obtain ⟨⟨a0, a1, a2, a3⟩, fa0, fa1, fa2, fa3⟩ := blk4 hBa7
     obtain ⟨⟨b0, b1, b2, b3⟩, fb0, fb1, fb2, fb3⟩ := blk4 hBb7
     have hbi := HBI.out
     go_wp2
     have hB9 := (blk_other hBa7 ⟨w.heap.size + 1, 0, none⟩ (by simp) (.int .i64 3)).set (.int .i64 3) (.string T) (.int .i64 0) (.int .i64 po)
     obtain ⟨⟨j0, j1, j2, j3⟩, g0, g1, g2, g3⟩ := blk4 hB9
     refine bodyPost_ret (v := .tuple #[.agg #[.int .i64 3, .string T, .int .i64 0, .int .i64 po], .bool b]) (by simp [results, Tryz.results118, go_sem, j0, j1, j2, j3]) rfl ⟨rfl, ?_, ?_⟩
     ·refine rd_other ?_ _ hne1 _
      refine rd_other ?_ _ hne1 _
      refine rd_other ?_ _ hne1 _
      refine rd_other ?_ _ hne1 _
      refine rd_other ?_ _ hne2 _
      exact hR7
     ·refine grown_new ?_ _ (by simp) _
      refine grown_new ?_ _ (by simp) _
      refine grown_new ?_ _ (by simp) _
      refine grown_new ?_ _ (by simp) _
      refine grown_new ?_ _ (by simp) _
      exact hg7
    ·refine (refword_is T _ _ hq).mono ?_
     rintro e w7 ⟨rfl, hb7⟩
     have hR7 := hR6.below hb7
     have hBa7 := hBa6.below hb7
     have hBb7 := hBb6.below hb7
     have hg7 := hg6.trans (grown_of_below hb7 _)
     have hs7 : w.heap.size + 2 ≤ w7.heap.size := by have := hb7.size; omega
     clear hb7 hR6 hBa6 hBb6 hg6 hs6
     obtain ⟨⟨a0, a1, a2, a3⟩, fa0, fa1, fa2, fa3⟩ := blk4 hBa7
     obtain ⟨⟨b0, b1, b2, b3⟩, fb0, fb1, fb2, fb3⟩ := blk4 hBb7
     have hbi := HBI.out
     go_wp2
     have hB9 := hBa7.set (.int .i64 1) (.string T) (.int .i64 0) (.int .i64 po)
     obtain ⟨⟨j0, j1, j2, j3⟩, g0, g1, g2, g3⟩ := blk4 hB9
     refine bodyPost_ret (v := .tuple #[.agg #[.int .i64 1, .string T, .int .i64 0, .int .i64 po], .bool b]) (by simp [results, Tryz.results118, go_sem, j0, j1, j2, j3]) rfl ⟨rfl, ?_, ?_⟩
     ·refine rd_other ?_ _ hne1 _
      refine rd_other ?_ _ hne1 _
      refine rd_other ?_ _ hne1 _
      refine rd_other ?_ _ hne1 _
      exact hR7
     ·refine grown_new ?_ _ (by simp) _
      refine grown_new ?_ _ (by simp) _
      refine grown_new ?_ _ (by simp) _
      refine grown_new ?_ _ (by simp) _
      exact hg7
end Go.Proofs.YtmpcmpeloebnhaaGreatDoor
namespace Go.Proofs.YtmpcmpeloebnhaaGreatDoor
open Go.RowKit
theorem dg_not (r : Int) (h : dgB r = false) : ¬ cls r = 2 := by
 unfold dgB at h
 simpa using h
set_option maxRecDepth 100000 in
set_option maxHeartbeats 4000000 in
theorem rnumber_any (w : World) (R : Nat) (s : ByteArray) (lv : Value) (L : RL) (bad : Int) (i : Nat) (hS : RS w R s lv L bad i) (hi : i < L.length) (h1 : cls (L[i]'hi).1 = 2)
  (po : Int) (hpo : (L[i]'hi).2 = po) (N : Int) (hN : N = numV 0 (L.drop i)) (b : Bool) (hb : b = decide (N ≤ 99 ∧ ¬ ((L[i]'hi).1 = 48 ∧ 1 < cnt dgB (L.drop i)))) :
  Calls Tryz.prog 119 #[.pointer (some ⟨R, 0, none⟩)] w fun e w' => e = .returned (.tuple #[.agg #[.int .i64 2, .string ⟨#[]⟩, .int .i64 N, .int .i64 po], .bool b]) ∧ Rd w' R s lv bad ((i : Int) + cnt dgB (L.drop i)) ∧ w.grownBy w' (some R) := by
 obtain ⟨a, cap, rfl, hrow⟩ := hS.slice
 have hRlt := hS.rd.lt
 have hlsz := hS.sz
 have hc1 : 1 ≤ cnt dgB (L.drop i) := by
  rw [drop_at L i hi, cnt_pos (by unfold dgB; rw [h1]; rfl)]; omega
 have hcl : i + cnt dgB (L.drop i) ≤ L.length := by have := cnt_le dgB (L.drop i); rw [List.length_drop] at this; omega
 have hin := cnt_in dgB L i
 have hout := cnt_out dgB L i
 obtain ⟨c, hc⟩ : ∃ c, c = cnt dgB (L.drop i) := ⟨_, rfl⟩
 rw [← hc] at hc1 hcl hin hout hb ⊢
 obtain ⟨z, hz⟩ : ∃ z, isAt L i 48 = z := ⟨_, rfl⟩
 have hz48 : z = true ↔ (L[i]'hi).1 = 48 := by rw [← hz, isAt_in L i 48 hi, beq_iff_eq]
 have hb' : b = (decide (N ≤ 99) && !(z && decide ((1 : Int) < (c : Int)))) := by
  rw [hb, Bool.eq_iff_iff]
  simp only [decide_eq_true_iff, Bool.and_eq_true, Bool.not_eq_true', Bool.and_eq_false_imp, decide_eq_false_iff_not, hz48]
  constructor
  ·intro h; exact ⟨h.1, fun h2 h3 => h.2 ⟨h2, by omega⟩⟩
  ·intro h; exact ⟨h.1, fun h2 => h.2 h2.1 (by omega)⟩
 obtain ⟨g, rfl, hgR, hglt, hcells⟩ := hrow (by omega)
 have HIN := Lib.hid hin
 have HOUT := Lib.hid hout
 have HN := Lib.hid hN
 have HB := Lib.hid hb'
 have HPO := Lib.hid hpo
 have HZ := Lib.hid hz
 have HS0 := Lib.hid hS
 have HCE := Lib.hid hcells
 clear hin hout hN hb hb' hpo h1 hc hz48 hz hrow hcells
 go_enter Tryz.func119, Tryz.ntmps119
 go_wp2_with fail
 obtain ⟨W0, hW0⟩ : ∃ W0, W0 = w.alloc (.cells #[.int .i64 0, .string ⟨#[]⟩, .int .i64 0, .int .i64 0] 70) := ⟨_, rfl⟩
 have hR0 : RS W0 R s (.slice (some ⟨g, 0, none⟩) L.length cap) L bad i := by rw [hW0]; exact hS.below ((Below.refl _ _).alloc (Nat.le_refl _) _)
 have hB0 : Blk4 W0 w.heap.size (.int .i64 0) (.string ⟨#[]⟩) (.int .i64 0) (.int .i64 0) := by rw [hW0]; exact blk4_new _ _ _ _ _
 have hg0 : w.grownBy W0 (some R) := by rw [hW0]; exact grown_alloc (grown_refl _ _) _
 have hs0 : W0.heap.size = w.heap.size + 1 := by rw [hW0]; simp
 rw [← hW0]
 clear hW0 hS
 refine (rdat0 W0 R s _ L bad i hR0).mono ?_
 rintro e w2 ⟨rfl, q5, rfl⟩
 rw [show posAt s L i = po by rw [← HPO.out]; unfold posAt; rw [List.getElem?_eq_getElem hi]]
 go_wp2_with fail
 obtain ⟨W2, hW2⟩ : ∃ W2, W2 = (W0.drewN q5).alloc (.cells #[.int .i64 2, .string ⟨#[]⟩, .int .i64 0, .int .i64 po] 70) := ⟨_, rfl⟩
 have hR2 : RS W2 R s (.slice (some ⟨g, 0, none⟩) L.length cap) L bad i := by rw [hW2]; exact (hR0.drewN q5).below ((Below.refl _ _).alloc (Nat.le_refl _) _)
 have hBa : Blk4 W2 w.heap.size (.int .i64 0) (.string ⟨#[]⟩) (.int .i64 0) (.int .i64 0) := by rw [hW2]; exact (hB0.below (below_dn _ _)).below ((Below.refl _ _).alloc (Nat.le_refl _) _)
 have hBb : Blk4 W2 (w.heap.size + 1) (.int .i64 2) (.string ⟨#[]⟩) (.int .i64 0) (.int .i64 po) := by
  rw [hW2, ← hs0]; exact blk4_new (W0.drewN q5) _ _ _ _
 have hg2 : w.grownBy W2 (some R) := by rw [hW2]; exact grown_alloc (grown_dn hg0 _) _
 have hs2 : W2.heap.size = w.heap.size + 2 := by rw [hW2]; simp; exact hs0
 rw [← hW2]
 clear hW2 hR0 hB0 hg0
 refine (rdis0 W2 R s _ L bad i 48 z hR2 HZ.out).mono ?_
 rintro e w2 ⟨rfl, q6, rfl⟩
 have hR3 := hR2.drewN q6
 have hBa3 := hBa.below (below_dn W2 q6)
 have hBb3 := hBb.below (below_dn W2 q6)
 have hg3 := grown_dn hg2 q6
 have hs3 : (W2.drewN q6).heap.size = w.heap.size + 2 := hs2
 generalize W2.drewN q6 = W3 at hR3 hBa3 hBb3 hg3 hs3 ⊢
 clear hR2 hBa hBb hg2 hs2
 clear hs0
 go_wp2
 go_loopw [6] (fun v wr => ∃ (n : Nat) (V : Int), v = .int .i64 n ∧ n ≤ c ∧ 0 ≤ V ∧ V ≤ 1000 ∧ Rd wr R s (.slice (some ⟨g, 0, none⟩) L.length cap) bad i ∧ Blk4 wr w.heap.size (.int .i64 0) (.string ⟨#[]⟩) (.int .i64 0) (.int .i64 0) ∧ Blk4 wr (w.heap.size + 1) (.int .i64 2) (.string ⟨#[]⟩) (.int .i64 V) (.int .i64 po) ∧ w.grownBy wr (some R) ∧ w.heap.size + 2 ≤ wr.heap.size ∧ Hid (numV V (L.drop (i + n)) = numV 0 (L.drop i))) (fun v _ => c - (intOf v).toNat)
 case atStart => exact ⟨0, 0, rfl, by omega, by omega, by omega, hR3.rd, hBa3, hBb3, hg3, by omega, (rfl : numV 0 (L.drop i) = _)⟩
 case round =>
  obtain ⟨n, V, rfl, hn, hV0, hV1, hRx, hBax, hBbx, hgx, hsx, HV⟩ := hrel
  have hRSx := HS0.out.grown hgx hRx (by omega)
  clear hR3 hBa3 hBb3 hg3 hs3
  have hne1 : R ≠ w.heap.size := by omega
  have hne2 : R ≠ w.heap.size + 1 := by omega
  by_cases hnc : n < c
  ·obtain ⟨hk, hp⟩ := HIN.out n hnc
   have hrg := (dgB_iff _).1 hp
   have hstep : numV V (L.drop (i + n)) = numV (min (10 * V + ((L[i + n]'hk).1 - 48)) 1000) (L.drop (i + (n + 1))) := by
    rw [drop_at L _ hk, numV, if_pos hp]; rfl
   have HV1 := Lib.hid (hstep.symm.trans HV.out)
   have HC := Lib.hid (show clsAt L (i + n) = 2 by rw [clsAt_in L _ hk]; unfold dgB at hp; simpa using hp)
   have hcell : ∀ W : World, RS W R s (.slice (some ⟨g, 0, none⟩) L.length cap) L bad i → W.cell? ⟨g, (i + n) * 2, none⟩ = some (.int .i32 (L[i + n]'hk).1) := fun W h => (h.row.cellAt ((i + n) * 2) (by omega)).trans (flat_get0 L (i + n) hk)
   have HCL := Lib.hid hcell
   clear hstep HV hp hcell
   go_wp2_with fail
   refine (rdclassk _ R s _ L bad i n 2 hRSx (by omega) HC.out).mono ?_
   rintro e w2 ⟨rfl, q2, rfl⟩
   have hR4 := hRSx.drewN q2
   have hBa4 := hBax.below (below_dn _ q2)
   have hBb4 := hBbx.below (below_dn _ q2)
   have hg4 := grown_dn hgx q2
   have hs4 : w.heap.size + 2 ≤ (wr.drewN q2).heap.size := hsx
   generalize wr.drewN q2 = W4 at hR4 hBa4 hBb4 hg4 hs4 ⊢
   obtain ⟨⟨k0, k1, k2, k3⟩, f0, f1, f2, f3⟩ := rd_cells hR4.rd
   obtain ⟨⟨b0, b1, b2, b3⟩, fb0, fb1, fb2, fb3⟩ := blk4 hBb4
   have hc0 := HCL.out _ hR4
   generalize (L[i + n]'hk) = qq at hc0 hrg HV1
   have hw1 : IntKind.i64.wrap ((i : Int) + (n : Int)) = (i : Int) + (n : Int) := by rw [IntKind.wrap_i64]; omega
   have hw0 : 0 ≤ (i : Int) + (n : Int) := by omega
   have hwn : ((i : Int) + (n : Int)).toNat = i + n := by omega
   have hwl : (i : Int) + (n : Int) < (L.length : Int) := by omega
   have hw2 : IntKind.i32.wrap (qq.1 - 48) = qq.1 - 48 := by rw [IntKind.wrap_i32]; omega
   have hw3 : IntKind.i64.wrap (10 * V) = 10 * V := by rw [IntKind.wrap_i64]; omega
   have hw4 : IntKind.i64.wrap (qq.1 - 48) = qq.1 - 48 := by rw [IntKind.wrap_i64]; omega
   have hw5 : IntKind.i64.wrap (10 * V + (qq.1 - 48)) = 10 * V + (qq.1 - 48) := by rw [IntKind.wrap_i64]; omega
   have hV2 : 0 ≤ min (10 * V + (qq.1 - 48)) 1000 ∧ min (10 * V + (qq.1 - 48)) 1000 ≤ 1000 := by omega
   clear hRx hBax hBbx hgx hsx hRSx HCL
   go_wp2_with fail
   go_still_tail 21, (by kernel_rfl)
   change wpList _ _ _ _ _ W4.drew
   have hd4 : Below W4.heap.size W4 W4.drew := (Below.refl W4.heap.size W4).trans ⟨rfl, rfl, rfl, Nat.le_refl _, fun _ _ => rfl⟩
   have hR5 := hR4.rd.below hd4
   have hBa5 := hBa4.below hd4
   have hBb5 := hBb4.below hd4
   have hg5 := hg4.trans (grown_of_below hd4 _)
   have hs5 : w.heap.size + 2 ≤ W4.drew.heap.size := hs4
   generalize W4.drew = W5 at hR5 hBa5 hBb5 hg5 hs5 ⊢
   clear hd4 k0 k1 k2 k3 f0 f1 f2 f3 b0 b1 b2 b3 fb0 fb1 fb2 fb3 hR4 hBa4 hBb4 hg4 hs4 hc0 hw1 hw0 hwn hwl hw2
   obtain ⟨⟨b0, b1, b2, b3⟩, fb0, fb1, fb2, fb3⟩ := blk4 hBb5
   go_wp2
   clear hw3 hw4 hw5
   go_roundw
   case rel => exact ⟨n + 1, _, by go_num, by omega, hV2.1, hV2.2, rd_other hR5 ⟨w.heap.size + 1, 2, none⟩ hne2 _, blk_other hBa5 ⟨w.heap.size + 1, 2, none⟩ (by simp) _, blk_set2 hBb5 _, grown_new hg5 ⟨w.heap.size + 1, 2, none⟩ (by simp) _, by simp; omega, HV1.out⟩
   case measure => simp [intOf]; omega
  ·obtain rfl : n = c := by omega
   obtain ⟨cv, hcv, hcv2, hVe⟩ : ∃ cv, clsAt L (i + n) = cv ∧ ¬ cv = 2 ∧ numV V (L.drop (i + n)) = V := by
    by_cases hin : i + n < L.length
    ·have hno := HOUT.out hin
     refine ⟨_, clsAt_in L _ hin, dg_not _ hno, ?_⟩
     rw [drop_at L _ hin, numV, if_neg (by rw [hno]; decide)]
    ·exact ⟨-1, clsAt_out L _ hin, by omega, by rw [List.drop_of_length_le (by omega)]; rfl⟩
   obtain rfl : V = N := by rw [HN.out, ← HV.out, hVe]
   have HC := Lib.hid hcv
   have e2 : (cv == 2) = false := by rw [beq_eq_false_iff_ne]; exact hcv2
   clear hcv hcv2 hVe HV HN
   go_wp2_with fail
   refine (rdclassk _ R s _ L bad i n cv hRSx (by omega) HC.out).mono ?_
   rintro e w2 ⟨rfl, q2, rfl⟩
   have hR4 := hRSx.drewN q2
   have hBa4 := hBax.below (below_dn _ q2)
   have hBb4 := hBbx.below (below_dn _ q2)
   have hg4 := grown_dn hgx q2
   have hs4 : w.heap.size + 2 ≤ (wr.drewN q2).heap.size := hsx
   generalize wr.drewN q2 = W4 at hR4 hBa4 hBb4 hg4 hs4 ⊢
   obtain ⟨⟨k0, k1, k2, k3⟩, f0, f1, f2, f3⟩ := rd_cells hR4.rd
   obtain ⟨⟨a0, a1, a2, a3⟩, fa0, fa1, fa2, fa3⟩ := blk4 hBa4
   obtain ⟨⟨b0, b1, b2, b3⟩, fb0, fb1, fb2, fb3⟩ := blk4 hBb4
   have hw1 : IntKind.i64.wrap ((i : Int) + (n : Int)) = (i : Int) + (n : Int) := by rw [IntKind.wrap_i64]; omega
   clear hRx hBax hBbx hgx hsx hRSx HC
   have hbd := HB.out
   clear HB
   rcases (show V ≤ 99 ∨ ¬ V ≤ 99 by omega) with h99 | h99 <;> rcases (show (1 : Int) < (n : Int) ∨ ¬ (1 : Int) < (n : Int) by omega) with h1n | h1n <;> rcases z with _ | _
   all_goals
    simp [h99, h1n] at hbd
    subst hbd
    go_wp2
    have hB9 := (blk_other hBa4 ⟨R, 3, none⟩ (fun e => hne1 e.symm) (.int .i64 ((i : Int) + (n : Int)))).set (.int .i64 2) (.string ⟨#[]⟩) (.int .i64 V) (.int .i64 po)
    obtain ⟨⟨j0, j1, j2, j3⟩, g0, g1, g2, g3⟩ := blk4 hB9
    refine bodyPost_ret (v := .tuple #[.agg #[.int .i64 2, .string ⟨#[]⟩, .int .i64 V, .int .i64 po], .bool _]) (by first | (simp [results, Tryz.results119, go_sem, j0, j1, j2, j3]; done) | (simp [results, Tryz.results119, go_sem, j0, j1, j2, j3]; omega)) rfl ⟨rfl, ?_, ?_⟩
    ·refine rd_other ?_ _ hne1 _
     refine rd_other ?_ _ hne1 _
     refine rd_other ?_ _ hne1 _
     refine rd_other ?_ _ hne1 _
     exact rd_set hR4.rd _
    ·refine grown_new ?_ _ (by simp) _
     refine grown_new ?_ _ (by simp) _
     refine grown_new ?_ _ (by simp) _
     refine grown_new ?_ _ (by simp) _
     exact grown_R hg4 3 _
end Go.Proofs.YtmpcmpeloebnhaaGreatDoor
