/- Parts of the proof: KF KG KH KI KJ KL. -/
import Derived.Test.YtmpcmpeloebnhaaGreatDoorKP02
import Derived.Test.YtmpcmpeloebnhaaGreatDoorKP00
import Derived.Test.YtmpcmpeloebnhaaGreatDoorRows
import Derived.WalkKit
import Derived.WalkLawsBesides
import Derived.WalkSpells
import Derived.ProofKit
import Derived.Outline
import Derived.Deep.QuietTactic
import Derived.BigQuiet
import Derived.Deep.Light
import Derived.Deep.CutBlock
import Derived.Deep.DeepCutAuto
import Derived.Deep.DeepFit
import Derived.Deep.LoopGhost
import Derived.Lib.Hide
import Derived.Lib.OthersKept
import Derived.IntWalk
import Derived.StillTailTactics
import Derived.Maps.OwnSet
import Derived.Maps.OwnOps
import Derived.Deep.RegionHeld3
import Derived.OrdersHeld
namespace Go.Proofs.YtmpcmpeloebnhaaGreatDoor
open Go.RowKit
open Go.Maps
def PrdIs (w : World) (M : Nat) (pv : Value) (Q : ByteArray → Option (List Dc)) : Prop := ∃ (N m : Nat) (f : ByteArray → Option Value), pv = .map (some N) ∧ N ≠ M ∧ SMap Tryz.prog 9 w N m f ∧ ∀ s, (f s = none ∧ Q s = none) ∨ ∃ (a : Option Addr) (cap : Nat) (ds : List Dc), f s = some (.slice a ds.length cap) ∧ Q s = some ds ∧ DcsIn w a ds
theorem PrdIs.below {w w' : World} {M : Nat} {pv : Value} {Q : ByteArray → Option (List Dc)} (h : PrdIs w M pv Q) (hb : Below w.heap.size w w') : PrdIs w' M pv Q := by
 obtain ⟨N, m, f, h1, h2, h3, h4⟩ := h
 refine ⟨N, m, f, h1, h2, h3.same (hb.block N h3.lt), fun s => ?_⟩
 rcases h4 s with h | ⟨a, cap, ds, g1, g2, g3⟩
 ·exact .inl h
 ·exact .inr ⟨a, cap, ds, g1, g2, g3.below hb⟩
theorem zeroDcs (w : World) : (zeroValue 22).run Tryz.prog w = .ok (.slice none 0 0) w := by kernel_rfl
def callR (O : ByteArray → Int) (Q : ByteArray → Option (List Dc)) (name : ByteArray) (pos : Int) (kids : Fo) : Int × Int :=
 match Q name with | none => (pos, 5) | some ds => if kids.len = ds.length then callK O pos kids ds else (pos, 7)
theorem callK_must (O : ByteArray → Int) (pos : Int) (op name : ByteArray) (n p : Int) (a : Option Addr) (cap : Nat) (kids rest : Fo) (d : Dc) (ds : List Dc) : callK O pos (.cons op name n p a cap kids rest) (d :: ds) = mustK d.order (Nd.kd O ⟨op, name, n, p, a, cap, kids⟩) pos (callK O pos rest ds) := rfl
set_option maxRecDepth 100000 in
set_option maxHeartbeats 16000000 in
theorem kcall_any (op name : ByteArray) (n pos : Int) (a : Option Addr) (cap : Nat) (kids : Fo) (w : World) (M m : Nat) (pv : Value) (O : ByteArray → Int) (Q : ByteArray → Option (List Dc)) (ho : OrdIs w M m O) (hp : PrdIs w M pv Q) (hs : name.size ≤ 140737488351232) (hin : KidsIn w a kids) (hsz : kids.sized) (hok : kids.allB Nd.okT = true) :
  Calls Tryz.prog 85 #[scV M pv, .agg #[.string op, .string name, .int .i64 n, .int .i64 pos, .slice a kids.len cap]] w fun e w' => e = .returned (.tuple #[.int .i64 (callR O Q name pos kids).1, .int .i64 (callR O Q name pos kids).2]) ∧ Below w.heap.size w w' := by
 obtain ⟨q0, hq0⟩ : ∃ q0, q0 = callR O Q name pos kids := ⟨_, rfl⟩
 rw [← hq0]
 have hc2 := cellsScope
 have hc3 := cellsDecl
 have hc5 := cellsNode
 obtain ⟨N, mp, f, rfl, hNM, hSM, hPQ⟩ := hp
 have HW := Lib.hid (two_boxes w (scBox M (.map (some N))) (boxOf op name n pos a kids.len cap))
 have hx : w.heap.size < (w.alloc (scBox M (.map (some N)))).heap.size := by simp
 have HS := Lib.hid ((Below.heap_alloc (w.alloc (scBox M (.map (some N)))) (boxOf op name n pos a kids.len cap) _ hx).trans (new_at w (scBox M (.map (some N)))))
 have HB := Lib.hid (show ((w.alloc (scBox M (.map (some N)))).alloc (boxOf op name n pos a kids.len cap)).heap[w.heap.size + 1]? = some (boxOf op name n pos a kids.len cap) from by have h := new_at (w.alloc (scBox M (.map (some N)))) (boxOf op name n pos a kids.len cap); rw [alloc_size] at h; exact h)
 have HM := Lib.hid (hSM.same (HW.out.block N hSM.lt))
 have hsz1 : name.size ≤ maxLen := by unfold maxLen; omega
 obtain ⟨k0, k1⟩ := sc_cells HS.out
 obtain ⟨b0, b1, b2, b3, b4⟩ := box_cells HB.out
 have HO := Lib.hid (ho.below HW.out)
 have HIN := Lib.hid hin
 have HSZ := Lib.hid hsz
 have HOK := Lib.hid hok
 have hpq := hPQ name
 clear ho hin hsz hok hPQ hSM hNM
 rcases hpq with ⟨hfn, hqn⟩ | ⟨pa, pcap, ds, hfn, hqn, hdin⟩
 ·have hz : q0 = (pos, 5) := by rw [hq0]; unfold callR; rw [hqn]
  have HN := Lib.hid hfn
  subst hz
  clear hq0 hfn hqn
  go_enter Tryz.func85, Tryz.ntmps85
  go_wp2_with (at_lookup; refine wpList_lookup_smap _ rfl _ _ 79 rfl 9 22 Tryz.underlying9 Tryz.underlying79 (zeroDcs _) N mp f rfl HM.out name rfl hsz1 ?_; rw [HN.out])
  go_wp2_with fail
  go_ret2
  exact ⟨rfl, HW.out⟩
 ·have HN := Lib.hid hfn
  have hq1 : q0 = (if kids.len = ds.length then callK O pos kids ds else (pos, 7)) := by rw [hq0]; unfold callR; rw [hqn]
  clear hq0 hfn hqn
  by_cases hlen : kids.len = ds.length
  ·rw [if_pos hlen] at hq1
   have HQ := Lib.hid hq1
   have hlb : ((kids.len : Int) != (ds.length : Int)) = false := by simp [hlen]
   have HL := Lib.hid hlen
   have HDI := Lib.hid hdin
   clear hq1 hlen hdin
   rcases HIN.out with hnil | ⟨kb, ko, hab, hlim, hpos, hkin⟩
   ·subst hnil
    have hz0 : ((Fo.nil.len : Nat) : Int) = 0 := rfl
    have hz : q0 = (0, 0) := by rw [HQ.out]; rfl
    subst hz
    go_enter Tryz.func85, Tryz.ntmps85
    go_wp2_with (at_lookup; refine wpList_lookup_smap _ rfl _ _ 79 rfl 9 22 Tryz.underlying9 Tryz.underlying79 (zeroDcs _) N mp f rfl HM.out name rfl hsz1 ?_; rw [HN.out])
    go_wp2_with fail
    go_loopw [35] (fun i wr => i = .int .i64 0 ∧ Below w.heap.size w wr) (fun _ _ => 0)
    case atStart => exact ⟨rfl, HW.out⟩
    case round =>
     obtain ⟨rfl, hbx⟩ := hrel
     go_wp2_with fail
     go_ret2
     exact ⟨rfl, hbx⟩
   ·subst hab
    have HST := Lib.hid (Tail.start (P := fun _ => True) (hkin.below HW.out) (Fo.all_of (fun _ _ => trivial) kids))
    have hdl : 0 < ds.length := by have := HL.out; omega
    obtain ⟨db, dO, hpa, hdat⟩ : ∃ b o, pa = some ⟨b, o, none⟩ ∧ ∀ i d, ds[i]? = some d → DcAt w b (o + i * 3) d := by
     rcases HDI.out with h | ⟨b, o, h1, h2, h3, h4⟩
     ·rw [h] at hdl; cases hdl
     ·exact ⟨b, o, h1, h3⟩
    subst hpa
    have HDA := Lib.hid hdat
    clear hkin hpos hdat
    go_enter Tryz.func85, Tryz.ntmps85
    go_wp2_with (at_lookup; refine wpList_lookup_smap _ rfl _ _ 79 rfl 9 22 Tryz.underlying9 Tryz.underlying79 (zeroDcs _) N mp f rfl HM.out name rfl hsz1 ?_; rw [HN.out])
    go_wp2_with fail
    go_loopw [35] (fun i wr => ∃ (k : Nat) (R : Fo), i = .int .i64 k ∧ RowKit.Hid (Tail wr (fun _ => True) kids R kb ko k) ∧ RowKit.Hid (q0 = callK O pos R (ds.drop k)) ∧ RowKit.Hid (R.allB Nd.okT = true) ∧ RowKit.Hid R.sized ∧ RowKit.Hid (wr.heap[w.heap.size]? = some (scBox M (.map (some N)))) ∧ RowKit.Hid (wr.heap[w.heap.size + 1]? = some (boxOf op name n pos (some ⟨kb, ko, none⟩) kids.len cap)) ∧ Below w.heap.size w wr ∧ RowKit.Hid (OrdIs wr M m O)) (fun i _ => kids.len - (intOf i).toNat)
    case atStart => exact ⟨0, kids, rfl, HST, HQ, HOK, HSZ, HS, HB, HW.out, HO⟩
    case round =>
     obtain ⟨k, R, rfl, HTL, HAL, HKO, HRS, HX, HY, hbx, HOR⟩ := hrel
     replace k0 := (sc_cells HX.out).1
     replace k1 := (sc_cells HX.out).2
     clear b0 b1 b2 b3 b4
     obtain ⟨b0, b1, b2, b3, b4⟩ := box_cells HY.out
     cases R with
     | nil =>
      have hkl : k = kids.len := by have := HTL.out.len; simpa [Fo.len] using this
      subst hkl
      have hz : q0 = (0, 0) := by rw [HAL.out]; cases ds.drop kids.len <;> rfl
      subst hz
      go_wp2_with fail
      go_ret2
      exact ⟨rfl, hbx⟩
     | cons op1 name1 n1 pos1 a1 cap1 kids1 rest =>
      obtain ⟨hnode, hin1, _, hkl, hnext⟩ := HTL.out.next
      have hkl2 : (k : Int) < kids.len := by omega
      have hkd : k < ds.length := by have := HL.out; omega
      have hkd2 : (k : Int) < ds.length := by omega
      have hkd3 : (0 : Int) ≤ k := by omega
      obtain ⟨c0, c1, c2, c3, c4⟩ := hnode
      have HN1 := Lib.hid hnext
      have hdr := List.drop_eq_getElem_cons hkd
      have hdg := HDA.out k (ds[k]'hkd) (List.getElem?_eq_getElem hkd)
      generalize (ds[k]'hkd) = d at hdr hdg
      have e1 := cell_below hbx hdg.2.1
      have hal : q0 = mustK d.order (Nd.kd O ⟨op1, name1, n1, pos1, a1, cap1, kids1⟩) pos (callK O pos rest (ds.drop (k + 1))) := by rw [HAL.out, hdr]; rfl
      have hok2 : (Nd.okT ⟨op1, name1, n1, pos1, a1, cap1, kids1⟩ && rest.allB Nd.okT) = true := HKO.out
      rw [Bool.and_eq_true] at hok2
      have hcall := kmust_of ⟨op1, name1, n1, pos1, a1, cap1, kids1⟩ (kkind_all _) (wr.alloc (boxOf op1 name1 n1 pos1 a1 kids1.len cap1)).drew M m (.map (some N)) O d.order pos ((HOR.out.below (below_box _ _)).drew) (hin1.below (below_box _ _).drew) ⟨HRS.out.1, HRS.out.2.1⟩ hok2.1
      rw [Nd.val_def] at hcall
      have hgo := @mustK_go d.order (Nd.kd O ⟨op1, name1, n1, pos1, a1, cap1, kids1⟩) pos (callK O pos rest (ds.drop (k + 1)))
      have hstop := @mustK_stop d.order (Nd.kd O ⟨op1, name1, n1, pos1, a1, cap1, kids1⟩) pos (callK O pos rest (ds.drop (k + 1)))
      generalize mustK d.order (Nd.kd O ⟨op1, name1, n1, pos1, a1, cap1, kids1⟩) pos (0, 0) = q at hcall hgo hstop
      obtain ⟨qp, qe⟩ := q
      simp only [] at hcall hgo hstop
      generalize d.order = od at e1 hcall hal hgo hstop
      have HCL := Lib.hid hcall
      have HR2 := Lib.hid HRS.out.2.2
      have HK2 := Lib.hid hok2.2
      obtain ⟨x0, x1, x2, x3, x4⟩ := box_cells (new_at wr (boxOf op1 name1 n1 pos1 a1 kids1.len cap1))
      have HBD : RowKit.Hid (Below wr.heap.size wr (wr.alloc (boxOf op1 name1 n1 pos1 a1 kids1.len cap1)).drew) := Lib.hid (below_box _ _).drew
      have HBE : RowKit.Hid (Below (wr.alloc (boxOf op1 name1 n1 pos1 a1 kids1.len cap1)).heap.size (wr.alloc (boxOf op1 name1 n1 pos1 a1 kids1.len cap1)) (wr.alloc (boxOf op1 name1 n1 pos1 a1 kids1.len cap1)).drew) := Lib.hid (Below.refl _ _).drew
      have HALq := Lib.hid hal
      have HGO := Lib.hid hgo
      have HSTOP := Lib.hid hstop
      clear hnext hin1 hcall HTL hok2 hal hgo hstop hdg hdr HAL
      go_wp2_with fail
      replace k0 := cell_below (below_box wr (boxOf op1 name1 n1 pos1 a1 kids1.len cap1)) k0
      replace k1 := cell_below (below_box wr (boxOf op1 name1 n1 pos1 a1 kids1.len cap1)) k1
      replace b3 := cell_below (below_box wr (boxOf op1 name1 n1 pos1 a1 kids1.len cap1)) b3
      replace e1 := cell_below (below_box wr (boxOf op1 name1 n1 pos1 a1 kids1.len cap1)) e1
      clear b0 b1 b2 b4 c0 c1 c2 c3 c4
      go_region_held3 (fun wz => wz.cell? ⟨w.heap.size, 0, none⟩ = some (.map (some M)) ∧ wz.cell? ⟨w.heap.size, 1, none⟩ = some (.map (some N)) ∧ wz.cell? ⟨w.heap.size + 1, 3, none⟩ = some (.int .i64 pos) ∧ wz.cell? ⟨db, dO + k * 3 + 1, none⟩ = some (.int .i64 od) ∧ wz.cell? ⟨wr.heap.size, 0, none⟩ = some (.string op1) ∧ wz.cell? ⟨wr.heap.size, 1, none⟩ = some (.string name1) ∧ wz.cell? ⟨wr.heap.size, 2, none⟩ = some (.int .i64 n1) ∧ wz.cell? ⟨wr.heap.size, 3, none⟩ = some (.int .i64 pos1) ∧ wz.cell? ⟨wr.heap.size, 4, none⟩ = some (.slice a1 kids1.len cap1)) (go_keep) (first | (go_at_call 94; refine HCL.out.mono ?_; rintro e w3 ⟨rfl, hb3⟩; replace k0 := cell_below (HBE.out.trans (hb3.mono HBE.out.size)) k0; replace k1 := cell_below (HBE.out.trans (hb3.mono HBE.out.size)) k1; replace b3 := cell_below (HBE.out.trans (hb3.mono HBE.out.size)) b3; replace e1 := cell_below (HBE.out.trans (hb3.mono HBE.out.size)) e1; replace x0 := cell_below (HBE.out.trans (hb3.mono HBE.out.size)) x0; replace x1 := cell_below (HBE.out.trans (hb3.mono HBE.out.size)) x1; replace x2 := cell_below (HBE.out.trans (hb3.mono HBE.out.size)) x2; replace x3 := cell_below (HBE.out.trans (hb3.mono HBE.out.size)) x3; replace x4 := cell_below (HBE.out.trans (hb3.mono HBE.out.size)) x4; have HB3 := Lib.hid (HBD.out.trans (hb3.mono HBD.out.size)); clear hb3))
      have hbx2 := hbx.trans (HB3.out.mono hbx.size)
      by_cases he : qe = 0
      ·have HA2 := Lib.hid (show q0 = callK O pos rest (ds.drop (k + 1)) from by rw [HALq.out, HGO.out he])
       have HX2 := Lib.hid ((HB3.out.block _ (lt_heap HX.out)).trans HX.out)
       have HY2 := Lib.hid ((HB3.out.block _ (lt_heap HY.out)).trans HY.out)
       have HN2 := Lib.hid (HN1.out.below HB3.out)
       have HO2 := Lib.hid (HOR.out.below HB3.out)
       clear HB3 HN1 HX HY HCL HBD HBE k0 k1 b3 e1 x0 x1 x2 x3 x4 HALq HGO HSTOP HOR
       subst he
       go_wp2_with fail
       go_roundw
       case rel => exact ⟨k + 1, rest, by go_num, HN2, HA2, HK2, HR2, HX2, HY2, hbx2, HO2⟩
       case measure => (try simp [intOf]); omega
      ·have hz : q0 = (qp, qe) := by rw [HALq.out, HSTOP.out he]
       have heb : (qe != 0) = true := by simp [he]
       subst hz
       clear HB3 HN1 HX HY HCL HBD HBE k0 k1 b3 e1 x0 x1 x2 x3 x4 HALq HGO HSTOP HOR he
       go_wp2_with fail
       go_ret2
       exact ⟨rfl, hbx2⟩
  ·rw [if_neg hlen] at hq1
   have hlb : ((kids.len : Int) != (ds.length : Int)) = true := by simp; omega
   subst hq1
   clear hlen hdin
   go_enter Tryz.func85, Tryz.ntmps85
   go_wp2_with (at_lookup; refine wpList_lookup_smap _ rfl _ _ 79 rfl 9 22 Tryz.underlying9 Tryz.underlying79 (zeroDcs _) N mp f rfl HM.out name rfl hsz1 ?_; rw [HN.out])
   go_wp2_with fail
   go_ret2
   exact ⟨rfl, HW.out⟩
end Go.Proofs.YtmpcmpeloebnhaaGreatDoor
namespace Go.Proofs.YtmpcmpeloebnhaaGreatDoor
open Go.RowKit
open Go.Maps
structure Cl (w w' : World) : Prop where
 cell : ∀ p v, w.cell? p = some v → w'.cell? p = some v
 frz : ∀ b o v, w.cell? ⟨b, o, none⟩ = some v → w'.frozen? ⟨b, o, none⟩ = w.frozen? ⟨b, o, none⟩
theorem Cl.trans {a b c : World} (h : Cl a b) (k : Cl b c) : Cl a c := ⟨fun p v g => k.cell p v (h.cell p v g), fun x o v g => (k.frz x o v (h.cell _ v g)).trans (h.frz x o v g)⟩
theorem Cl.of_below {w w' : World} (hb : Below w.heap.size w w') : Cl w w' := ⟨fun _ _ h => cell_below hb h, fun _ _ _ h => hb.frozen (lt_of_cell h)⟩
theorem Cl.of_kp {w w' : World} {M : Nat} {es : Array MapEntry} {c : Nat} (hM : w.heap[M]? = some (.map es c)) (h : Kp M w w') : Cl w w' := by
 have hs : ∀ p v, w.cell? p = some v → w'.heap[p.block]? = w.heap[p.block]? := by
  intro p v hc
  refine h.block p.block (lt_of_cell hc) (fun e => ?_)
  have e1 := Option.some.inj e
  unfold World.cell? at hc
  rw [e1, hM] at hc
  cases hc
 refine ⟨fun p v hc => ?_, fun b o v hc => ?_⟩
 ·have h1 := hs p v hc
  unfold World.cell? at hc ⊢
  rw [h1]
  exact hc
 ·have h1 := hs ⟨b, o, none⟩ v hc
  unfold World.frozen?
  simp only [] at h1
  rw [h1]
theorem NodeAt.cl {w w' : World} (hb : Cl w w') {b o : Nat} {op name : ByteArray} {n pos : Int} {a : Option Addr} {k cap : Nat} (h : NodeAt w b o op name n pos a k cap) : NodeAt w' b o op name n pos a k cap :=
 ⟨hb.cell _ _ h.1, hb.cell _ _ h.2.1, hb.cell _ _ h.2.2.1, hb.cell _ _ h.2.2.2.1, hb.cell _ _ h.2.2.2.2⟩
theorem Fo.In.frz {w w' : World} (hb : Cl w w') {F : Fo} {b o : Nat} (h : F.In w b o) (h0 : 0 < F.len) : w'.frozen? ⟨b, o, none⟩ = w.frozen? ⟨b, o, none⟩ := by
 cases F with
 | nil => cases h0
 | cons op name n pos a cap kids rest => exact hb.frz b o _ h.1.1
theorem Fo.In.cl {w w' : World} (hb : Cl w w') : ∀ {F : Fo} {b o : Nat}, F.In w b o → F.In w' b o := by
 intro F
 induction F with
 | nil => intro b o _; trivial
 | cons op name n pos a cap kids rest ihk ihr =>
  intro b o h
  obtain ⟨h1, h2, h3⟩ := h
  refine ⟨h1.cl hb, ?_, ihr h3⟩
  rcases h2 with h2 | ⟨b', o', h2, hl, ⟨h0, hf⟩, h4⟩
  ·exact .inl h2
  ·exact .inr ⟨b', o', h2, hl, ⟨h0, by rw [h4.frz hb h0]; exact hf⟩, ihk h4⟩
theorem Nd.In.cl {w w' : World} (hb : Cl w w') {T : Nd} (h : T.In w) : T.In w' := by
 rcases h with h | ⟨b, o, h, hl, ⟨h0, hf⟩, h2⟩
 ·exact .inl h
 ·exact .inr ⟨b, o, h, hl, ⟨h0, by rw [h2.frz hb h0]; exact hf⟩, h2.cl hb⟩
theorem Tail.cl {w w' : World} (hb : Cl w w') {P : Nd → Prop} {F R : Fo} {b o k : Nat} (h : Tail w P F R b o k) : Tail w' P F R b o k := ⟨h.lies.cl hb, h.all, h.len⟩
theorem DcsIn.cl {w w' : World} (hb : Cl w w') {a : Option Addr} {l : List Dc} (h : DcsIn w a l) : DcsIn w' a l := by
 rcases h with h | ⟨b, o, h1, h2, h3, h4⟩
 ·exact .inl h
 ·exact .inr ⟨b, o, h1, h2, fun i d hd => ⟨hb.cell _ _ (h3 i d hd).1, hb.cell _ _ (h3 i d hd).2.1, hb.cell _ _ (h3 i d hd).2.2⟩, h4⟩
theorem OrdIs.cl {w w' : World} {M n : Nat} {O : ByteArray → Int} (h : OrdIs w M n O) (hk : Kp M w w') : Cl w w' := by
 obtain ⟨f, ⟨D, ⟨es, clock, hb, _⟩, _⟩, _⟩ := h
 exact Cl.of_kp hb hk
theorem PrdIs.kp {w w' : World} {M : Nat} {pv : Value} {Q : ByteArray → Option (List Dc)} (h : PrdIs w M pv Q) (hk : Kp M w w') (hc : Cl w w') : PrdIs w' M pv Q := by
 obtain ⟨N, m, f, h1, h2, h3, h4⟩ := h
 refine ⟨N, m, f, h1, h2, h3.same (hk.block N h3.lt (fun e => h2 (Option.some.inj e))), fun s => ?_⟩
 rcases h4 s with h | ⟨a, cap, ds, g1, g2, g3⟩
 ·exact .inl h
 ·exact .inr ⟨a, cap, ds, g1, g2, g3.cl hc⟩
def SayFk (T : Nd) : Prop := ∀ (w : World) (M m : Nat) (pv : Value) (O : ByteArray → Int) (Q : ByteArray → Option (List Dc)), OrdIs w M m O → PrdIs w M pv Q → T.In w → T.sized → T.okF = true → m + 2 * T.size ≤ 1000000000 →
 Calls Tryz.prog 48 #[scV M pv, T.val] w fun e w' => e = .returned (.tuple #[.int .i64 (T.fk Q O).1, .int .i64 (T.fk Q O).2]) ∧ Kp M w w' ∧ ∃ m', m' ≤ m + 2 * T.size ∧ OrdIs w' M m' O
theorem OrdIs.upd {w' : World} {M m : Nat} {O : ByteArray → Int} {f : ByteArray → Option Value} (hO : ∀ s, (f s = none ∧ O s = -1) ∨ f s = some (.int .i64 (O s))) (name : ByteArray) (k : Int) (h : SMap Tryz.prog 9 w' M m (fun u => if u = name then some (.int .i64 k) else f u)) : OrdIs w' M m (updO O name k) := by
 refine ⟨_, h, fun s => ?_⟩
 by_cases hs : s = name
 ·right
  simp [updO, hs]
 ·rcases hO s with ⟨h1, h2⟩ | h1
  ·left
   simp [updO, hs, h1, h2]
  ·right
   simp [updO, hs, h1]
theorem updO_back (O : ByteArray → Int) (name : ByteArray) (k : Int) : updO (updO O name k) name (O name) = O := by
 funext s
 unfold updO
 by_cases hs : s = name
 ·simp [hs]
 ·simp [hs]
set_option maxRecDepth 100000 in
set_option maxHeartbeats 16000000 in
theorem kquant_of (op name : ByteArray) (n pos : Int) (kb ko len cap : Nat) (op1 name1 : ByteArray) (n1 pos1 : Int) (a1 : Option Addr) (l1 cap1 : Nat) (w : World) (M m mx : Nat) (pv : Value) (O : ByteArray → Int) (ho : OrdIs w M m O) (hs : name.size ≤ 140737488351232) (hl : 0 < len) (hm : m ≤ 1000000000) (hmx : mx ≤ 1000000000) (hn : NodeAt w kb ko op1 name1 n1 pos1 a1 l1 cap1) (q1 q2 : Int)
  (hc : ∀ W, OrdIs W M (m + 1) (updO O name n) → Kp M w W → Cl w W → Calls Tryz.prog 48 #[scV M pv, .agg #[.string op1, .string name1, .int .i64 n1, .int .i64 pos1, .slice a1 l1 cap1]] W fun e w' => e = .returned (.tuple #[.int .i64 q1, .int .i64 q2]) ∧ Kp M W w' ∧ ∃ m', m' ≤ mx ∧ OrdIs w' M m' (updO O name n)) :
  Calls Tryz.prog 82 #[scV M pv, .agg #[.string op, .string name, .int .i64 n, .int .i64 pos, .slice (some ⟨kb, ko, none⟩) len cap]] w fun e w' => e = .returned (.tuple #[.int .i64 q1, .int .i64 q2]) ∧ Kp M w w' ∧ ∃ m', m' ≤ mx + 1 ∧ OrdIs w' M m' O := by
 have hc2 := cellsScope
 have hc5 := cellsNode
 have hl2 : (0 : Int) < len := by omega
 have hsz : name.size ≤ maxLen := by unfold maxLen; omega
 have HW := Lib.hid (two_boxes w (scBox M pv) (boxOf op name n pos (some ⟨kb, ko, none⟩) len cap))
 have hx : w.heap.size < (w.alloc (scBox M pv)).heap.size := by simp
 have HS := Lib.hid ((Below.heap_alloc (w.alloc (scBox M pv)) (boxOf op name n pos (some ⟨kb, ko, none⟩) len cap) _ hx).trans (new_at w (scBox M pv)))
 have HB := Lib.hid (show ((w.alloc (scBox M pv)).alloc (boxOf op name n pos (some ⟨kb, ko, none⟩) len cap)).heap[w.heap.size + 1]? = some (boxOf op name n pos (some ⟨kb, ko, none⟩) len cap) from by have h := new_at (w.alloc (scBox M pv)) (boxOf op name n pos (some ⟨kb, ko, none⟩) len cap); rw [alloc_size] at h; exact h)
 obtain ⟨k0, k1⟩ := sc_cells HS.out
 obtain ⟨b0, b1, b2, b3, b4⟩ := box_cells HB.out
 obtain ⟨c0, c1, c2, c3, c4⟩ := hn.below HW.out
 have HC := Lib.hid (korder_any M m pv O name _ (ho.below HW.out) hs)
 have HQ := Lib.hid hc
 have hMs := ho.lt
 have HO := Lib.hid ho
 clear ho hs hc hn HS HB
 go_enter Tryz.func82, Tryz.ntmps82
 go_wp2_with fail
 refine HC.out.mono ?_
 rintro e w2 ⟨rfl, hb2⟩
 have HB2 := Lib.hid (HW.out.trans (hb2.mono HW.out.size))
 have HR := Lib.hid (fun p v (h : ((w.alloc (scBox M pv)).alloc (boxOf op name n pos (some ⟨kb, ko, none⟩) len cap)).cell? p = some v) => cell_below hb2 h)
 replace k0 := HR.out _ _ k0
 replace k1 := HR.out _ _ k1
 replace b1 := HR.out _ _ b1
 replace b2 := HR.out _ _ b2
 replace b4 := HR.out _ _ b4
 replace c0 := HR.out _ _ c0
 replace c1 := HR.out _ _ c1
 replace c2 := HR.out _ _ c2
 replace c3 := HR.out _ _ c3
 replace c4 := HR.out _ _ c4
 have ho2 := HO.out.below HB2.out
 obtain ⟨f2, hsm2, hf2⟩ := ho2
 have HSM := Lib.hid hsm2
 have HF2 := Lib.hid hf2
 have hOc : OrdIs w2 M m O := ⟨f2, hsm2, hf2⟩
 have HOC := Lib.hid hOc
 clear hb2 HC HW HR b0 b3 hsm2 hf2 hOc
 go_wp2_with (at_mapUpdate; refine wpList_update_smap _ rfl _ _ _ 81 rfl 9 3 Tryz.underlying9 Tryz.underlying81 M m f2 rfl HSM.out (by unfold maxLen; omega) name (.int .i64 n) rfl rfl hsz ?_; intro w3 hm3 hg3 hz3)
 have hcl := HOC.out.cl hg3
 have HKP := Lib.hid ((Kp.of_below (B := M) HB2.out).trans hg3)
 have HCL := Lib.hid ((Cl.of_below HB2.out).trans hcl)
 have HO3 := Lib.hid (OrdIs.upd HF2.out name n hm3)
 replace k0 := hcl.cell _ _ k0
 replace k1 := hcl.cell _ _ k1
 replace b1 := hcl.cell _ _ b1
 replace b4 := hcl.cell _ _ b4
 replace c0 := hcl.cell _ _ c0
 replace c1 := hcl.cell _ _ c1
 replace c2 := hcl.cell _ _ c2
 replace c3 := hcl.cell _ _ c3
 replace c4 := hcl.cell _ _ c4
 clear hm3 hg3 hz3 hcl b2 HSM HF2 HOC HB2
 have HC3 := Lib.hid (HQ.out w3.drew HO3.out.drew HKP.out.drew (HCL.out.trans (Cl.of_below (Below.refl _ _).drew)))
 have HCW := Lib.hid (fun w4 (h : Kp M w3.drew w4) => (Cl.of_below (Below.refl w3.heap.size w3).drew).trans (OrdIs.cl HO3.out.drew h))
 have HKW := Lib.hid (fun w4 (h : Kp M w3.drew w4) => kp_drew h)
 go_wp2_with fail
 go_region_held3 (fun wz => wz.cell? ⟨w.heap.size, 0, none⟩ = some (.map (some M)) ∧ wz.cell? ⟨w.heap.size, 1, none⟩ = some (pv) ∧ wz.cell? ⟨w.heap.size + 1, 1, none⟩ = some (.string name) ∧ wz.cell? ⟨w.heap.size + 1, 4, none⟩ = some (.slice (some ⟨kb, ko, none⟩) len cap) ∧ wz.cell? ⟨kb, ko, none⟩ = some (.string op1) ∧ wz.cell? ⟨kb, ko + 1, none⟩ = some (.string name1) ∧ wz.cell? ⟨kb, ko + 2, none⟩ = some (.int .i64 n1) ∧ wz.cell? ⟨kb, ko + 3, none⟩ = some (.int .i64 pos1) ∧ wz.cell? ⟨kb, ko + 4, none⟩ = some (.slice a1 l1 cap1)) (go_keep) (first | (go_at_call 48; refine HC3.out.mono ?_; rintro e w4 ⟨rfl, hk4, m4, hm4, ho4⟩; replace k0 := (HCW.out w4 hk4).cell _ _ k0; replace k1 := (HCW.out w4 hk4).cell _ _ k1; replace b1 := (HCW.out w4 hk4).cell _ _ b1; replace b4 := (HCW.out w4 hk4).cell _ _ b4; replace c0 := (HCW.out w4 hk4).cell _ _ c0; replace c1 := (HCW.out w4 hk4).cell _ _ c1; replace c2 := (HCW.out w4 hk4).cell _ _ c2; replace c3 := (HCW.out w4 hk4).cell _ _ c3; replace c4 := (HCW.out w4 hk4).cell _ _ c4; have HK4 := Lib.hid (HKW.out w4 hk4); have HO4 := Lib.hid ho4; clear hk4 ho4))
 have HKF := Lib.hid (HKP.out.trans HK4.out)
 clear HC3 HCW HKW HKP HK4 HCL HO3 HQ c0 c1 c2 c3 c4 k1 b4
 obtain ⟨f4, hsm4, hf4⟩ := HO4.out
 have HSM4 := Lib.hid hsm4
 have HF4 := Lib.hid hf4
 clear hsm4 hf4
 go_wp2_with (at_mapUpdate; refine wpList_update_smap _ rfl _ _ _ 81 rfl 9 3 Tryz.underlying9 Tryz.underlying81 M m4 f4 rfl HSM4.out (by unfold maxLen; omega) name (.int .i64 (O name)) rfl rfl hsz ?_; intro w5 hm5 hg5 hz5)
 have HO5 := Lib.hid (OrdIs.upd HF4.out name (O name) hm5)
 have HK5 := Lib.hid (HKF.out.trans hg5)
 clear hm5 hg5 hz5 HSM4 HF4 HO4 HKF
 go_wp2_with fail
 go_ret2
 exact ⟨rfl, HK5.out, m4 + 1, by omega, by have h := HO5.out; rw [updO_back] at h; exact h⟩
end Go.Proofs.YtmpcmpeloebnhaaGreatDoor
namespace Go.Proofs.YtmpcmpeloebnhaaGreatDoor
open Go.RowKit
open Go.Maps
set_option maxRecDepth 100000 in
set_option maxHeartbeats 8000000 in
theorem kform_ex (op name : ByteArray) (n pos : Int) (a : Option Addr) (cap : Nat) (kids : Fo) (w : World) (M : Nat) (pv : Value) (P : World → Prop) (h0 : (op.toList == [101, 120]) = true) (q1 q2 : Int) (hc : ∀ W, Below w.heap.size w W → Calls Tryz.prog 82 #[scV M pv, .agg #[.string op, .string name, .int .i64 n, .int .i64 pos, .slice a kids.len cap]] W fun e w' => e = .returned (.tuple #[.int .i64 q1, .int .i64 q2]) ∧ P w') :
  Calls Tryz.prog 48 #[scV M pv, .agg #[.string op, .string name, .int .i64 n, .int .i64 pos, .slice a kids.len cap]] w fun e w' => e = .returned (.tuple #[.int .i64 q1, .int .i64 q2]) ∧ P w' := by
 have hc2 := cellsScope
 have hc5 := cellsNode
 have hx : w.heap.size < (w.alloc (scBox M pv)).heap.size := by simp
 have HW := two_boxes w (scBox M pv) (boxOf op name n pos a kids.len cap)
 have HS := (Below.heap_alloc (w.alloc (scBox M pv)) (boxOf op name n pos a kids.len cap) _ hx).trans (new_at w (scBox M pv))
 have HB := (show ((w.alloc (scBox M pv)).alloc (boxOf op name n pos a kids.len cap)).heap[w.heap.size + 1]? = some (boxOf op name n pos a kids.len cap) from by have h := new_at (w.alloc (scBox M pv)) (boxOf op name n pos a kids.len cap); rw [alloc_size] at h; exact h)
 obtain ⟨k0, k1⟩ := sc_cells HS
 obtain ⟨b0, b1, b2, b3, b4⟩ := box_cells HB
 have HC := Lib.hid (hc _ HW)
 clear hc HW HS HB
 go_enter Tryz.func48, Tryz.ntmps48
 go_wp2_with fail
 refine HC.out.mono ?_
 rintro e w2 ⟨rfl, hp⟩
 have HP := Lib.hid hp
 clear hp HC k0 k1 b0 b1 b2 b3 b4
 go_wp2_with fail
 go_ret2
 exact ⟨rfl, HP.out⟩
set_option maxRecDepth 100000 in
set_option maxHeartbeats 8000000 in
theorem kform_all (op name : ByteArray) (n pos : Int) (a : Option Addr) (cap : Nat) (kids : Fo) (w : World) (M : Nat) (pv : Value) (P : World → Prop) (h0 : (op.toList == [101, 120]) = false) (h1 : (op.toList == [97, 108, 108]) = true) (q1 q2 : Int) (hc : ∀ W, Below w.heap.size w W → Calls Tryz.prog 82 #[scV M pv, .agg #[.string op, .string name, .int .i64 n, .int .i64 pos, .slice a kids.len cap]] W fun e w' => e = .returned (.tuple #[.int .i64 q1, .int .i64 q2]) ∧ P w') :
  Calls Tryz.prog 48 #[scV M pv, .agg #[.string op, .string name, .int .i64 n, .int .i64 pos, .slice a kids.len cap]] w fun e w' => e = .returned (.tuple #[.int .i64 q1, .int .i64 q2]) ∧ P w' := by
 have hc2 := cellsScope
 have hc5 := cellsNode
 have hx : w.heap.size < (w.alloc (scBox M pv)).heap.size := by simp
 have HW := two_boxes w (scBox M pv) (boxOf op name n pos a kids.len cap)
 have HS := (Below.heap_alloc (w.alloc (scBox M pv)) (boxOf op name n pos a kids.len cap) _ hx).trans (new_at w (scBox M pv))
 have HB := (show ((w.alloc (scBox M pv)).alloc (boxOf op name n pos a kids.len cap)).heap[w.heap.size + 1]? = some (boxOf op name n pos a kids.len cap) from by have h := new_at (w.alloc (scBox M pv)) (boxOf op name n pos a kids.len cap); rw [alloc_size] at h; exact h)
 obtain ⟨k0, k1⟩ := sc_cells HS
 obtain ⟨b0, b1, b2, b3, b4⟩ := box_cells HB
 have HC := Lib.hid (hc _ HW)
 clear hc HW HS HB
 go_enter Tryz.func48, Tryz.ntmps48
 go_wp2_with fail
 refine HC.out.mono ?_
 rintro e w2 ⟨rfl, hp⟩
 have HP := Lib.hid hp
 clear hp HC k0 k1 b0 b1 b2 b3 b4
 go_wp2_with fail
 go_ret2
 exact ⟨rfl, HP.out⟩
set_option maxRecDepth 100000 in
set_option maxHeartbeats 8000000 in
theorem kform_is (op name : ByteArray) (n pos : Int) (a : Option Addr) (cap : Nat) (kids : Fo) (w : World) (M : Nat) (pv : Value) (P : World → Prop) (h0 : (op.toList == [101, 120]) = false) (h1 : (op.toList == [97, 108, 108]) = false) (h2 : (op.toList == [105, 115]) = true) (q1 q2 : Int) (hc : ∀ W, Below w.heap.size w W → Calls Tryz.prog 83 #[scV M pv, .agg #[.string op, .string name, .int .i64 n, .int .i64 pos, .slice a kids.len cap]] W fun e w' => e = .returned (.tuple #[.int .i64 q1, .int .i64 q2]) ∧ P w') :
  Calls Tryz.prog 48 #[scV M pv, .agg #[.string op, .string name, .int .i64 n, .int .i64 pos, .slice a kids.len cap]] w fun e w' => e = .returned (.tuple #[.int .i64 q1, .int .i64 q2]) ∧ P w' := by
 have hc2 := cellsScope
 have hc5 := cellsNode
 have hx : w.heap.size < (w.alloc (scBox M pv)).heap.size := by simp
 have HW := two_boxes w (scBox M pv) (boxOf op name n pos a kids.len cap)
 have HS := (Below.heap_alloc (w.alloc (scBox M pv)) (boxOf op name n pos a kids.len cap) _ hx).trans (new_at w (scBox M pv))
 have HB := (show ((w.alloc (scBox M pv)).alloc (boxOf op name n pos a kids.len cap)).heap[w.heap.size + 1]? = some (boxOf op name n pos a kids.len cap) from by have h := new_at (w.alloc (scBox M pv)) (boxOf op name n pos a kids.len cap); rw [alloc_size] at h; exact h)
 obtain ⟨k0, k1⟩ := sc_cells HS
 obtain ⟨b0, b1, b2, b3, b4⟩ := box_cells HB
 have HC := Lib.hid (hc _ HW)
 clear hc HW HS HB
 go_enter Tryz.func48, Tryz.ntmps48
 go_wp2_with fail
 refine HC.out.mono ?_
 rintro e w2 ⟨rfl, hp⟩
 have HP := Lib.hid hp
 clear hp HC k0 k1 b0 b1 b2 b3 b4
 go_wp2_with fail
 go_ret2
 exact ⟨rfl, HP.out⟩
set_option maxRecDepth 100000 in
set_option maxHeartbeats 8000000 in
theorem kform_eq (op name : ByteArray) (n pos : Int) (a : Option Addr) (cap : Nat) (kids : Fo) (w : World) (M : Nat) (pv : Value) (P : World → Prop) (h0 : (op.toList == [101, 120]) = false) (h1 : (op.toList == [97, 108, 108]) = false) (h2 : (op.toList == [105, 115]) = false) (h3 : (op.toList == [101, 113]) = true) (q1 q2 : Int) (hc : ∀ W, Below w.heap.size w W → Calls Tryz.prog 84 #[scV M pv, .agg #[.string op, .string name, .int .i64 n, .int .i64 pos, .slice a kids.len cap]] W fun e w' => e = .returned (.tuple #[.int .i64 q1, .int .i64 q2]) ∧ P w') :
  Calls Tryz.prog 48 #[scV M pv, .agg #[.string op, .string name, .int .i64 n, .int .i64 pos, .slice a kids.len cap]] w fun e w' => e = .returned (.tuple #[.int .i64 q1, .int .i64 q2]) ∧ P w' := by
 have hc2 := cellsScope
 have hc5 := cellsNode
 have hx : w.heap.size < (w.alloc (scBox M pv)).heap.size := by simp
 have HW := two_boxes w (scBox M pv) (boxOf op name n pos a kids.len cap)
 have HS := (Below.heap_alloc (w.alloc (scBox M pv)) (boxOf op name n pos a kids.len cap) _ hx).trans (new_at w (scBox M pv))
 have HB := (show ((w.alloc (scBox M pv)).alloc (boxOf op name n pos a kids.len cap)).heap[w.heap.size + 1]? = some (boxOf op name n pos a kids.len cap) from by have h := new_at (w.alloc (scBox M pv)) (boxOf op name n pos a kids.len cap); rw [alloc_size] at h; exact h)
 obtain ⟨k0, k1⟩ := sc_cells HS
 obtain ⟨b0, b1, b2, b3, b4⟩ := box_cells HB
 have HC := Lib.hid (hc _ HW)
 clear hc HW HS HB
 go_enter Tryz.func48, Tryz.ntmps48
 go_wp2_with fail
 refine HC.out.mono ?_
 rintro e w2 ⟨rfl, hp⟩
 have HP := Lib.hid hp
 clear hp HC k0 k1 b0 b1 b2 b3 b4
 go_wp2_with fail
 go_ret2
 exact ⟨rfl, HP.out⟩
set_option maxRecDepth 100000 in
set_option maxHeartbeats 8000000 in
theorem kform_ne (op name : ByteArray) (n pos : Int) (a : Option Addr) (cap : Nat) (kids : Fo) (w : World) (M : Nat) (pv : Value) (P : World → Prop) (h0 : (op.toList == [101, 120]) = false) (h1 : (op.toList == [97, 108, 108]) = false) (h2 : (op.toList == [105, 115]) = false) (h3 : (op.toList == [101, 113]) = false) (h4 : (op.toList == [110, 101]) = true) (q1 q2 : Int) (hc : ∀ W, Below w.heap.size w W → Calls Tryz.prog 84 #[scV M pv, .agg #[.string op, .string name, .int .i64 n, .int .i64 pos, .slice a kids.len cap]] W fun e w' => e = .returned (.tuple #[.int .i64 q1, .int .i64 q2]) ∧ P w') :
  Calls Tryz.prog 48 #[scV M pv, .agg #[.string op, .string name, .int .i64 n, .int .i64 pos, .slice a kids.len cap]] w fun e w' => e = .returned (.tuple #[.int .i64 q1, .int .i64 q2]) ∧ P w' := by
 have hc2 := cellsScope
 have hc5 := cellsNode
 have hx : w.heap.size < (w.alloc (scBox M pv)).heap.size := by simp
 have HW := two_boxes w (scBox M pv) (boxOf op name n pos a kids.len cap)
 have HS := (Below.heap_alloc (w.alloc (scBox M pv)) (boxOf op name n pos a kids.len cap) _ hx).trans (new_at w (scBox M pv))
 have HB := (show ((w.alloc (scBox M pv)).alloc (boxOf op name n pos a kids.len cap)).heap[w.heap.size + 1]? = some (boxOf op name n pos a kids.len cap) from by have h := new_at (w.alloc (scBox M pv)) (boxOf op name n pos a kids.len cap); rw [alloc_size] at h; exact h)
 obtain ⟨k0, k1⟩ := sc_cells HS
 obtain ⟨b0, b1, b2, b3, b4⟩ := box_cells HB
 have HC := Lib.hid (hc _ HW)
 clear hc HW HS HB
 go_enter Tryz.func48, Tryz.ntmps48
 go_wp2_with fail
 refine HC.out.mono ?_
 rintro e w2 ⟨rfl, hp⟩
 have HP := Lib.hid hp
 clear hp HC k0 k1 b0 b1 b2 b3 b4
 go_wp2_with fail
 go_ret2
 exact ⟨rfl, HP.out⟩
set_option maxRecDepth 100000 in
set_option maxHeartbeats 8000000 in
theorem kform_lt (op name : ByteArray) (n pos : Int) (a : Option Addr) (cap : Nat) (kids : Fo) (w : World) (M : Nat) (pv : Value) (P : World → Prop) (h0 : (op.toList == [101, 120]) = false) (h1 : (op.toList == [97, 108, 108]) = false) (h2 : (op.toList == [105, 115]) = false) (h3 : (op.toList == [101, 113]) = false) (h4 : (op.toList == [110, 101]) = false) (h5 : (op.toList == [108, 116]) = true) (q1 q2 : Int) (hc : ∀ W, Below w.heap.size w W → Calls Tryz.prog 84 #[scV M pv, .agg #[.string op, .string name, .int .i64 n, .int .i64 pos, .slice a kids.len cap]] W fun e w' => e = .returned (.tuple #[.int .i64 q1, .int .i64 q2]) ∧ P w') :
  Calls Tryz.prog 48 #[scV M pv, .agg #[.string op, .string name, .int .i64 n, .int .i64 pos, .slice a kids.len cap]] w fun e w' => e = .returned (.tuple #[.int .i64 q1, .int .i64 q2]) ∧ P w' := by
 have hc2 := cellsScope
 have hc5 := cellsNode
 have hx : w.heap.size < (w.alloc (scBox M pv)).heap.size := by simp
 have HW := two_boxes w (scBox M pv) (boxOf op name n pos a kids.len cap)
 have HS := (Below.heap_alloc (w.alloc (scBox M pv)) (boxOf op name n pos a kids.len cap) _ hx).trans (new_at w (scBox M pv))
 have HB := (show ((w.alloc (scBox M pv)).alloc (boxOf op name n pos a kids.len cap)).heap[w.heap.size + 1]? = some (boxOf op name n pos a kids.len cap) from by have h := new_at (w.alloc (scBox M pv)) (boxOf op name n pos a kids.len cap); rw [alloc_size] at h; exact h)
 obtain ⟨k0, k1⟩ := sc_cells HS
 obtain ⟨b0, b1, b2, b3, b4⟩ := box_cells HB
 have HC := Lib.hid (hc _ HW)
 clear hc HW HS HB
 go_enter Tryz.func48, Tryz.ntmps48
 go_wp2_with fail
 refine HC.out.mono ?_
 rintro e w2 ⟨rfl, hp⟩
 have HP := Lib.hid hp
 clear hp HC k0 k1 b0 b1 b2 b3 b4
 go_wp2_with fail
 go_ret2
 exact ⟨rfl, HP.out⟩
set_option maxRecDepth 100000 in
set_option maxHeartbeats 8000000 in
theorem kform_le (op name : ByteArray) (n pos : Int) (a : Option Addr) (cap : Nat) (kids : Fo) (w : World) (M : Nat) (pv : Value) (P : World → Prop) (h0 : (op.toList == [101, 120]) = false) (h1 : (op.toList == [97, 108, 108]) = false) (h2 : (op.toList == [105, 115]) = false) (h3 : (op.toList == [101, 113]) = false) (h4 : (op.toList == [110, 101]) = false) (h5 : (op.toList == [108, 116]) = false) (h6 : (op.toList == [108, 101]) = true) (q1 q2 : Int) (hc : ∀ W, Below w.heap.size w W → Calls Tryz.prog 84 #[scV M pv, .agg #[.string op, .string name, .int .i64 n, .int .i64 pos, .slice a kids.len cap]] W fun e w' => e = .returned (.tuple #[.int .i64 q1, .int .i64 q2]) ∧ P w') :
  Calls Tryz.prog 48 #[scV M pv, .agg #[.string op, .string name, .int .i64 n, .int .i64 pos, .slice a kids.len cap]] w fun e w' => e = .returned (.tuple #[.int .i64 q1, .int .i64 q2]) ∧ P w' := by
 have hc2 := cellsScope
 have hc5 := cellsNode
 have hx : w.heap.size < (w.alloc (scBox M pv)).heap.size := by simp
 have HW := two_boxes w (scBox M pv) (boxOf op name n pos a kids.len cap)
 have HS := (Below.heap_alloc (w.alloc (scBox M pv)) (boxOf op name n pos a kids.len cap) _ hx).trans (new_at w (scBox M pv))
 have HB := (show ((w.alloc (scBox M pv)).alloc (boxOf op name n pos a kids.len cap)).heap[w.heap.size + 1]? = some (boxOf op name n pos a kids.len cap) from by have h := new_at (w.alloc (scBox M pv)) (boxOf op name n pos a kids.len cap); rw [alloc_size] at h; exact h)
 obtain ⟨k0, k1⟩ := sc_cells HS
 obtain ⟨b0, b1, b2, b3, b4⟩ := box_cells HB
 have HC := Lib.hid (hc _ HW)
 clear hc HW HS HB
 go_enter Tryz.func48, Tryz.ntmps48
 go_wp2_with fail
 refine HC.out.mono ?_
 rintro e w2 ⟨rfl, hp⟩
 have HP := Lib.hid hp
 clear hp HC k0 k1 b0 b1 b2 b3 b4
 go_wp2_with fail
 go_ret2
 exact ⟨rfl, HP.out⟩
set_option maxRecDepth 100000 in
set_option maxHeartbeats 8000000 in
theorem kform_in (op name : ByteArray) (n pos : Int) (a : Option Addr) (cap : Nat) (kids : Fo) (w : World) (M : Nat) (pv : Value) (P : World → Prop) (h0 : (op.toList == [101, 120]) = false) (h1 : (op.toList == [97, 108, 108]) = false) (h2 : (op.toList == [105, 115]) = false) (h3 : (op.toList == [101, 113]) = false) (h4 : (op.toList == [110, 101]) = false) (h5 : (op.toList == [108, 116]) = false) (h6 : (op.toList == [108, 101]) = false) (h7 : (op.toList == [105, 110]) = true) (q1 q2 : Int) (hc : ∀ W, Below w.heap.size w W → Calls Tryz.prog 84 #[scV M pv, .agg #[.string op, .string name, .int .i64 n, .int .i64 pos, .slice a kids.len cap]] W fun e w' => e = .returned (.tuple #[.int .i64 q1, .int .i64 q2]) ∧ P w') :
  Calls Tryz.prog 48 #[scV M pv, .agg #[.string op, .string name, .int .i64 n, .int .i64 pos, .slice a kids.len cap]] w fun e w' => e = .returned (.tuple #[.int .i64 q1, .int .i64 q2]) ∧ P w' := by
 have hc2 := cellsScope
 have hc5 := cellsNode
 have hx : w.heap.size < (w.alloc (scBox M pv)).heap.size := by simp
 have HW := two_boxes w (scBox M pv) (boxOf op name n pos a kids.len cap)
 have HS := (Below.heap_alloc (w.alloc (scBox M pv)) (boxOf op name n pos a kids.len cap) _ hx).trans (new_at w (scBox M pv))
 have HB := (show ((w.alloc (scBox M pv)).alloc (boxOf op name n pos a kids.len cap)).heap[w.heap.size + 1]? = some (boxOf op name n pos a kids.len cap) from by have h := new_at (w.alloc (scBox M pv)) (boxOf op name n pos a kids.len cap); rw [alloc_size] at h; exact h)
 obtain ⟨k0, k1⟩ := sc_cells HS
 obtain ⟨b0, b1, b2, b3, b4⟩ := box_cells HB
 have HC := Lib.hid (hc _ HW)
 clear hc HW HS HB
 go_enter Tryz.func48, Tryz.ntmps48
 go_wp2_with fail
 refine HC.out.mono ?_
 rintro e w2 ⟨rfl, hp⟩
 have HP := Lib.hid hp
 clear hp HC k0 k1 b0 b1 b2 b3 b4
 go_wp2_with fail
 go_ret2
 exact ⟨rfl, HP.out⟩
set_option maxRecDepth 100000 in
set_option maxHeartbeats 8000000 in
theorem kform_notin (op name : ByteArray) (n pos : Int) (a : Option Addr) (cap : Nat) (kids : Fo) (w : World) (M : Nat) (pv : Value) (P : World → Prop) (h0 : (op.toList == [101, 120]) = false) (h1 : (op.toList == [97, 108, 108]) = false) (h2 : (op.toList == [105, 115]) = false) (h3 : (op.toList == [101, 113]) = false) (h4 : (op.toList == [110, 101]) = false) (h5 : (op.toList == [108, 116]) = false) (h6 : (op.toList == [108, 101]) = false) (h7 : (op.toList == [105, 110]) = false) (h8 : (op.toList == [110, 111, 116, 105, 110]) = true) (q1 q2 : Int) (hc : ∀ W, Below w.heap.size w W → Calls Tryz.prog 84 #[scV M pv, .agg #[.string op, .string name, .int .i64 n, .int .i64 pos, .slice a kids.len cap]] W fun e w' => e = .returned (.tuple #[.int .i64 q1, .int .i64 q2]) ∧ P w') :
  Calls Tryz.prog 48 #[scV M pv, .agg #[.string op, .string name, .int .i64 n, .int .i64 pos, .slice a kids.len cap]] w fun e w' => e = .returned (.tuple #[.int .i64 q1, .int .i64 q2]) ∧ P w' := by
 have hc2 := cellsScope
 have hc5 := cellsNode
 have hx : w.heap.size < (w.alloc (scBox M pv)).heap.size := by simp
 have HW := two_boxes w (scBox M pv) (boxOf op name n pos a kids.len cap)
 have HS := (Below.heap_alloc (w.alloc (scBox M pv)) (boxOf op name n pos a kids.len cap) _ hx).trans (new_at w (scBox M pv))
 have HB := (show ((w.alloc (scBox M pv)).alloc (boxOf op name n pos a kids.len cap)).heap[w.heap.size + 1]? = some (boxOf op name n pos a kids.len cap) from by have h := new_at (w.alloc (scBox M pv)) (boxOf op name n pos a kids.len cap); rw [alloc_size] at h; exact h)
 obtain ⟨k0, k1⟩ := sc_cells HS
 obtain ⟨b0, b1, b2, b3, b4⟩ := box_cells HB
 have HC := Lib.hid (hc _ HW)
 clear hc HW HS HB
 go_enter Tryz.func48, Tryz.ntmps48
 go_wp2_with fail
 refine HC.out.mono ?_
 rintro e w2 ⟨rfl, hp⟩
 have HP := Lib.hid hp
 clear hp HC k0 k1 b0 b1 b2 b3 b4
 go_wp2_with fail
 go_ret2
 exact ⟨rfl, HP.out⟩
set_option maxRecDepth 100000 in
set_option maxHeartbeats 8000000 in
theorem kform_sub (op name : ByteArray) (n pos : Int) (a : Option Addr) (cap : Nat) (kids : Fo) (w : World) (M : Nat) (pv : Value) (P : World → Prop) (h0 : (op.toList == [101, 120]) = false) (h1 : (op.toList == [97, 108, 108]) = false) (h2 : (op.toList == [105, 115]) = false) (h3 : (op.toList == [101, 113]) = false) (h4 : (op.toList == [110, 101]) = false) (h5 : (op.toList == [108, 116]) = false) (h6 : (op.toList == [108, 101]) = false) (h7 : (op.toList == [105, 110]) = false) (h8 : (op.toList == [110, 111, 116, 105, 110]) = false) (h9 : (op.toList == [115, 117, 98]) = true) (q1 q2 : Int) (hc : ∀ W, Below w.heap.size w W → Calls Tryz.prog 84 #[scV M pv, .agg #[.string op, .string name, .int .i64 n, .int .i64 pos, .slice a kids.len cap]] W fun e w' => e = .returned (.tuple #[.int .i64 q1, .int .i64 q2]) ∧ P w') :
  Calls Tryz.prog 48 #[scV M pv, .agg #[.string op, .string name, .int .i64 n, .int .i64 pos, .slice a kids.len cap]] w fun e w' => e = .returned (.tuple #[.int .i64 q1, .int .i64 q2]) ∧ P w' := by
 have hc2 := cellsScope
 have hc5 := cellsNode
 have hx : w.heap.size < (w.alloc (scBox M pv)).heap.size := by simp
 have HW := two_boxes w (scBox M pv) (boxOf op name n pos a kids.len cap)
 have HS := (Below.heap_alloc (w.alloc (scBox M pv)) (boxOf op name n pos a kids.len cap) _ hx).trans (new_at w (scBox M pv))
 have HB := (show ((w.alloc (scBox M pv)).alloc (boxOf op name n pos a kids.len cap)).heap[w.heap.size + 1]? = some (boxOf op name n pos a kids.len cap) from by have h := new_at (w.alloc (scBox M pv)) (boxOf op name n pos a kids.len cap); rw [alloc_size] at h; exact h)
 obtain ⟨k0, k1⟩ := sc_cells HS
 obtain ⟨b0, b1, b2, b3, b4⟩ := box_cells HB
 have HC := Lib.hid (hc _ HW)
 clear hc HW HS HB
 go_enter Tryz.func48, Tryz.ntmps48
 go_wp2_with fail
 refine HC.out.mono ?_
 rintro e w2 ⟨rfl, hp⟩
 have HP := Lib.hid hp
 clear hp HC k0 k1 b0 b1 b2 b3 b4
 go_wp2_with fail
 go_ret2
 exact ⟨rfl, HP.out⟩
set_option maxRecDepth 100000 in
set_option maxHeartbeats 8000000 in
theorem kform_call (op name : ByteArray) (n pos : Int) (a : Option Addr) (cap : Nat) (kids : Fo) (w : World) (M : Nat) (pv : Value) (P : World → Prop) (h0 : (op.toList == [101, 120]) = false) (h1 : (op.toList == [97, 108, 108]) = false) (h2 : (op.toList == [105, 115]) = false) (h3 : (op.toList == [101, 113]) = false) (h4 : (op.toList == [110, 101]) = false) (h5 : (op.toList == [108, 116]) = false) (h6 : (op.toList == [108, 101]) = false) (h7 : (op.toList == [105, 110]) = false) (h8 : (op.toList == [110, 111, 116, 105, 110]) = false) (h9 : (op.toList == [115, 117, 98]) = false) (h10 : (op.toList == [99, 97, 108, 108]) = true) (q1 q2 : Int) (hc : ∀ W, Below w.heap.size w W → Calls Tryz.prog 85 #[scV M pv, .agg #[.string op, .string name, .int .i64 n, .int .i64 pos, .slice a kids.len cap]] W fun e w' => e = .returned (.tuple #[.int .i64 q1, .int .i64 q2]) ∧ P w') :
  Calls Tryz.prog 48 #[scV M pv, .agg #[.string op, .string name, .int .i64 n, .int .i64 pos, .slice a kids.len cap]] w fun e w' => e = .returned (.tuple #[.int .i64 q1, .int .i64 q2]) ∧ P w' := by
 have hc2 := cellsScope
 have hc5 := cellsNode
 have hx : w.heap.size < (w.alloc (scBox M pv)).heap.size := by simp
 have HW := two_boxes w (scBox M pv) (boxOf op name n pos a kids.len cap)
 have HS := (Below.heap_alloc (w.alloc (scBox M pv)) (boxOf op name n pos a kids.len cap) _ hx).trans (new_at w (scBox M pv))
 have HB := (show ((w.alloc (scBox M pv)).alloc (boxOf op name n pos a kids.len cap)).heap[w.heap.size + 1]? = some (boxOf op name n pos a kids.len cap) from by have h := new_at (w.alloc (scBox M pv)) (boxOf op name n pos a kids.len cap); rw [alloc_size] at h; exact h)
 obtain ⟨k0, k1⟩ := sc_cells HS
 obtain ⟨b0, b1, b2, b3, b4⟩ := box_cells HB
 have HC := Lib.hid (hc _ HW)
 clear hc HW HS HB
 go_enter Tryz.func48, Tryz.ntmps48
 go_wp2_with fail
 refine HC.out.mono ?_
 rintro e w2 ⟨rfl, hp⟩
 have HP := Lib.hid hp
 clear hp HC k0 k1 b0 b1 b2 b3 b4
 go_wp2_with fail
 go_ret2
 exact ⟨rfl, HP.out⟩
set_option maxRecDepth 100000 in
set_option maxHeartbeats 16000000 in
theorem kform_kids (op name : ByteArray) (n pos : Int) (a : Option Addr) (cap : Nat) (kids : Fo) (w : World) (M m : Nat) (pv : Value) (O : ByteArray → Int) (Q : ByteArray → Option (List Dc)) (ho : OrdIs w M m O) (hp : PrdIs w M pv Q) (hin : KidsIn w a kids) (hsz : kids.sized) (hok : kids.allB Nd.okF = true) (hk : Fo.All SayFk kids) (hm : m + 2 * kids.size ≤ 1000000000) (h0 : (op.toList == [101, 120]) = false) (h1 : (op.toList == [97, 108, 108]) = false) (h2 : (op.toList == [105, 115]) = false) (h3 : (op.toList == [101, 113]) = false) (h4 : (op.toList == [110, 101]) = false) (h5 : (op.toList == [108, 116]) = false) (h6 : (op.toList == [108, 101]) = false) (h7 : (op.toList == [105, 110]) = false) (h8 : (op.toList == [110, 111, 116, 105, 110]) = false) (h9 : (op.toList == [115, 117, 98]) = false) (h10 : (op.toList == [99, 97, 108, 108]) = false) :
  Calls Tryz.prog 48 #[scV M pv, .agg #[.string op, .string name, .int .i64 n, .int .i64 pos, .slice a kids.len cap]] w fun e w' => e = .returned (.tuple #[.int .i64 (kids.fs Q O).1, .int .i64 (kids.fs Q O).2]) ∧ Kp M w w' ∧ ∃ m', m' ≤ m + 2 * kids.size ∧ OrdIs w' M m' O := by
 have hc2 := cellsScope
 have hc5 := cellsNode
 obtain ⟨q0, hq0⟩ : ∃ q0, q0 = kids.fs Q O := ⟨_, rfl⟩
 rw [← hq0]
 have hMs := ho.lt
 have hx : w.heap.size < (w.alloc (scBox M pv)).heap.size := by simp
 have HW := Lib.hid (two_boxes w (scBox M pv) (boxOf op name n pos a kids.len cap))
 have HS := Lib.hid ((Below.heap_alloc (w.alloc (scBox M pv)) (boxOf op name n pos a kids.len cap) _ hx).trans (new_at w (scBox M pv)))
 have HB := (show ((w.alloc (scBox M pv)).alloc (boxOf op name n pos a kids.len cap)).heap[w.heap.size + 1]? = some (boxOf op name n pos a kids.len cap) from by have h := new_at (w.alloc (scBox M pv)) (boxOf op name n pos a kids.len cap); rw [alloc_size] at h; exact h)
 obtain ⟨b0, b1, b2, b3, b4⟩ := box_cells HB
 have HO := Lib.hid ho
 have HO0 := Lib.hid (ho.below HW.out)
 have HP := Lib.hid hp
 have HSZ := Lib.hid hsz
 have HOK := Lib.hid hok
 have HQ := Lib.hid hq0
 have HKW := Lib.hid (Kp.of_below (B := M) HW.out)
 clear ho hp hsz hok hq0 HB
 rcases hin with hnil | ⟨kb, ko, hab, hlim, hpos, hkin⟩
 ·subst hnil
  have hz0 : ((Fo.nil.len : Nat) : Int) = 0 := rfl
  have hz : q0 = (0, 0) := HQ.out
  subst hz
  go_enter Tryz.func48, Tryz.ntmps48
  go_wp2_with fail
  go_loopw [50] (fun i wr => i = .int .i64 0 ∧ RowKit.Hid (Kp M w wr) ∧ RowKit.Hid (OrdIs wr M m O)) (fun _ _ => 0)
  case atStart => exact ⟨rfl, HKW, HO0⟩
  case round =>
   obtain ⟨rfl, HK, HOR⟩ := hrel
   go_wp2_with fail
   go_ret2
   exact ⟨rfl, HK.out, m, by omega, HOR.out⟩
 ·subst hab
  have HST := Lib.hid (Tail.start (hkin.below HW.out) hk)
  clear hkin hpos hk
  go_enter Tryz.func48, Tryz.ntmps48
  go_wp2_with fail
  go_loopw [50] (fun i wr => ∃ (k : Nat) (R : Fo) (mk : Nat), i = .int .i64 k ∧ RowKit.Hid (Tail wr SayFk kids R kb ko k) ∧ RowKit.Hid (q0 = R.fs Q O) ∧ RowKit.Hid (R.allB Nd.okF = true) ∧ RowKit.Hid R.sized ∧ RowKit.Hid (wr.heap[w.heap.size]? = some (scBox M pv)) ∧ RowKit.Hid (Kp M w wr) ∧ RowKit.Hid (OrdIs wr M mk O) ∧ mk + 2 * R.size ≤ m + 2 * kids.size) (fun i _ => kids.len - (intOf i).toNat)
  case atStart => exact ⟨0, kids, m, rfl, HST, HQ, HOK, HSZ, HS, HKW, HO0, by omega⟩
  case round =>
   obtain ⟨k, R, mk, rfl, HTL, HAL, HKO, HRS, HX, HKP, HOR, hmk⟩ := hrel
   clear HST HQ HS HO0 HKW b0 b1 b2 b3 b4
   obtain ⟨s0, s1⟩ := sc_cells HX.out
   cases R with
   | nil =>
    have hkl : k = kids.len := by have := HTL.out.len; simpa [Fo.len] using this
    subst hkl
    have hz : q0 = (0, 0) := HAL.out
    subst hz
    have hmk2 : mk ≤ m + 2 * kids.size := by omega
    go_wp2_with fail
    go_ret2
    exact ⟨rfl, HKP.out, mk, hmk2, HOR.out⟩
   | cons op1 name1 n1 pos1 a1 cap1 kids1 rest =>
    obtain ⟨hnode, hin1, hP, hkl, hnext⟩ := HTL.out.next
    have hkl2 : (k : Int) < kids.len := by omega
    obtain ⟨c0, c1, c2, c3, c4⟩ := hnode
    have HN1 := Lib.hid hnext
    have hsz1 : Fo.size (.cons op1 name1 n1 pos1 a1 cap1 kids1 rest) = kids1.size + 1 + rest.size := rfl
    have hsz2 : Nd.size ⟨op1, name1, n1, pos1, a1, cap1, kids1⟩ = kids1.size + 1 := rfl
    have hok2 : (Nd.okF ⟨op1, name1, n1, pos1, a1, cap1, kids1⟩ && rest.allB Nd.okF) = true := HKO.out
    rw [Bool.and_eq_true] at hok2
    have hcall := hP (wr.alloc (boxOf op1 name1 n1 pos1 a1 kids1.len cap1)) M mk pv O Q (HOR.out.below (below_box _ _)) ((HP.out.kp HKP.out (HO.out.cl HKP.out)).below (below_box _ _)) (hin1.below (below_box _ _)) ⟨HRS.out.1, HRS.out.2.1⟩ hok2.1 (by omega)
    rw [Nd.val_def] at hcall
    have hal : q0 = (if (Nd.fk Q O ⟨op1, name1, n1, pos1, a1, cap1, kids1⟩).2 = 0 then rest.fs Q O else Nd.fk Q O ⟨op1, name1, n1, pos1, a1, cap1, kids1⟩) := HAL.out
    generalize Nd.fk Q O ⟨op1, name1, n1, pos1, a1, cap1, kids1⟩ = q at hcall hal
    obtain ⟨qp, qe⟩ := q
    simp only [] at hcall hal
    have HCL := Lib.hid hcall
    have HR2 := Lib.hid HRS.out.2.2
    have HK2 := Lib.hid hok2.2
    have hBB := new_at wr (boxOf op1 name1 n1 pos1 a1 kids1.len cap1)
    obtain ⟨x0, x1, x2, x3, x4⟩ := box_cells hBB
    have hxs := lt_heap HX.out
    have hMr := HOR.out.lt
    obtain ⟨r0, r1⟩ := sc_cells ((Below.heap_alloc wr (boxOf op1 name1 n1 pos1 a1 kids1.len cap1) _ hxs).trans HX.out)
    have HCLB := Lib.hid (fun w3 (h : Kp M (wr.alloc (boxOf op1 name1 n1 pos1 a1 kids1.len cap1)) w3) => (Cl.of_below (below_box wr (boxOf op1 name1 n1 pos1 a1 kids1.len cap1))).trans (OrdIs.cl (HOR.out.below (below_box _ _)) h))
    clear hnext hin1 hP hcall HTL hok2 hBB HAL
    have hsum : mk + 2 * (kids1.size + 1) + 2 * rest.size ≤ m + 2 * kids.size := by omega
    by_cases he : qe = 0
    ·have HA2 := Lib.hid (show q0 = rest.fs Q O from by rw [hal, if_pos he])
     clear hal
     subst he
     go_wp2_with fail
     refine HCL.out.mono ?_
     rintro e w3 ⟨rfl, hk3, m3, hm3, ho3⟩
     have HKP2 := Lib.hid (((HKP.out.alloc (boxOf op1 name1 n1 pos1 a1 kids1.len cap1))).trans hk3)
     have HX2 := Lib.hid (hk3.blk ((Below.heap_alloc wr (boxOf op1 name1 n1 pos1 a1 kids1.len cap1) _ hxs).trans HX.out) (by omega))
     have HN2 := Lib.hid (HN1.out.cl (HCLB.out w3 hk3))
     have HO2 := Lib.hid ho3
     clear hk3 ho3 HN1 HX HCL HKP HOR HCLB x0 x1 x2 x3 x4 c0 c1 c2 c3 c4 s0 s1 r0 r1
     go_wp2_with fail
     go_roundw
     case rel => exact ⟨k + 1, rest, m3, by go_num, HN2, HA2, HK2, HR2, HX2, HKP2, HO2, by omega⟩
     case measure => (try simp [intOf]); omega
    ·have hz : q0 = (qp, qe) := by rw [hal, if_neg he]
     have heb : (qe != 0) = true := by simp [he]
     clear hal he
     subst hz
     go_wp2_with fail
     refine HCL.out.mono ?_
     rintro e w3 ⟨rfl, hk3, m3, hm3, ho3⟩
     have HKP2 := Lib.hid (((HKP.out.alloc (boxOf op1 name1 n1 pos1 a1 kids1.len cap1))).trans hk3)
     have HO2 := Lib.hid ho3
     clear hk3 ho3 HN1 HX HCL HKP HOR HCLB x0 x1 x2 x3 x4 c0 c1 c2 c3 c4 s0 s1 r0 r1
     go_wp2_with fail
     go_ret2
     exact ⟨rfl, HKP2.out, m3, by omega, HO2.out⟩
end Go.Proofs.YtmpcmpeloebnhaaGreatDoor
namespace Go.Proofs.YtmpcmpeloebnhaaGreatDoor
open Go.RowKit
open Go.Maps
theorem okF_parts {T : Nd} (h : T.okF = true) :
  ((T.op.toList == [101, 120]) = true ∨ (T.op.toList == [97, 108, 108]) = true → T.kids.len = 1 ∧ T.kids.allB Nd.okF = true) ∧
  (opFr T.op = true → T.kids.len = 2 ∧ T.kids.allB Nd.okT = true) ∧
  ((T.op.toList == [99, 97, 108, 108]) = true → T.kids.allB Nd.okT = true) ∧
  ((T.op.toList == [101, 120]) = false → (T.op.toList == [97, 108, 108]) = false → (T.op.toList == [105, 115]) = false → opFr T.op = false → (T.op.toList == [99, 97, 108, 108]) = false → T.kids.allB Nd.okF = true) := by
 have h0 : stepF T.op T.name T.n T.kids.len T.kids.sorts.f T.kids.sorts.t = true := h
 refine ⟨fun hq => ?_, fun hr => ?_, fun hc => ?_, fun n1 n2 n3 n4 n5 => ?_⟩
 ·have h1 : fitB true T.name 0 2 T.n 1 1 T.kids.len T.kids.sorts.f = true := by
   rcases hq with hq | hq <;>
   ·rw [beq_iff_eq] at hq
    unfold stepF opF0 opF2 opFq at h0
    rw [hq] at h0
    simpa using h0
  have h2 := fitB_len h1
  have h3 := h2.2.2
  rw [sorts_f] at h3
  exact ⟨by omega, h3⟩
 ·have h1 : fitB false T.name 0 0 T.n 2 2 T.kids.len T.kids.sorts.t = true := by
   unfold opFr at hr
   simp only [Bool.or_eq_true, beq_iff_eq] at hr
   rcases hr with (((((hr | hr) | hr) | hr) | hr) | hr) | hr <;>
   ·unfold stepF opF0 opF2 opFq opFr at h0
    rw [hr] at h0
    simpa using h0
  have h2 := fitB_len h1
  have h3 := h2.2.2
  rw [sorts_t] at h3
  exact ⟨by omega, h3⟩
 ·have h1 : fitB true T.name 0 0 T.n 0 6 T.kids.len T.kids.sorts.t = true := by
   rw [beq_iff_eq] at hc
   unfold stepF opF0 opF2 opFq opFr at h0
   rw [hc] at h0
   simpa using h0
  have h2 := fitB_len h1
  have h3 := h2.2.2
  rw [sorts_t] at h3
  exact h3
 ·unfold stepF at h0
  split at h0
  ·have h2 := fitB_len h0
   rw [nil_of_len (F := T.kids) (by omega)]
   rfl
  ·split at h0
   ·have h2 := (fitB_len h0).2.2
    rw [sorts_f] at h2
    exact h2
   ·split at h0
    ·have h2 := (fitB_len h0).2.2
     rw [sorts_f] at h2
     exact h2
    ·rw [if_neg (by unfold opFq; rw [n1, n2]; decide), if_neg (by rw [n3]; decide), if_neg (by rw [n4]; decide), if_neg (by rw [n5]; decide)] at h0
     cases h0
theorem kp_keep {w w' : World} {M m : Nat} {O : ByteArray → Int} {b : Nat} (ho : OrdIs w M m O) (h : Below w.heap.size w w') : Kp M w w' ∧ ∃ m', m' ≤ m + b ∧ OrdIs w' M m' O := ⟨Kp.of_below h, m, by omega, ho.below h⟩
theorem fs_one (Q : ByteArray → Option (List Dc)) (op name : ByteArray) (n pos : Int) (a : Option Addr) (cap : Nat) (kids : Fo) (O : ByteArray → Int) : Fo.fs Q (.cons op name n pos a cap kids .nil) O = if (Nd.fk Q O ⟨op, name, n, pos, a, cap, kids⟩).2 = 0 then (0, 0) else Nd.fk Q O ⟨op, name, n, pos, a, cap, kids⟩ := rfl
theorem relK_pos0 (op : ByteArray) (pos : Int) (x y : KR) (h : (relK op pos x y).2 = 0) : relK op pos x y = (0, 0) := by
 revert h
 unfold relK
 repeat' split
 all_goals first | (intro _; rfl) | (intro h; exact absurd h (by first | assumption | simp))
theorem mustK_pos0 {want : Int} {r : KR} {p : Int} {q : Int × Int} (hq : q.2 = 0 → q = (0, 0)) (h : (mustK want r p q).2 = 0) : mustK want r p q = (0, 0) := by
 revert h
 unfold mustK
 split
 ·split
  ·exact hq
  ·intro h; exact absurd h (by simp)
 ·rename_i he
  intro h; exact absurd h he
theorem callK_pos0 (O : ByteArray → Int) (pos : Int) : ∀ (F : Fo) (ds : List Dc), (callK O pos F ds).2 = 0 → callK O pos F ds = (0, 0) := by
 intro F
 induction F with
 | nil => intro ds _; cases ds <;> rfl
 | cons op name n p a cap kids rest ihk ihr =>
  intro ds
  cases ds with
  | nil => intro _; rfl
  | cons d ds =>
   rw [callK_must]
   exact mustK_pos0 (ihr ds)
theorem fk_pos0 (Q : ByteArray → Option (List Dc)) : ∀ F : Fo, (∀ O, (F.fs Q O).2 = 0 → F.fs Q O = (0, 0)) ∧ Fo.All (fun T => ∀ O, (T.fk Q O).2 = 0 → T.fk Q O = (0, 0)) F := by
 intro F
 induction F with
 | nil => exact ⟨fun _ _ => rfl, trivial⟩
 | cons op name n pos a cap kids rest ihk ihr =>
  have h1 : ∀ O, (Nd.fk Q O ⟨op, name, n, pos, a, cap, kids⟩).2 = 0 → Nd.fk Q O ⟨op, name, n, pos, a, cap, kids⟩ = (0, 0) := by
   intro O
   unfold Nd.fk stepFK
   split
   ·exact ihk.1 _
   ·split
    ·split
     ·intro h; exact absurd h (by simp)
     ·split
      ·intro _; rfl
      ·intro h; exact absurd h (by simp)
    ·split
     ·exact relK_pos0 _ _ _ _
     ·split
      ·split
       ·intro h; exact absurd h (by simp)
       ·split
        ·exact callK_pos0 _ _ _ _
        ·intro h; exact absurd h (by simp)
      ·exact ihk.1 _
  refine ⟨fun O => ?_, h1, ihr.2⟩
  show (if (Nd.fk Q O ⟨op, name, n, pos, a, cap, kids⟩).2 = 0 then rest.fs Q O else Nd.fk Q O ⟨op, name, n, pos, a, cap, kids⟩).2 = 0 → (if (Nd.fk Q O ⟨op, name, n, pos, a, cap, kids⟩).2 = 0 then rest.fs Q O else Nd.fk Q O ⟨op, name, n, pos, a, cap, kids⟩) = (0, 0)
  split
  ·exact ihr.1 O
  ·rename_i he
   intro h; exact absurd h he
theorem kformula_of (T : Nd) (hk : Fo.All SayFk T.kids) : SayFk T := by
 intro w M m pv O Q ho hp hin hsz hok hm
 obtain ⟨hA, hB, hC, hD⟩ := okF_parts hok
 have hts : T.size = T.kids.size + 1 := rfl
 obtain ⟨op, name, n, pos, a, cap, kids⟩ := T
 have hs1 : name.size ≤ 140737488351232 := hsz.1
 have hs2 : kids.sized := hsz.2
 have hkin : KidsIn w a kids := hin
 simp only [] at hA hB hC hD hk hts
 rw [hts] at hm ⊢
 have e1 : ([101, 120] : List UInt8) = [101, 120] := rfl
 rw [Nd.val_def]
 simp only []
 have hquant : (op.toList == [101, 120]) = true ∨ (op.toList == [97, 108, 108]) = true → ∀ W, Below w.heap.size w W → Calls Tryz.prog 82 #[scV M pv, .agg #[.string op, .string name, .int .i64 n, .int .i64 pos, .slice a kids.len cap]] W fun e w' => e = .returned (.tuple #[.int .i64 (Nd.fk Q O ⟨op, name, n, pos, a, cap, kids⟩).1, .int .i64 (Nd.fk Q O ⟨op, name, n, pos, a, cap, kids⟩).2]) ∧ (Kp M w w' ∧ ∃ m', m' ≤ m + 2 * (kids.size + 1) ∧ OrdIs w' M m' O) := by
  intro hq W hW
  obtain ⟨hl, hkf⟩ := hA hq
  have hfk : Nd.fk Q O ⟨op, name, n, pos, a, cap, kids⟩ = kids.fs Q (updO O name n) := by
   unfold Nd.fk stepFK
   rw [if_pos (by rcases hq with h | h <;> simp [h])]
  cases kids with
  | nil => cases hl
  | cons op1 name1 n1 pos1 a1 cap1 kids1 rest =>
   have hl1 : rest.len + 1 = 1 := hl
   have hr : rest = .nil := nil_of_len (by omega)
   subst hr
   rcases hkin with h | ⟨kb, ko, rfl, hlim, hpos, hnode, hin1, hrest⟩
   ·cases h
   ·have hkk : (Nd.okF ⟨op1, name1, n1, pos1, a1, cap1, kids1⟩ && Fo.nil.allB Nd.okF) = true := hkf
    rw [Bool.and_eq_true] at hkk
    have hP : SayFk ⟨op1, name1, n1, pos1, a1, cap1, kids1⟩ := hk.1
    have hin3 : Nd.In w ⟨op1, name1, n1, pos1, a1, cap1, kids1⟩ := hin1
    have hz : Fo.size (.cons op1 name1 n1 pos1 a1 cap1 kids1 .nil) = kids1.size + 1 + 0 := rfl
    have hz2 : Nd.size ⟨op1, name1, n1, pos1, a1, cap1, kids1⟩ = kids1.size + 1 := rfl
    rw [hz] at hm ⊢
    have hfe : Nd.fk Q O ⟨op, name, n, pos, some ⟨kb, ko, none⟩, cap, .cons op1 name1 n1 pos1 a1 cap1 kids1 .nil⟩ = Nd.fk Q (updO O name n) ⟨op1, name1, n1, pos1, a1, cap1, kids1⟩ := by
     rw [hfk, fs_one]
     split
     ·rename_i h0
      exact (((fk_pos0 Q (.cons op1 name1 n1 pos1 a1 cap1 kids1 .nil)).2.1 (updO O name n)) h0).symm
     ·rfl
    have h := kquant_of op name n pos kb ko (Fo.len (.cons op1 name1 n1 pos1 a1 cap1 kids1 .nil)) cap op1 name1 n1 pos1 a1 kids1.len cap1 W M m (m + 1 + 2 * (kids1.size + 1)) pv O (ho.below hW) hs1 (by rw [hl]; omega) (by omega) (by omega) (hnode.below hW) (Nd.fk Q (updO O name n) ⟨op1, name1, n1, pos1, a1, cap1, kids1⟩).1 (Nd.fk Q (updO O name n) ⟨op1, name1, n1, pos1, a1, cap1, kids1⟩).2
     (fun W2 g1 g2 g3 => by
      have hh := hP W2 M (m + 1) pv (updO O name n) Q g1 ((hp.below hW).kp g2 g3) ((hin3.below hW).cl g3) ⟨hs2.1, hs2.2.1⟩ hkk.1 (by rw [hz2]; omega)
      rw [hz2, Nd.val_def] at hh
      exact hh)
    refine h.mono ?_
    rintro e w' ⟨rfl, hk1, m', hm', ho'⟩
    rw [hfe]
    exact ⟨rfl, (Kp.of_below hW).trans hk1, m', by omega, ho'⟩
 have hrel : opFr op = true → (op.toList == [101, 120]) = false → (op.toList == [97, 108, 108]) = false → (op.toList == [105, 115]) = false → ∀ W, Below w.heap.size w W → Calls Tryz.prog 84 #[scV M pv, .agg #[.string op, .string name, .int .i64 n, .int .i64 pos, .slice a kids.len cap]] W fun e w' => e = .returned (.tuple #[.int .i64 (Nd.fk Q O ⟨op, name, n, pos, a, cap, kids⟩).1, .int .i64 (Nd.fk Q O ⟨op, name, n, pos, a, cap, kids⟩).2]) ∧ (Kp M w w' ∧ ∃ m', m' ≤ m + 2 * (kids.size + 1) ∧ OrdIs w' M m' O) := by
  intro hr n0 n1' n2 W hW
  obtain ⟨hl, hkt⟩ := hB hr
  have hfk : Nd.fk Q O ⟨op, name, n, pos, a, cap, kids⟩ = relK op pos (kids.ks O).h (kids.rest.ks O).h := by
   unfold Nd.fk stepFK
   simp only [n0, n1', n2, hr]
   rfl
  cases kids with
  | nil => cases hl
  | cons op1 name1 n1 pos1 a1 cap1 kids1 rest =>
   cases rest with
   | nil => cases hl
   | cons op2 name2 n2 pos2 a2 cap2 kids2 rest2 =>
    rcases hkin with h | ⟨kb, ko, rfl, hlim, hpos, hnode, hin1, hnode2, hin2, hrest⟩
    ·cases h
    ·have hkk : (Nd.okT ⟨op1, name1, n1, pos1, a1, cap1, kids1⟩ && (Nd.okT ⟨op2, name2, n2, pos2, a2, cap2, kids2⟩ && rest2.allB Nd.okT)) = true := hkt
     rw [Bool.and_eq_true, Bool.and_eq_true] at hkk
     have hi1 : Nd.In w ⟨op1, name1, n1, pos1, a1, cap1, kids1⟩ := hin1
     have hi2 : Nd.In w ⟨op2, name2, n2, pos2, a2, cap2, kids2⟩ := hin2
     have h := krel_any op name n pos kb ko (Fo.len (.cons op1 name1 n1 pos1 a1 cap1 kids1 (.cons op2 name2 n2 pos2 a2 cap2 kids2 rest2))) cap W M m pv O (ho.below hW) hl op1 name1 n1 pos1 a1 kids1.len cap1 op2 name2 n2 pos2 a2 kids2.len cap2 (hnode.below hW) (hnode2.below hW) (Nd.kd O ⟨op1, name1, n1, pos1, a1, cap1, kids1⟩) (Nd.kd O ⟨op2, name2, n2, pos2, a2, cap2, kids2⟩)
      (fun W2 g1 g2 => kkind_all ⟨op1, name1, n1, pos1, a1, cap1, kids1⟩ W2 M m pv O g1 ((hi1.below hW).below g2) ⟨hs2.1, hs2.2.1⟩ hkk.1)
      (fun W2 g1 g2 => kkind_all ⟨op2, name2, n2, pos2, a2, cap2, kids2⟩ W2 M m pv O g1 ((hi2.below hW).below g2) ⟨hs2.2.2.1, hs2.2.2.2.1⟩ hkk.2.1)
     refine h.mono ?_
     rintro e w' ⟨rfl, hb⟩
     rw [hfk]
     exact ⟨rfl, kp_keep ho (hW.trans (hb.mono hW.size))⟩
 rcases bool_two (op.toList == [101, 120]) with h0 | h0
 ·exact kform_ex op name n pos a cap kids w M pv _ h0 _ _ (hquant (.inl h0))
 rcases bool_two (op.toList == [97, 108, 108]) with h1 | h1
 ·exact kform_all op name n pos a cap kids w M pv _ h0 h1 _ _ (hquant (.inr h1))
 rcases bool_two (op.toList == [105, 115]) with h2 | h2
 ·refine kform_is op name n pos a cap kids w M pv _ h0 h1 h2 _ _ (fun W hW => ?_)
  have hfk : Nd.fk Q O ⟨op, name, n, pos, a, cap, kids⟩ = (if O name < 0 then (pos, (5 : Int)) else if O name = 0 then (0, 0) else (pos, 7)) := by
   unfold Nd.fk stepFK
   simp only [h0, h1, h2]
   rfl
  rw [hfk]
  refine (kflag_any op name n pos a cap kids W M m pv O (ho.below hW) hs1).mono ?_
  rintro e w' ⟨rfl, hb⟩
  exact ⟨rfl, kp_keep ho (hW.trans (hb.mono hW.size))⟩
 rcases bool_two (op.toList == [101, 113]) with h3 | h3
 ·exact kform_eq op name n pos a cap kids w M pv _ h0 h1 h2 h3 _ _ (hrel (by unfold opFr; simp [h3]) h0 h1 h2)
 rcases bool_two (op.toList == [110, 101]) with h4 | h4
 ·exact kform_ne op name n pos a cap kids w M pv _ h0 h1 h2 h3 h4 _ _ (hrel (by unfold opFr; simp [h4]) h0 h1 h2)
 rcases bool_two (op.toList == [108, 116]) with h5 | h5
 ·exact kform_lt op name n pos a cap kids w M pv _ h0 h1 h2 h3 h4 h5 _ _ (hrel (by unfold opFr; simp [h5]) h0 h1 h2)
 rcases bool_two (op.toList == [108, 101]) with h6 | h6
 ·exact kform_le op name n pos a cap kids w M pv _ h0 h1 h2 h3 h4 h5 h6 _ _ (hrel (by unfold opFr; simp [h6]) h0 h1 h2)
 rcases bool_two (op.toList == [105, 110]) with h7 | h7
 ·exact kform_in op name n pos a cap kids w M pv _ h0 h1 h2 h3 h4 h5 h6 h7 _ _ (hrel (by unfold opFr; simp [h7]) h0 h1 h2)
 rcases bool_two (op.toList == [110, 111, 116, 105, 110]) with h8 | h8
 ·exact kform_notin op name n pos a cap kids w M pv _ h0 h1 h2 h3 h4 h5 h6 h7 h8 _ _ (hrel (by unfold opFr; simp [h8]) h0 h1 h2)
 rcases bool_two (op.toList == [115, 117, 98]) with h9 | h9
 ·exact kform_sub op name n pos a cap kids w M pv _ h0 h1 h2 h3 h4 h5 h6 h7 h8 h9 _ _ (hrel (by unfold opFr; simp [h9]) h0 h1 h2)
 have hnr : opFr op = false := by unfold opFr; rw [h3, h4, h5, h6, h7, h8, h9]; rfl
 rcases bool_two (op.toList == [99, 97, 108, 108]) with h10 | h10
 ·refine kform_call op name n pos a cap kids w M pv _ h0 h1 h2 h3 h4 h5 h6 h7 h8 h9 h10 _ _ (fun W hW => ?_)
  have hfk : Nd.fk Q O ⟨op, name, n, pos, a, cap, kids⟩ = callR O Q name pos kids := by
   unfold Nd.fk stepFK callR
   simp only [h0, h1, h2, hnr, h10]
   rfl
  rw [hfk]
  have hkW : KidsIn W a kids := ((show Nd.In w ⟨op, name, n, pos, a, cap, kids⟩ from hkin).below hW : Nd.In W ⟨op, name, n, pos, a, cap, kids⟩)
  refine (kcall_any op name n pos a cap kids W M m pv O Q (ho.below hW) (hp.below hW) hs1 hkW hs2 (hC h10)).mono ?_
  rintro e w' ⟨rfl, hb⟩
  exact ⟨rfl, kp_keep ho (hW.trans (hb.mono hW.size))⟩
 ·have hfk : Nd.fk Q O ⟨op, name, n, pos, a, cap, kids⟩ = kids.fs Q O := by
   unfold Nd.fk stepFK
   simp only [h0, h1, h2, hnr, h10]
   rfl
  rw [hfk]
  refine (kform_kids op name n pos a cap kids w M m pv O Q ho hp hkin hs2 (hD h0 h1 h2 hnr h10) hk (by omega) h0 h1 h2 h3 h4 h5 h6 h7 h8 h9 h10).mono ?_
  rintro e w' ⟨he, hk1, m', hm', ho'⟩
  exact ⟨he, hk1, m', by omega, ho'⟩
theorem kformula_all (T : Nd) : SayFk T := Nd.all_of (P := SayFk) (fun T hk => kformula_of T hk) T
end Go.Proofs.YtmpcmpeloebnhaaGreatDoor
namespace Go.Proofs.YtmpcmpeloebnhaaGreatDoor
open Go.RowKit
open Go.Maps
def inB (x : ByteArray) (l : List ByteArray) : Bool := l.any fun y => decide (y = x)
def twD : List ByteArray → List Dc → Option Int
 | _, [] => none
 | seen, d :: r => if inB d.name seen = true then some d.pos else twD (seen ++ [d.name]) r
def onceR (l : List Dc) : Int × Int := match twD [] l with | some p => (p, 6) | none => (0, 0)
abbrev dcBox (t : ByteArray) (o p : Int) : Obj := .cells #[.string t, .int .i64 o, .int .i64 p] 109
theorem dc_cells {w : World} {B : Nat} {t : ByteArray} {o p : Int} (h : w.heap[B]? = some (dcBox t o p)) : w.cell? ⟨B, 0, none⟩ = some (.string t) ∧ w.cell? ⟨B, 1, none⟩ = some (.int .i64 o) ∧ w.cell? ⟨B, 2, none⟩ = some (.int .i64 p) := by
 refine ⟨?_, ?_, ?_⟩ <;> (rw [cell_of_row _ _ _ _ _ _ h]; rfl)
theorem zeroUnit (w : World) : (zeroValue 115).run Tryz.prog w = .ok (.agg #[]) w := by kernel_rfl
def seenF (l : List ByteArray) : ByteArray → Option Value := fun s => if inB s l = true then some (.agg #[]) else none
theorem seenF_snoc (l : List ByteArray) (x : ByteArray) (s : ByteArray) : (if s = x then some (.agg #[]) else seenF l s) = seenF (l ++ [x]) s := by
 unfold seenF inB
 rw [List.any_append]
 by_cases hs : s = x
 ·simp [hs]
 ·have h2 : ([x].any fun y => decide (y = s)) = false := by simp; exact fun h => hs h.symm
  rw [if_neg hs, h2, Bool.or_false]
theorem twD_cons (seen : List ByteArray) (d : Dc) (r : List Dc) : twD seen (d :: r) = if inB d.name seen = true then some d.pos else twD (seen ++ [d.name]) r := rfl
set_option maxRecDepth 100000 in
set_option maxHeartbeats 16000000 in
theorem konce_any (l : List Dc) (a : Option Addr) (cap : Nat) (w : World) (hl : l.length ≤ 1000000) (h : DcsIn w a l) :
  Calls Tryz.prog 45 #[.slice a l.length cap] w fun e w' => e = .returned (.tuple #[.int .i64 (onceR l).1, .int .i64 (onceR l).2]) ∧ Below w.heap.size w w' := by
 have hc3 := cellsDecl
 have hmm := @run_makeMap Tryz.prog
 rcases h with rfl | ⟨b, o, rfl, hlim, hat, hsz⟩
 ·show Calls _ _ #[.slice a 0 cap] w fun e w' => e = .returned (.tuple #[.int .i64 0, .int .i64 0]) ∧ _
  go_enter Tryz.func45, Tryz.ntmps45
  go_wp2_with fail
  go_loopw [12] (fun i wr => i = .int .i64 0 ∧ Below w.heap.size w wr) (fun _ _ => 0)
  case atStart => exact ⟨rfl, below_box _ _⟩
  case round =>
   obtain ⟨rfl, hbx⟩ := hrel
   go_wp2_with fail
   go_ret2
   exact ⟨rfl, hbx⟩
 ·have HA := Lib.hid hat
  have HS := Lib.hid hsz
  obtain ⟨q0, hq0⟩ : ∃ q0, q0 = onceR l := ⟨_, rfl⟩
  rw [← hq0]
  have HQ := Lib.hid hq0
  have HM0 := Lib.hid (SMap.made Tryz.prog 9 w)
  clear hat hsz hq0
  go_enter Tryz.func45, Tryz.ntmps45
  go_wp2_with fail
  go_loopw [12] (fun i wr => ∃ k : Nat, i = .int .i64 k ∧ k ≤ l.length ∧ RowKit.Hid (q0 = match twD ((l.take k).map Dc.name) (l.drop k) with | some p => (p, 6) | none => (0, 0)) ∧ Below w.heap.size w wr ∧ RowKit.Hid (SMap Tryz.prog 9 wr w.heap.size k (seenF ((l.take k).map Dc.name)))) (fun i _ => l.length - (intOf i).toNat)
  case atStart => exact ⟨0, rfl, by omega, HQ, below_box _ _, HM0⟩
  case round =>
   obtain ⟨k, rfl, hk, HL, hbx, HM⟩ := hrel
   by_cases hkl : k < l.length
   ·have hkl2 : (k : Int) < l.length := by omega
    have hg := List.getElem?_eq_getElem hkl
    obtain ⟨c0, c1, c2⟩ := (HA.out k (l[k]'hkl) hg).below hbx
    have hns := HS.out (l[k]'hkl) (List.getElem_mem _)
    have hdr : l.drop k = (l[k]'hkl) :: l.drop (k + 1) := List.drop_eq_getElem_cons hkl
    have htk : l.take (k + 1) = l.take k ++ [l[k]'hkl] := by rw [List.take_add_one, hg]; rfl
    clear hg
    generalize (l[k]'hkl) = d at c0 c1 c2 hns hdr htk
    obtain ⟨nm, od, po⟩ := d
    simp only [] at c0 c1 c2 hns
    have hnm : nm.size ≤ maxLen := by unfold maxLen; omega
    have hq : q0 = (match (if inB nm ((l.take k).map Dc.name) = true then some po else twD (((l.take k).map Dc.name) ++ [nm]) (l.drop (k + 1))) with | some p => (p, 6) | none => (0, 0)) := by rw [HL.out, hdr, twD_cons]
    have hmap : (l.take (k + 1)).map Dc.name = (l.take k).map Dc.name ++ [nm] := by rw [htk, List.map_append]; rfl
    have HMA := Lib.hid (HM.out.same (Below.heap_alloc wr (dcBox nm od po) _ HM.out.lt))
    obtain ⟨x0, x1, x2⟩ := dc_cells (new_at wr (dcBox nm od po))
    have hMl := HM.out.lt
    generalize hsn : (l.take k).map Dc.name = seen at HMA hq hmap
    clear hdr htk HL hsn
    rcases bool_two (inB nm seen) with hc | hc
    ·have hz : q0 = (po, 6) := by rw [hq, if_pos hc]
     have HN := Lib.hid (show seenF seen nm = some (.agg #[]) from by unfold seenF; rw [if_pos hc])
     subst hz
     clear hq hc hmap HQ
     go_wp2_with (at_lookup; refine wpList_lookup_smap _ rfl _ _ 114 rfl 9 115 Tryz.underlying9 Tryz.underlying114 (zeroUnit _) w.heap.size k (seenF seen) rfl HMA.out nm rfl hnm ?_; rw [HN.out])
     go_wp2_with fail
     go_ret2
     exact ⟨rfl, (hbx.alloc hbx.size _).alloc (by simp; omega) _⟩
    ·have HL2 := Lib.hid (show q0 = (match twD (seen ++ [nm]) (l.drop (k + 1)) with | some p => (p, 6) | none => (0, 0)) from by rw [hq, if_neg (by rw [hc]; decide)])
     have HN := Lib.hid (show seenF seen nm = none from by unfold seenF; rw [if_neg (by rw [hc]; decide)])
     have HMP := Lib.hid hmap
     have HSF := Lib.hid (seenF_snoc seen nm)
     clear hq hc hmap
     have HMB := Lib.hid (HMA.out.same (Below.heap_alloc _ (.cells #[] 115) _ HMA.out.lt))
     go_wp2_with (first | (at_lookup; refine wpList_lookup_smap _ rfl _ _ 114 rfl 9 115 Tryz.underlying9 Tryz.underlying114 (zeroUnit _) w.heap.size k (seenF seen) rfl HMA.out nm rfl hnm ?_; rw [HN.out]) | (at_mapUpdate; refine wpList_update_smap _ rfl _ _ _ 114 rfl 9 115 Tryz.underlying9 Tryz.underlying114 w.heap.size k (seenF seen) rfl HMB.out (by unfold maxLen; omega) nm (.agg #[]) rfl rfl hnm ?_; intro w9 hm9 hg9 hz9))
     have hbx9 : Below w.heap.size w w9 := ((hbx.alloc hbx.size (dcBox nm od po)).alloc (by simp; omega) (.cells #[] 115)).trans ⟨hg9.os, hg9.tape, hg9.output, hg9.size, fun i hi => hg9.block i (by have := hbx.size; simp; omega) (fun e => by have := Option.some.inj e; omega)⟩
     have HM9 := Lib.hid (hm9.congr HSF.out)
     have HL9 := Lib.hid (HL2.out)
     clear hg9 hm9 hz9 HMA HMB HN HSF c0 c1 c2 x0 x1 x2 HM hbx
     go_wp2_with fail
     go_roundw
     case rel => exact ⟨k + 1, by go_num, by omega, Lib.hid (by rw [HMP.out]; exact HL9.out), hbx9, Lib.hid (by rw [HMP.out]; exact HM9.out)⟩
     case measure => (try simp [intOf]); omega
   ·obtain rfl : k = l.length := by omega
    have hz : q0 = (0, 0) := by rw [HL.out, List.drop_length]; rfl
    subst hz
    go_wp2_with fail
    go_ret2
    exact ⟨rfl, hbx⟩
end Go.Proofs.YtmpcmpeloebnhaaGreatDoor
namespace Go.Proofs.YtmpcmpeloebnhaaGreatDoor
open Go.RowKit
open Go.Maps
theorem infoScope : (Tryz.prog.info? 83).map (·.size) = some 2 := by kernel_rfl
theorem ord_made {w : World} {M n : Nat} (h : SMap Tryz.prog 9 w M n (fun _ => none)) : OrdIs w M n (ordD []) := ⟨_, h, fun _ => .inl ⟨rfl, rfl⟩⟩
theorem sc_set {w : World} {B M : Nat} {v u : Value} (h : w.heap[B]? = some (.cells #[v, u] 83)) (pv : Value) : ((w.setCell ⟨B, 0, none⟩ (.map (some M))).setCell ⟨B, 1, none⟩ pv).heap[B]? = some (scBox M pv) := by
 have h0 := heap_setCell_same w B 0 _ _ (.map (some M)) h
 exact heap_setCell_same _ B 1 _ _ pv h0
set_option maxRecDepth 100000 in
set_option maxHeartbeats 16000000 in
theorem kscope_any (l : List Dc) (a : Option Addr) (cap : Nat) (px : Option Nat) (w : World) (hl : l.length ≤ 1000000) (h : DcsIn w a l) :
  Calls Tryz.prog 47 #[.slice a l.length cap, (.map px)] w fun e w' => ∃ M n, e = .returned (scV M (.map px)) ∧ w.heap.size ≤ M ∧ n ≤ l.length ∧ OrdIs w' M n (ordD l) ∧ Below w.heap.size w w' := by
 have hc2 := cellsScope
 have hc3 := cellsDecl
 have hmm := @run_makeMap Tryz.prog
 have HZ := Lib.hid (new_at w (.cells #[.map none, .map none] 83))
 have HM0 := Lib.hid (SMap.made Tryz.prog 9 (w.alloc (.cells #[.map none, .map none] 83)))
 have hs1 : (w.alloc (.cells #[.map none, .map none] 83)).heap.size = w.heap.size + 1 := alloc_size _ _
 rw [hs1] at HM0
 have hs2 : ((w.alloc (.cells #[.map none, .map none] 83)).alloc (.map #[] 0)).heap.size = w.heap.size + 2 := by rw [alloc_size, hs1]
 have HS0 := Lib.hid (new_at ((w.alloc (.cells #[.map none, .map none] 83)).alloc (.map #[] 0)) (scBox (w.heap.size + 1) (.map px)))
 rw [hs2] at HS0
 have HM1 := Lib.hid (HM0.out.same (Below.heap_alloc ((w.alloc (.cells #[.map none, .map none] 83)).alloc (.map #[] 0)) (scBox (w.heap.size + 1) (.map px)) _ HM0.out.lt))
 have HZ1 := Lib.hid ((Below.heap_alloc ((w.alloc (.cells #[.map none, .map none] 83)).alloc (.map #[] 0)) (scBox (w.heap.size + 1) (.map px)) w.heap.size (by rw [hs2]; omega)).trans ((Below.heap_alloc (w.alloc (.cells #[.map none, .map none] 83)) (.map #[] 0) w.heap.size (by rw [hs1]; omega)).trans HZ.out))
 have HBW := Lib.hid (((below_box w (.cells #[.map none, .map none] 83)).alloc (by rw [hs1]; omega) (.map #[] 0)).alloc (by rw [hs2]; omega) (scBox (w.heap.size + 1) (.map px)))
 clear HZ HM0 hs1 hs2
 rcases h with rfl | ⟨b, o, rfl, hlim, hat, hsz⟩
 ·have hz0 : ((([] : List Dc).length : Nat) : Int) = 0 := rfl
  go_enter Tryz.func47, Tryz.ntmps47
  go_wp2_with fail
  go_loopw [13] (fun i wr => i = .int .i64 0 ∧ RowKit.Hid (OrdIs wr (w.heap.size + 1) 0 (ordD [])) ∧ RowKit.Hid (wr.heap[w.heap.size + 2]? = some (scBox (w.heap.size + 1) (.map px))) ∧ RowKit.Hid (wr.heap[w.heap.size]? = some (.cells #[.map none, .map none] 83)) ∧ Below w.heap.size w wr) (fun _ _ => 0)
  case atStart => exact ⟨rfl, Lib.hid (ord_made HM1.out), HS0, HZ1, HBW.out⟩
  case round =>
   obtain ⟨rfl, HO, HS, HZ, hbx⟩ := hrel
   obtain ⟨k0, k1⟩ := sc_cells HS.out
   have hfz0 : wr.frozen? ⟨w.heap.size, 0, none⟩ = false := by simp [World.frozen?, HZ.out]
   have hfz1 : wr.frozen? ⟨w.heap.size, 1, none⟩ = false := by simp [World.frozen?, HZ.out]
   have z0 : wr.cell? ⟨w.heap.size, 0, none⟩ = some (.map none) := by rw [cell_of_row _ _ _ _ _ _ HZ.out]; rfl
   have z1 : wr.cell? ⟨w.heap.size, 1, none⟩ = some (.map none) := by rw [cell_of_row _ _ _ _ _ _ HZ.out]; rfl
   go_wp2_with fail
   refine bodyPost_ret (results_cell_row Tryz.results47 _ _ w.heap.size _ #[.map (some (w.heap.size + 1)), (.map px)] _ _ rfl (sc_set HZ.out (.map px)) Tryz.underlying83 rfl infoScope) rfl ⟨w.heap.size + 1, 0, rfl, by omega, by simp, ?_, ?_⟩
   ·exact HO.out.same (by rw [Below.heap_setCell _ _ _ _ (by simp), Below.heap_setCell _ _ _ _ (by simp)])
   ·exact (hbx.setCell (Nat.le_refl _) _).setCell (Nat.le_refl _) _
 ·have HA := Lib.hid hat
  have HSI := Lib.hid hsz
  clear hat hsz
  go_enter Tryz.func47, Tryz.ntmps47
  go_wp2_with fail
  go_loopw [13] (fun i wr => ∃ k : Nat, i = .int .i64 k ∧ k ≤ l.length ∧ RowKit.Hid (OrdIs wr (w.heap.size + 1) k (ordD (l.take k))) ∧ RowKit.Hid (wr.heap[w.heap.size + 2]? = some (scBox (w.heap.size + 1) (.map px))) ∧ RowKit.Hid (wr.heap[w.heap.size]? = some (.cells #[.map none, .map none] 83)) ∧ Below w.heap.size w wr) (fun i _ => l.length - (intOf i).toNat)
  case atStart => exact ⟨0, rfl, by omega, Lib.hid (ord_made HM1.out), HS0, HZ1, HBW.out⟩
  case round =>
   obtain ⟨k, rfl, hk, HO, HS, HZ, hbx⟩ := hrel
   obtain ⟨k0, k1⟩ := sc_cells HS.out
   by_cases hkl : k < l.length
   ·have hkl2 : (k : Int) < l.length := by omega
    have hg := List.getElem?_eq_getElem hkl
    obtain ⟨c0, c1, c2⟩ := (HA.out k (l[k]'hkl) hg).below hbx
    have hns := HSI.out (l[k]'hkl) (List.getElem_mem _)
    have htk : l.take (k + 1) = l.take k ++ [l[k]'hkl] := by rw [List.take_add_one, hg]; rfl
    clear hg
    generalize (l[k]'hkl) = d at c0 c1 c2 hns htk
    have hod : ordD (l.take (k + 1)) = updO (ordD (l.take k)) d.name d.order := by rw [htk, ordD_snoc]
    obtain ⟨nm, od, po⟩ := d
    simp only [] at c0 c1 c2 hns hod
    have hnm : nm.size ≤ maxLen := by unfold maxLen; omega
    obtain ⟨f, hsm, hf⟩ := HO.out
    have HMA := Lib.hid (hsm.same (Below.heap_alloc wr (dcBox nm od po) _ hsm.lt))
    have HF := Lib.hid hf
    have HOD := Lib.hid hod
    have hMl := hsm.lt
    have hsl := lt_heap HS.out
    have hzl := lt_heap HZ.out
    obtain ⟨x0, x1, x2⟩ := dc_cells (new_at wr (dcBox nm od po))
    obtain ⟨y0, y1⟩ := sc_cells ((Below.heap_alloc wr (dcBox nm od po) _ hsl).trans HS.out)
    clear hsm hf htk hod HO
    go_wp2_with (at_mapUpdate; refine wpList_update_smap _ rfl _ _ _ 81 rfl 9 3 Tryz.underlying9 Tryz.underlying81 (w.heap.size + 1) k f rfl HMA.out (by unfold maxLen; omega) nm (.int .i64 od) rfl rfl hnm ?_; intro w9 hm9 hg9 hz9)
    have hbx9 : Below w.heap.size w w9 := (hbx.alloc hbx.size (dcBox nm od po)).trans ⟨hg9.os, hg9.tape, hg9.output, hg9.size, fun i hi => hg9.block i (by have := hbx.size; simp; omega) (fun e => by have := Option.some.inj e; omega)⟩
    have HO9 := Lib.hid (OrdIs.upd HF.out nm od hm9)
    have HS9 := Lib.hid ((hg9.block (w.heap.size + 2) (by rw [alloc_size]; omega) (fun e => by have := Option.some.inj e; omega)).trans ((Below.heap_alloc wr (dcBox nm od po) _ hsl).trans HS.out))
    have HZ9 := Lib.hid ((hg9.block w.heap.size (by rw [alloc_size]; omega) (fun e => by have := Option.some.inj e; omega)).trans ((Below.heap_alloc wr (dcBox nm od po) _ hzl).trans HZ.out))
    clear hg9 hm9 hz9 HMA HF c0 c1 c2 x0 x1 x2 y0 y1 HS HZ hbx k0 k1
    go_wp2_with fail
    go_roundw
    case rel => exact ⟨k + 1, by go_num, by omega, Lib.hid (by rw [HOD.out]; exact HO9.out), HS9, HZ9, hbx9⟩
    case measure => (try simp [intOf]); omega
   ·obtain rfl : k = l.length := by omega
    have hfz0 : wr.frozen? ⟨w.heap.size, 0, none⟩ = false := by simp [World.frozen?, HZ.out]
    have hfz1 : wr.frozen? ⟨w.heap.size, 1, none⟩ = false := by simp [World.frozen?, HZ.out]
    have z0 : wr.cell? ⟨w.heap.size, 0, none⟩ = some (.map none) := by rw [cell_of_row _ _ _ _ _ _ HZ.out]; rfl
    have z1 : wr.cell? ⟨w.heap.size, 1, none⟩ = some (.map none) := by rw [cell_of_row _ _ _ _ _ _ HZ.out]; rfl
    go_wp2_with fail
    refine bodyPost_ret (results_cell_row Tryz.results47 _ _ w.heap.size _ #[.map (some (w.heap.size + 1)), (.map px)] _ _ rfl (sc_set HZ.out (.map px)) Tryz.underlying83 rfl infoScope) rfl ⟨w.heap.size + 1, l.length, rfl, by omega, Nat.le_refl _, ?_, ?_⟩
    ·have h := HO.out
     rw [List.take_length] at h
     exact h.same (by rw [Below.heap_setCell _ _ _ _ (by simp), Below.heap_setCell _ _ _ _ (by simp)])
    ·exact (hbx.setCell (Nat.le_refl _) _).setCell (Nat.le_refl _) _
end Go.Proofs.YtmpcmpeloebnhaaGreatDoor
