/- The reference of show: the relations. -/
import Derived.Test.YtamihfgkpilfiaaDoorRtD
import Derived.Test.YtamihfgkpilfiaaDoorLexA
import Derived.Test.YtamihfgkpilfiaaDoorRows
import Derived.WalkKit
import Derived.WalkLawsBesides
import Derived.WalkSpells
import Derived.ProofKit
import Derived.Outline
import Derived.Deep.QuietTactic
import Derived.BigQuiet
import Derived.Deep.Light
import Derived.Deep.CutBlock
import Derived.Deep.DeepCutAuto
import Derived.Deep.DeepFit
import Derived.Deep.LoopGhost
import Derived.Lib.Hide
import Derived.Lib.OthersKept
import Derived.IntWalk
import Derived.StillTailTactics
import Derived.Deep.RegionHeld3
namespace Go.Proofs.YtamihfgkpilfiaaDoor
open Go.RowKit
set_option maxRecDepth 100000 in
set_option maxHeartbeats 8000000 in
theorem rform_eq (pos : Int) (a : Option Addr) (cap : Nat) (x y : Nd) (hx : RTmC x) (hy : RTmC y) (kx : x.okT = true) (ky : y.okT = true) (t : L8) (w : World) (hT : (twoN ⟨#[101, 113]⟩ pos a cap x y).In w) (ht : t = x.tx ++ ([32] ++ opSign ⟨#[101, 113]⟩ ++ [32]) ++ y.tx) (hlen : t.length ≤ 140737488351232) :
    Calls Tryd.prog 11 #[.agg #[.string ⟨#[101, 113]⟩, .string ⟨#[]⟩, .int .i64 0, .int .i64 pos, .slice a 2 cap]] w fun e w' => e = .returned (.string (mkS t)) ∧ Below w.heap.size w w' := by
  obtain ⟨b, o, rfl, hp, hq, hxi, hyi⟩ := in_two hT
  have hbx := below_box w (boxOf ⟨#[101, 113]⟩ ⟨#[]⟩ 0 pos (some ⟨b, o, none⟩) 2 cap)
  have hbd : Below w.heap.size w (w.alloc (boxOf ⟨#[101, 113]⟩ ⟨#[]⟩ 0 pos (some ⟨b, o, none⟩) 2 cap)).drew := hbx.drew
  obtain ⟨p0, p1, p2, p3, p4⟩ := hp.below hbx
  obtain ⟨q0, q1, q2, q3, q4⟩ := hq.below hbx
  simp only [Nat.add_assoc] at q1 q2 q3 q4
  have hlx : x.tx.length ≤ 140737488351232 := by rw [ht] at hlen; simp only [List.length_append] at hlen; omega
  have hly : y.tx.length ≤ 140737488351232 := by rw [ht] at hlen; simp only [List.length_append] at hlen; omega
  have hcx := hx kx (w.alloc (boxOf ⟨#[101, 113]⟩ ⟨#[]⟩ 0 pos (some ⟨b, o, none⟩) 2 cap)).drew (hxi.below hbd) hlx
  have hcy := fun W h => hy ky W h hly
  rw [Nd.val_def] at hcx
  rw [show y.val = _ from Nd.val_def y] at hcy
  have s20 : ¬ (9223372036854775807 < (mkS x.tx).size + 1) := by rw [ht] at hlen; simp only [← sz_len, mkS_list, List.length_append, List.length_cons, List.length_nil] at hlen ⊢; omega
  have s30 : ¬ (9223372036854775807 < (mkS x.tx).size + 1 + (mkS (opSign ⟨#[101, 113]⟩)).size) := by rw [ht] at hlen; simp only [← sz_len, mkS_list, List.length_append, List.length_cons, List.length_nil] at hlen ⊢; omega
  have s40 : ¬ (9223372036854775807 < (mkS x.tx).size + 1 + (mkS (opSign ⟨#[101, 113]⟩)).size + 1) := by rw [ht] at hlen; simp only [← sz_len, mkS_list, List.length_append, List.length_cons, List.length_nil] at hlen ⊢; omega
  have s50 : ¬ (9223372036854775807 < (mkS x.tx).size + 1 + (mkS (opSign ⟨#[101, 113]⟩)).size + 1 + (mkS y.tx).size) := by rw [ht] at hlen; simp only [← sz_len, mkS_list, List.length_append, List.length_cons, List.length_nil] at hlen ⊢; omega
  have HE := Lib.hid (show (((((mkS x.tx : ByteArray) ++ (⟨#[32]⟩ : ByteArray)) ++ (mkS (opSign ⟨#[101, 113]⟩) : ByteArray)) ++ (⟨#[32]⟩ : ByteArray)) ++ (mkS y.tx : ByteArray)) = mkS t from mkS_eq (by rw [ht]; simp only [app_list, mkS_list, List.append_assoc]; try rfl))
  have HX := Lib.hid hcx
  have HYI := Lib.hid hyi
  have HB1 := Lib.hid hbd
  have HBD := Lib.hid hbd
  clear hp hq hcx hxi hyi hT ht hlen hlx hly hx hy hbx hbd
  have hc5 := cellsNode
  go_enter Tryd.func11, Tryd.ntmps11
  go_wp2_with fail
  have e0 : (w.alloc (boxOf ⟨#[101, 113]⟩ ⟨#[]⟩ 0 pos (some ⟨b, o, none⟩) 2 cap)).cell? ⟨w.heap.size, 0, none⟩ = some (.string ⟨#[101, 113]⟩) := (box_cells (new_at _ _)).1
  have e4 : (w.alloc (boxOf ⟨#[101, 113]⟩ ⟨#[]⟩ 0 pos (some ⟨b, o, none⟩) 2 cap)).cell? ⟨w.heap.size, 4, none⟩ = some (.slice (some ⟨b, o, none⟩) 2 cap) := (box_cells (new_at _ _)).2.2.2.2
  go_region_held3 (fun wz => wz.cell? ⟨w.heap.size, 0, none⟩ = some (.string ⟨#[101, 113]⟩) ∧ wz.cell? ⟨w.heap.size, 4, none⟩ = some (.slice (some ⟨b, o, none⟩) 2 cap) ∧ wz.cell? ⟨b, o, none⟩ = some (.string x.op) ∧ wz.cell? ⟨b, o + 1, none⟩ = some (.string x.name) ∧ wz.cell? ⟨b, o + 2, none⟩ = some (.int .i64 x.n) ∧ wz.cell? ⟨b, o + 3, none⟩ = some (.int .i64 x.pos) ∧ wz.cell? ⟨b, o + 4, none⟩ = some (.slice x.a x.kids.len x.cap) ∧ wz.cell? ⟨b, o + 5, none⟩ = some (.string y.op) ∧ wz.cell? ⟨b, o + 6, none⟩ = some (.string y.name) ∧ wz.cell? ⟨b, o + 7, none⟩ = some (.int .i64 y.n) ∧ wz.cell? ⟨b, o + 8, none⟩ = some (.int .i64 y.pos) ∧ wz.cell? ⟨b, o + 9, none⟩ = some (.slice y.a y.kids.len y.cap)) (go_keep) (first | (go_at_call 13; refine HX.out.mono ?_; rintro e w2 ⟨rfl, hb2⟩; replace e0 := cell_below hb2 e0; replace e4 := cell_below hb2 e4; replace p0 := cell_below hb2 p0; replace p1 := cell_below hb2 p1; replace p2 := cell_below hb2 p2; replace p3 := cell_below hb2 p3; replace p4 := cell_below hb2 p4; replace q0 := cell_below hb2 q0; replace q1 := cell_below hb2 q1; replace q2 := cell_below hb2 q2; replace q3 := cell_below hb2 q3; replace q4 := cell_below hb2 q4; have HB2 := Lib.hid (HB1.out.trans (hb2.mono HB1.out.size)); have HG := Lib.hid (rsgn_mk ⟨#[101, 113]⟩ (by simp [opF2, opFr, Lib.toList_data]) w2); have HBE := Lib.hid (HBD.out.trans (hb2.mono HBD.out.size)); clear hb2 HX HB1 HBD) | (go_at_call 29; refine HG.out.mono ?_; rintro e w3 ⟨rfl, hb2⟩; replace e0 := cell_below hb2 e0; replace e4 := cell_below hb2 e4; replace p0 := cell_below hb2 p0; replace p1 := cell_below hb2 p1; replace p2 := cell_below hb2 p2; replace p3 := cell_below hb2 p3; replace p4 := cell_below hb2 p4; replace q0 := cell_below hb2 q0; replace q1 := cell_below hb2 q1; replace q2 := cell_below hb2 q2; replace q3 := cell_below hb2 q3; replace q4 := cell_below hb2 q4; have HB3 := Lib.hid (HB2.out.trans (hb2.mono HB2.out.size)); have HY := Lib.hid (hcy w3 (HYI.out.below (HBE.out.trans (hb2.mono HBE.out.size)))); have HBF := Lib.hid (HBE.out.trans (hb2.mono HBE.out.size)); clear hb2 HG HB2 HBE) | (go_at_call 13; refine HY.out.mono ?_; rintro e w4 ⟨rfl, hb2⟩; replace e0 := cell_below hb2 e0; replace e4 := cell_below hb2 e4; replace p0 := cell_below hb2 p0; replace p1 := cell_below hb2 p1; replace p2 := cell_below hb2 p2; replace p3 := cell_below hb2 p3; replace p4 := cell_below hb2 p4; replace q0 := cell_below hb2 q0; replace q1 := cell_below hb2 q1; replace q2 := cell_below hb2 q2; replace q3 := cell_below hb2 q3; replace q4 := cell_below hb2 q4; have HB4 := Lib.hid (HB3.out.trans (hb2.mono HB3.out.size)); clear hb2 HY HB3))
  all_goals (go_wp2_with fail; go_ret; exact ⟨by rw [← HE.out]; rfl, HB4.out⟩)
set_option maxRecDepth 100000 in
set_option maxHeartbeats 8000000 in
theorem rform_ne (pos : Int) (a : Option Addr) (cap : Nat) (x y : Nd) (hx : RTmC x) (hy : RTmC y) (kx : x.okT = true) (ky : y.okT = true) (t : L8) (w : World) (hT : (twoN ⟨#[110, 101]⟩ pos a cap x y).In w) (ht : t = x.tx ++ ([32] ++ opSign ⟨#[110, 101]⟩ ++ [32]) ++ y.tx) (hlen : t.length ≤ 140737488351232) :
    Calls Tryd.prog 11 #[.agg #[.string ⟨#[110, 101]⟩, .string ⟨#[]⟩, .int .i64 0, .int .i64 pos, .slice a 2 cap]] w fun e w' => e = .returned (.string (mkS t)) ∧ Below w.heap.size w w' := by
  obtain ⟨b, o, rfl, hp, hq, hxi, hyi⟩ := in_two hT
  have hbx := below_box w (boxOf ⟨#[110, 101]⟩ ⟨#[]⟩ 0 pos (some ⟨b, o, none⟩) 2 cap)
  have hbd : Below w.heap.size w (w.alloc (boxOf ⟨#[110, 101]⟩ ⟨#[]⟩ 0 pos (some ⟨b, o, none⟩) 2 cap)).drew := hbx.drew
  obtain ⟨p0, p1, p2, p3, p4⟩ := hp.below hbx
  obtain ⟨q0, q1, q2, q3, q4⟩ := hq.below hbx
  simp only [Nat.add_assoc] at q1 q2 q3 q4
  have hlx : x.tx.length ≤ 140737488351232 := by rw [ht] at hlen; simp only [List.length_append] at hlen; omega
  have hly : y.tx.length ≤ 140737488351232 := by rw [ht] at hlen; simp only [List.length_append] at hlen; omega
  have hcx := hx kx (w.alloc (boxOf ⟨#[110, 101]⟩ ⟨#[]⟩ 0 pos (some ⟨b, o, none⟩) 2 cap)).drew (hxi.below hbd) hlx
  have hcy := fun W h => hy ky W h hly
  rw [Nd.val_def] at hcx
  rw [show y.val = _ from Nd.val_def y] at hcy
  have s20 : ¬ (9223372036854775807 < (mkS x.tx).size + 1) := by rw [ht] at hlen; simp only [← sz_len, mkS_list, List.length_append, List.length_cons, List.length_nil] at hlen ⊢; omega
  have s30 : ¬ (9223372036854775807 < (mkS x.tx).size + 1 + (mkS (opSign ⟨#[110, 101]⟩)).size) := by rw [ht] at hlen; simp only [← sz_len, mkS_list, List.length_append, List.length_cons, List.length_nil] at hlen ⊢; omega
  have s40 : ¬ (9223372036854775807 < (mkS x.tx).size + 1 + (mkS (opSign ⟨#[110, 101]⟩)).size + 1) := by rw [ht] at hlen; simp only [← sz_len, mkS_list, List.length_append, List.length_cons, List.length_nil] at hlen ⊢; omega
  have s50 : ¬ (9223372036854775807 < (mkS x.tx).size + 1 + (mkS (opSign ⟨#[110, 101]⟩)).size + 1 + (mkS y.tx).size) := by rw [ht] at hlen; simp only [← sz_len, mkS_list, List.length_append, List.length_cons, List.length_nil] at hlen ⊢; omega
  have HE := Lib.hid (show (((((mkS x.tx : ByteArray) ++ (⟨#[32]⟩ : ByteArray)) ++ (mkS (opSign ⟨#[110, 101]⟩) : ByteArray)) ++ (⟨#[32]⟩ : ByteArray)) ++ (mkS y.tx : ByteArray)) = mkS t from mkS_eq (by rw [ht]; simp only [app_list, mkS_list, List.append_assoc]; try rfl))
  have HX := Lib.hid hcx
  have HYI := Lib.hid hyi
  have HB1 := Lib.hid hbd
  have HBD := Lib.hid hbd
  clear hp hq hcx hxi hyi hT ht hlen hlx hly hx hy hbx hbd
  have hc5 := cellsNode
  go_enter Tryd.func11, Tryd.ntmps11
  go_wp2_with fail
  have e0 : (w.alloc (boxOf ⟨#[110, 101]⟩ ⟨#[]⟩ 0 pos (some ⟨b, o, none⟩) 2 cap)).cell? ⟨w.heap.size, 0, none⟩ = some (.string ⟨#[110, 101]⟩) := (box_cells (new_at _ _)).1
  have e4 : (w.alloc (boxOf ⟨#[110, 101]⟩ ⟨#[]⟩ 0 pos (some ⟨b, o, none⟩) 2 cap)).cell? ⟨w.heap.size, 4, none⟩ = some (.slice (some ⟨b, o, none⟩) 2 cap) := (box_cells (new_at _ _)).2.2.2.2
  go_region_held3 (fun wz => wz.cell? ⟨w.heap.size, 0, none⟩ = some (.string ⟨#[110, 101]⟩) ∧ wz.cell? ⟨w.heap.size, 4, none⟩ = some (.slice (some ⟨b, o, none⟩) 2 cap) ∧ wz.cell? ⟨b, o, none⟩ = some (.string x.op) ∧ wz.cell? ⟨b, o + 1, none⟩ = some (.string x.name) ∧ wz.cell? ⟨b, o + 2, none⟩ = some (.int .i64 x.n) ∧ wz.cell? ⟨b, o + 3, none⟩ = some (.int .i64 x.pos) ∧ wz.cell? ⟨b, o + 4, none⟩ = some (.slice x.a x.kids.len x.cap) ∧ wz.cell? ⟨b, o + 5, none⟩ = some (.string y.op) ∧ wz.cell? ⟨b, o + 6, none⟩ = some (.string y.name) ∧ wz.cell? ⟨b, o + 7, none⟩ = some (.int .i64 y.n) ∧ wz.cell? ⟨b, o + 8, none⟩ = some (.int .i64 y.pos) ∧ wz.cell? ⟨b, o + 9, none⟩ = some (.slice y.a y.kids.len y.cap)) (go_keep) (first | (go_at_call 13; refine HX.out.mono ?_; rintro e w2 ⟨rfl, hb2⟩; replace e0 := cell_below hb2 e0; replace e4 := cell_below hb2 e4; replace p0 := cell_below hb2 p0; replace p1 := cell_below hb2 p1; replace p2 := cell_below hb2 p2; replace p3 := cell_below hb2 p3; replace p4 := cell_below hb2 p4; replace q0 := cell_below hb2 q0; replace q1 := cell_below hb2 q1; replace q2 := cell_below hb2 q2; replace q3 := cell_below hb2 q3; replace q4 := cell_below hb2 q4; have HB2 := Lib.hid (HB1.out.trans (hb2.mono HB1.out.size)); have HG := Lib.hid (rsgn_mk ⟨#[110, 101]⟩ (by simp [opF2, opFr, Lib.toList_data]) w2); have HBE := Lib.hid (HBD.out.trans (hb2.mono HBD.out.size)); clear hb2 HX HB1 HBD) | (go_at_call 29; refine HG.out.mono ?_; rintro e w3 ⟨rfl, hb2⟩; replace e0 := cell_below hb2 e0; replace e4 := cell_below hb2 e4; replace p0 := cell_below hb2 p0; replace p1 := cell_below hb2 p1; replace p2 := cell_below hb2 p2; replace p3 := cell_below hb2 p3; replace p4 := cell_below hb2 p4; replace q0 := cell_below hb2 q0; replace q1 := cell_below hb2 q1; replace q2 := cell_below hb2 q2; replace q3 := cell_below hb2 q3; replace q4 := cell_below hb2 q4; have HB3 := Lib.hid (HB2.out.trans (hb2.mono HB2.out.size)); have HY := Lib.hid (hcy w3 (HYI.out.below (HBE.out.trans (hb2.mono HBE.out.size)))); have HBF := Lib.hid (HBE.out.trans (hb2.mono HBE.out.size)); clear hb2 HG HB2 HBE) | (go_at_call 13; refine HY.out.mono ?_; rintro e w4 ⟨rfl, hb2⟩; replace e0 := cell_below hb2 e0; replace e4 := cell_below hb2 e4; replace p0 := cell_below hb2 p0; replace p1 := cell_below hb2 p1; replace p2 := cell_below hb2 p2; replace p3 := cell_below hb2 p3; replace p4 := cell_below hb2 p4; replace q0 := cell_below hb2 q0; replace q1 := cell_below hb2 q1; replace q2 := cell_below hb2 q2; replace q3 := cell_below hb2 q3; replace q4 := cell_below hb2 q4; have HB4 := Lib.hid (HB3.out.trans (hb2.mono HB3.out.size)); clear hb2 HY HB3))
  all_goals (go_wp2_with fail; go_ret; exact ⟨by rw [← HE.out]; rfl, HB4.out⟩)
set_option maxRecDepth 100000 in
set_option maxHeartbeats 8000000 in
theorem rform_lt (pos : Int) (a : Option Addr) (cap : Nat) (x y : Nd) (hx : RTmC x) (hy : RTmC y) (kx : x.okT = true) (ky : y.okT = true) (t : L8) (w : World) (hT : (twoN ⟨#[108, 116]⟩ pos a cap x y).In w) (ht : t = x.tx ++ ([32] ++ opSign ⟨#[108, 116]⟩ ++ [32]) ++ y.tx) (hlen : t.length ≤ 140737488351232) :
    Calls Tryd.prog 11 #[.agg #[.string ⟨#[108, 116]⟩, .string ⟨#[]⟩, .int .i64 0, .int .i64 pos, .slice a 2 cap]] w fun e w' => e = .returned (.string (mkS t)) ∧ Below w.heap.size w w' := by
  obtain ⟨b, o, rfl, hp, hq, hxi, hyi⟩ := in_two hT
  have hbx := below_box w (boxOf ⟨#[108, 116]⟩ ⟨#[]⟩ 0 pos (some ⟨b, o, none⟩) 2 cap)
  have hbd : Below w.heap.size w (w.alloc (boxOf ⟨#[108, 116]⟩ ⟨#[]⟩ 0 pos (some ⟨b, o, none⟩) 2 cap)).drew := hbx.drew
  obtain ⟨p0, p1, p2, p3, p4⟩ := hp.below hbx
  obtain ⟨q0, q1, q2, q3, q4⟩ := hq.below hbx
  simp only [Nat.add_assoc] at q1 q2 q3 q4
  have hlx : x.tx.length ≤ 140737488351232 := by rw [ht] at hlen; simp only [List.length_append] at hlen; omega
  have hly : y.tx.length ≤ 140737488351232 := by rw [ht] at hlen; simp only [List.length_append] at hlen; omega
  have hcx := hx kx (w.alloc (boxOf ⟨#[108, 116]⟩ ⟨#[]⟩ 0 pos (some ⟨b, o, none⟩) 2 cap)).drew (hxi.below hbd) hlx
  have hcy := fun W h => hy ky W h hly
  rw [Nd.val_def] at hcx
  rw [show y.val = _ from Nd.val_def y] at hcy
  have s20 : ¬ (9223372036854775807 < (mkS x.tx).size + 1) := by rw [ht] at hlen; simp only [← sz_len, mkS_list, List.length_append, List.length_cons, List.length_nil] at hlen ⊢; omega
  have s30 : ¬ (9223372036854775807 < (mkS x.tx).size + 1 + (mkS (opSign ⟨#[108, 116]⟩)).size) := by rw [ht] at hlen; simp only [← sz_len, mkS_list, List.length_append, List.length_cons, List.length_nil] at hlen ⊢; omega
  have s40 : ¬ (9223372036854775807 < (mkS x.tx).size + 1 + (mkS (opSign ⟨#[108, 116]⟩)).size + 1) := by rw [ht] at hlen; simp only [← sz_len, mkS_list, List.length_append, List.length_cons, List.length_nil] at hlen ⊢; omega
  have s50 : ¬ (9223372036854775807 < (mkS x.tx).size + 1 + (mkS (opSign ⟨#[108, 116]⟩)).size + 1 + (mkS y.tx).size) := by rw [ht] at hlen; simp only [← sz_len, mkS_list, List.length_append, List.length_cons, List.length_nil] at hlen ⊢; omega
  have HE := Lib.hid (show (((((mkS x.tx : ByteArray) ++ (⟨#[32]⟩ : ByteArray)) ++ (mkS (opSign ⟨#[108, 116]⟩) : ByteArray)) ++ (⟨#[32]⟩ : ByteArray)) ++ (mkS y.tx : ByteArray)) = mkS t from mkS_eq (by rw [ht]; simp only [app_list, mkS_list, List.append_assoc]; try rfl))
  have HX := Lib.hid hcx
  have HYI := Lib.hid hyi
  have HB1 := Lib.hid hbd
  have HBD := Lib.hid hbd
  clear hp hq hcx hxi hyi hT ht hlen hlx hly hx hy hbx hbd
  have hc5 := cellsNode
  go_enter Tryd.func11, Tryd.ntmps11
  go_wp2_with fail
  have e0 : (w.alloc (boxOf ⟨#[108, 116]⟩ ⟨#[]⟩ 0 pos (some ⟨b, o, none⟩) 2 cap)).cell? ⟨w.heap.size, 0, none⟩ = some (.string ⟨#[108, 116]⟩) := (box_cells (new_at _ _)).1
  have e4 : (w.alloc (boxOf ⟨#[108, 116]⟩ ⟨#[]⟩ 0 pos (some ⟨b, o, none⟩) 2 cap)).cell? ⟨w.heap.size, 4, none⟩ = some (.slice (some ⟨b, o, none⟩) 2 cap) := (box_cells (new_at _ _)).2.2.2.2
  go_region_held3 (fun wz => wz.cell? ⟨w.heap.size, 0, none⟩ = some (.string ⟨#[108, 116]⟩) ∧ wz.cell? ⟨w.heap.size, 4, none⟩ = some (.slice (some ⟨b, o, none⟩) 2 cap) ∧ wz.cell? ⟨b, o, none⟩ = some (.string x.op) ∧ wz.cell? ⟨b, o + 1, none⟩ = some (.string x.name) ∧ wz.cell? ⟨b, o + 2, none⟩ = some (.int .i64 x.n) ∧ wz.cell? ⟨b, o + 3, none⟩ = some (.int .i64 x.pos) ∧ wz.cell? ⟨b, o + 4, none⟩ = some (.slice x.a x.kids.len x.cap) ∧ wz.cell? ⟨b, o + 5, none⟩ = some (.string y.op) ∧ wz.cell? ⟨b, o + 6, none⟩ = some (.string y.name) ∧ wz.cell? ⟨b, o + 7, none⟩ = some (.int .i64 y.n) ∧ wz.cell? ⟨b, o + 8, none⟩ = some (.int .i64 y.pos) ∧ wz.cell? ⟨b, o + 9, none⟩ = some (.slice y.a y.kids.len y.cap)) (go_keep) (first | (go_at_call 13; refine HX.out.mono ?_; rintro e w2 ⟨rfl, hb2⟩; replace e0 := cell_below hb2 e0; replace e4 := cell_below hb2 e4; replace p0 := cell_below hb2 p0; replace p1 := cell_below hb2 p1; replace p2 := cell_below hb2 p2; replace p3 := cell_below hb2 p3; replace p4 := cell_below hb2 p4; replace q0 := cell_below hb2 q0; replace q1 := cell_below hb2 q1; replace q2 := cell_below hb2 q2; replace q3 := cell_below hb2 q3; replace q4 := cell_below hb2 q4; have HB2 := Lib.hid (HB1.out.trans (hb2.mono HB1.out.size)); have HG := Lib.hid (rsgn_mk ⟨#[108, 116]⟩ (by simp [opF2, opFr, Lib.toList_data]) w2); have HBE := Lib.hid (HBD.out.trans (hb2.mono HBD.out.size)); clear hb2 HX HB1 HBD) | (go_at_call 29; refine HG.out.mono ?_; rintro e w3 ⟨rfl, hb2⟩; replace e0 := cell_below hb2 e0; replace e4 := cell_below hb2 e4; replace p0 := cell_below hb2 p0; replace p1 := cell_below hb2 p1; replace p2 := cell_below hb2 p2; replace p3 := cell_below hb2 p3; replace p4 := cell_below hb2 p4; replace q0 := cell_below hb2 q0; replace q1 := cell_below hb2 q1; replace q2 := cell_below hb2 q2; replace q3 := cell_below hb2 q3; replace q4 := cell_below hb2 q4; have HB3 := Lib.hid (HB2.out.trans (hb2.mono HB2.out.size)); have HY := Lib.hid (hcy w3 (HYI.out.below (HBE.out.trans (hb2.mono HBE.out.size)))); have HBF := Lib.hid (HBE.out.trans (hb2.mono HBE.out.size)); clear hb2 HG HB2 HBE) | (go_at_call 13; refine HY.out.mono ?_; rintro e w4 ⟨rfl, hb2⟩; replace e0 := cell_below hb2 e0; replace e4 := cell_below hb2 e4; replace p0 := cell_below hb2 p0; replace p1 := cell_below hb2 p1; replace p2 := cell_below hb2 p2; replace p3 := cell_below hb2 p3; replace p4 := cell_below hb2 p4; replace q0 := cell_below hb2 q0; replace q1 := cell_below hb2 q1; replace q2 := cell_below hb2 q2; replace q3 := cell_below hb2 q3; replace q4 := cell_below hb2 q4; have HB4 := Lib.hid (HB3.out.trans (hb2.mono HB3.out.size)); clear hb2 HY HB3))
  all_goals (go_wp2_with fail; go_ret; exact ⟨by rw [← HE.out]; rfl, HB4.out⟩)
set_option maxRecDepth 100000 in
set_option maxHeartbeats 8000000 in
theorem rform_le (pos : Int) (a : Option Addr) (cap : Nat) (x y : Nd) (hx : RTmC x) (hy : RTmC y) (kx : x.okT = true) (ky : y.okT = true) (t : L8) (w : World) (hT : (twoN ⟨#[108, 101]⟩ pos a cap x y).In w) (ht : t = x.tx ++ ([32] ++ opSign ⟨#[108, 101]⟩ ++ [32]) ++ y.tx) (hlen : t.length ≤ 140737488351232) :
    Calls Tryd.prog 11 #[.agg #[.string ⟨#[108, 101]⟩, .string ⟨#[]⟩, .int .i64 0, .int .i64 pos, .slice a 2 cap]] w fun e w' => e = .returned (.string (mkS t)) ∧ Below w.heap.size w w' := by
  obtain ⟨b, o, rfl, hp, hq, hxi, hyi⟩ := in_two hT
  have hbx := below_box w (boxOf ⟨#[108, 101]⟩ ⟨#[]⟩ 0 pos (some ⟨b, o, none⟩) 2 cap)
  have hbd : Below w.heap.size w (w.alloc (boxOf ⟨#[108, 101]⟩ ⟨#[]⟩ 0 pos (some ⟨b, o, none⟩) 2 cap)).drew := hbx.drew
  obtain ⟨p0, p1, p2, p3, p4⟩ := hp.below hbx
  obtain ⟨q0, q1, q2, q3, q4⟩ := hq.below hbx
  simp only [Nat.add_assoc] at q1 q2 q3 q4
  have hlx : x.tx.length ≤ 140737488351232 := by rw [ht] at hlen; simp only [List.length_append] at hlen; omega
  have hly : y.tx.length ≤ 140737488351232 := by rw [ht] at hlen; simp only [List.length_append] at hlen; omega
  have hcx := hx kx (w.alloc (boxOf ⟨#[108, 101]⟩ ⟨#[]⟩ 0 pos (some ⟨b, o, none⟩) 2 cap)).drew (hxi.below hbd) hlx
  have hcy := fun W h => hy ky W h hly
  rw [Nd.val_def] at hcx
  rw [show y.val = _ from Nd.val_def y] at hcy
  have s20 : ¬ (9223372036854775807 < (mkS x.tx).size + 1) := by rw [ht] at hlen; simp only [← sz_len, mkS_list, List.length_append, List.length_cons, List.length_nil] at hlen ⊢; omega
  have s30 : ¬ (9223372036854775807 < (mkS x.tx).size + 1 + (mkS (opSign ⟨#[108, 101]⟩)).size) := by rw [ht] at hlen; simp only [← sz_len, mkS_list, List.length_append, List.length_cons, List.length_nil] at hlen ⊢; omega
  have s40 : ¬ (9223372036854775807 < (mkS x.tx).size + 1 + (mkS (opSign ⟨#[108, 101]⟩)).size + 1) := by rw [ht] at hlen; simp only [← sz_len, mkS_list, List.length_append, List.length_cons, List.length_nil] at hlen ⊢; omega
  have s50 : ¬ (9223372036854775807 < (mkS x.tx).size + 1 + (mkS (opSign ⟨#[108, 101]⟩)).size + 1 + (mkS y.tx).size) := by rw [ht] at hlen; simp only [← sz_len, mkS_list, List.length_append, List.length_cons, List.length_nil] at hlen ⊢; omega
  have HE := Lib.hid (show (((((mkS x.tx : ByteArray) ++ (⟨#[32]⟩ : ByteArray)) ++ (mkS (opSign ⟨#[108, 101]⟩) : ByteArray)) ++ (⟨#[32]⟩ : ByteArray)) ++ (mkS y.tx : ByteArray)) = mkS t from mkS_eq (by rw [ht]; simp only [app_list, mkS_list, List.append_assoc]; try rfl))
  have HX := Lib.hid hcx
  have HYI := Lib.hid hyi
  have HB1 := Lib.hid hbd
  have HBD := Lib.hid hbd
  clear hp hq hcx hxi hyi hT ht hlen hlx hly hx hy hbx hbd
  have hc5 := cellsNode
  go_enter Tryd.func11, Tryd.ntmps11
  go_wp2_with fail
  have e0 : (w.alloc (boxOf ⟨#[108, 101]⟩ ⟨#[]⟩ 0 pos (some ⟨b, o, none⟩) 2 cap)).cell? ⟨w.heap.size, 0, none⟩ = some (.string ⟨#[108, 101]⟩) := (box_cells (new_at _ _)).1
  have e4 : (w.alloc (boxOf ⟨#[108, 101]⟩ ⟨#[]⟩ 0 pos (some ⟨b, o, none⟩) 2 cap)).cell? ⟨w.heap.size, 4, none⟩ = some (.slice (some ⟨b, o, none⟩) 2 cap) := (box_cells (new_at _ _)).2.2.2.2
  go_region_held3 (fun wz => wz.cell? ⟨w.heap.size, 0, none⟩ = some (.string ⟨#[108, 101]⟩) ∧ wz.cell? ⟨w.heap.size, 4, none⟩ = some (.slice (some ⟨b, o, none⟩) 2 cap) ∧ wz.cell? ⟨b, o, none⟩ = some (.string x.op) ∧ wz.cell? ⟨b, o + 1, none⟩ = some (.string x.name) ∧ wz.cell? ⟨b, o + 2, none⟩ = some (.int .i64 x.n) ∧ wz.cell? ⟨b, o + 3, none⟩ = some (.int .i64 x.pos) ∧ wz.cell? ⟨b, o + 4, none⟩ = some (.slice x.a x.kids.len x.cap) ∧ wz.cell? ⟨b, o + 5, none⟩ = some (.string y.op) ∧ wz.cell? ⟨b, o + 6, none⟩ = some (.string y.name) ∧ wz.cell? ⟨b, o + 7, none⟩ = some (.int .i64 y.n) ∧ wz.cell? ⟨b, o + 8, none⟩ = some (.int .i64 y.pos) ∧ wz.cell? ⟨b, o + 9, none⟩ = some (.slice y.a y.kids.len y.cap)) (go_keep) (first | (go_at_call 13; refine HX.out.mono ?_; rintro e w2 ⟨rfl, hb2⟩; replace e0 := cell_below hb2 e0; replace e4 := cell_below hb2 e4; replace p0 := cell_below hb2 p0; replace p1 := cell_below hb2 p1; replace p2 := cell_below hb2 p2; replace p3 := cell_below hb2 p3; replace p4 := cell_below hb2 p4; replace q0 := cell_below hb2 q0; replace q1 := cell_below hb2 q1; replace q2 := cell_below hb2 q2; replace q3 := cell_below hb2 q3; replace q4 := cell_below hb2 q4; have HB2 := Lib.hid (HB1.out.trans (hb2.mono HB1.out.size)); have HG := Lib.hid (rsgn_mk ⟨#[108, 101]⟩ (by simp [opF2, opFr, Lib.toList_data]) w2); have HBE := Lib.hid (HBD.out.trans (hb2.mono HBD.out.size)); clear hb2 HX HB1 HBD) | (go_at_call 29; refine HG.out.mono ?_; rintro e w3 ⟨rfl, hb2⟩; replace e0 := cell_below hb2 e0; replace e4 := cell_below hb2 e4; replace p0 := cell_below hb2 p0; replace p1 := cell_below hb2 p1; replace p2 := cell_below hb2 p2; replace p3 := cell_below hb2 p3; replace p4 := cell_below hb2 p4; replace q0 := cell_below hb2 q0; replace q1 := cell_below hb2 q1; replace q2 := cell_below hb2 q2; replace q3 := cell_below hb2 q3; replace q4 := cell_below hb2 q4; have HB3 := Lib.hid (HB2.out.trans (hb2.mono HB2.out.size)); have HY := Lib.hid (hcy w3 (HYI.out.below (HBE.out.trans (hb2.mono HBE.out.size)))); have HBF := Lib.hid (HBE.out.trans (hb2.mono HBE.out.size)); clear hb2 HG HB2 HBE) | (go_at_call 13; refine HY.out.mono ?_; rintro e w4 ⟨rfl, hb2⟩; replace e0 := cell_below hb2 e0; replace e4 := cell_below hb2 e4; replace p0 := cell_below hb2 p0; replace p1 := cell_below hb2 p1; replace p2 := cell_below hb2 p2; replace p3 := cell_below hb2 p3; replace p4 := cell_below hb2 p4; replace q0 := cell_below hb2 q0; replace q1 := cell_below hb2 q1; replace q2 := cell_below hb2 q2; replace q3 := cell_below hb2 q3; replace q4 := cell_below hb2 q4; have HB4 := Lib.hid (HB3.out.trans (hb2.mono HB3.out.size)); clear hb2 HY HB3))
  all_goals (go_wp2_with fail; go_ret; exact ⟨by rw [← HE.out]; rfl, HB4.out⟩)
set_option maxRecDepth 100000 in
set_option maxHeartbeats 8000000 in
theorem rform_in (pos : Int) (a : Option Addr) (cap : Nat) (x y : Nd) (hx : RTmC x) (hy : RTmC y) (kx : x.okT = true) (ky : y.okT = true) (t : L8) (w : World) (hT : (twoN ⟨#[105, 110]⟩ pos a cap x y).In w) (ht : t = x.tx ++ ([32] ++ opSign ⟨#[105, 110]⟩ ++ [32]) ++ y.tx) (hlen : t.length ≤ 140737488351232) :
    Calls Tryd.prog 11 #[.agg #[.string ⟨#[105, 110]⟩, .string ⟨#[]⟩, .int .i64 0, .int .i64 pos, .slice a 2 cap]] w fun e w' => e = .returned (.string (mkS t)) ∧ Below w.heap.size w w' := by
  obtain ⟨b, o, rfl, hp, hq, hxi, hyi⟩ := in_two hT
  have hbx := below_box w (boxOf ⟨#[105, 110]⟩ ⟨#[]⟩ 0 pos (some ⟨b, o, none⟩) 2 cap)
  have hbd : Below w.heap.size w (w.alloc (boxOf ⟨#[105, 110]⟩ ⟨#[]⟩ 0 pos (some ⟨b, o, none⟩) 2 cap)).drew := hbx.drew
  obtain ⟨p0, p1, p2, p3, p4⟩ := hp.below hbx
  obtain ⟨q0, q1, q2, q3, q4⟩ := hq.below hbx
  simp only [Nat.add_assoc] at q1 q2 q3 q4
  have hlx : x.tx.length ≤ 140737488351232 := by rw [ht] at hlen; simp only [List.length_append] at hlen; omega
  have hly : y.tx.length ≤ 140737488351232 := by rw [ht] at hlen; simp only [List.length_append] at hlen; omega
  have hcx := hx kx (w.alloc (boxOf ⟨#[105, 110]⟩ ⟨#[]⟩ 0 pos (some ⟨b, o, none⟩) 2 cap)).drew (hxi.below hbd) hlx
  have hcy := fun W h => hy ky W h hly
  rw [Nd.val_def] at hcx
  rw [show y.val = _ from Nd.val_def y] at hcy
  have s20 : ¬ (9223372036854775807 < (mkS x.tx).size + 1) := by rw [ht] at hlen; simp only [← sz_len, mkS_list, List.length_append, List.length_cons, List.length_nil] at hlen ⊢; omega
  have s30 : ¬ (9223372036854775807 < (mkS x.tx).size + 1 + (mkS (opSign ⟨#[105, 110]⟩)).size) := by rw [ht] at hlen; simp only [← sz_len, mkS_list, List.length_append, List.length_cons, List.length_nil] at hlen ⊢; omega
  have s40 : ¬ (9223372036854775807 < (mkS x.tx).size + 1 + (mkS (opSign ⟨#[105, 110]⟩)).size + 1) := by rw [ht] at hlen; simp only [← sz_len, mkS_list, List.length_append, List.length_cons, List.length_nil] at hlen ⊢; omega
  have s50 : ¬ (9223372036854775807 < (mkS x.tx).size + 1 + (mkS (opSign ⟨#[105, 110]⟩)).size + 1 + (mkS y.tx).size) := by rw [ht] at hlen; simp only [← sz_len, mkS_list, List.length_append, List.length_cons, List.length_nil] at hlen ⊢; omega
  have HE := Lib.hid (show (((((mkS x.tx : ByteArray) ++ (⟨#[32]⟩ : ByteArray)) ++ (mkS (opSign ⟨#[105, 110]⟩) : ByteArray)) ++ (⟨#[32]⟩ : ByteArray)) ++ (mkS y.tx : ByteArray)) = mkS t from mkS_eq (by rw [ht]; simp only [app_list, mkS_list, List.append_assoc]; try rfl))
  have HX := Lib.hid hcx
  have HYI := Lib.hid hyi
  have HB1 := Lib.hid hbd
  have HBD := Lib.hid hbd
  clear hp hq hcx hxi hyi hT ht hlen hlx hly hx hy hbx hbd
  have hc5 := cellsNode
  go_enter Tryd.func11, Tryd.ntmps11
  go_wp2_with fail
  have e0 : (w.alloc (boxOf ⟨#[105, 110]⟩ ⟨#[]⟩ 0 pos (some ⟨b, o, none⟩) 2 cap)).cell? ⟨w.heap.size, 0, none⟩ = some (.string ⟨#[105, 110]⟩) := (box_cells (new_at _ _)).1
  have e4 : (w.alloc (boxOf ⟨#[105, 110]⟩ ⟨#[]⟩ 0 pos (some ⟨b, o, none⟩) 2 cap)).cell? ⟨w.heap.size, 4, none⟩ = some (.slice (some ⟨b, o, none⟩) 2 cap) := (box_cells (new_at _ _)).2.2.2.2
  go_region_held3 (fun wz => wz.cell? ⟨w.heap.size, 0, none⟩ = some (.string ⟨#[105, 110]⟩) ∧ wz.cell? ⟨w.heap.size, 4, none⟩ = some (.slice (some ⟨b, o, none⟩) 2 cap) ∧ wz.cell? ⟨b, o, none⟩ = some (.string x.op) ∧ wz.cell? ⟨b, o + 1, none⟩ = some (.string x.name) ∧ wz.cell? ⟨b, o + 2, none⟩ = some (.int .i64 x.n) ∧ wz.cell? ⟨b, o + 3, none⟩ = some (.int .i64 x.pos) ∧ wz.cell? ⟨b, o + 4, none⟩ = some (.slice x.a x.kids.len x.cap) ∧ wz.cell? ⟨b, o + 5, none⟩ = some (.string y.op) ∧ wz.cell? ⟨b, o + 6, none⟩ = some (.string y.name) ∧ wz.cell? ⟨b, o + 7, none⟩ = some (.int .i64 y.n) ∧ wz.cell? ⟨b, o + 8, none⟩ = some (.int .i64 y.pos) ∧ wz.cell? ⟨b, o + 9, none⟩ = some (.slice y.a y.kids.len y.cap)) (go_keep) (first | (go_at_call 13; refine HX.out.mono ?_; rintro e w2 ⟨rfl, hb2⟩; replace e0 := cell_below hb2 e0; replace e4 := cell_below hb2 e4; replace p0 := cell_below hb2 p0; replace p1 := cell_below hb2 p1; replace p2 := cell_below hb2 p2; replace p3 := cell_below hb2 p3; replace p4 := cell_below hb2 p4; replace q0 := cell_below hb2 q0; replace q1 := cell_below hb2 q1; replace q2 := cell_below hb2 q2; replace q3 := cell_below hb2 q3; replace q4 := cell_below hb2 q4; have HB2 := Lib.hid (HB1.out.trans (hb2.mono HB1.out.size)); have HG := Lib.hid (rsgn_mk ⟨#[105, 110]⟩ (by simp [opF2, opFr, Lib.toList_data]) w2); have HBE := Lib.hid (HBD.out.trans (hb2.mono HBD.out.size)); clear hb2 HX HB1 HBD) | (go_at_call 29; refine HG.out.mono ?_; rintro e w3 ⟨rfl, hb2⟩; replace e0 := cell_below hb2 e0; replace e4 := cell_below hb2 e4; replace p0 := cell_below hb2 p0; replace p1 := cell_below hb2 p1; replace p2 := cell_below hb2 p2; replace p3 := cell_below hb2 p3; replace p4 := cell_below hb2 p4; replace q0 := cell_below hb2 q0; replace q1 := cell_below hb2 q1; replace q2 := cell_below hb2 q2; replace q3 := cell_below hb2 q3; replace q4 := cell_below hb2 q4; have HB3 := Lib.hid (HB2.out.trans (hb2.mono HB2.out.size)); have HY := Lib.hid (hcy w3 (HYI.out.below (HBE.out.trans (hb2.mono HBE.out.size)))); have HBF := Lib.hid (HBE.out.trans (hb2.mono HBE.out.size)); clear hb2 HG HB2 HBE) | (go_at_call 13; refine HY.out.mono ?_; rintro e w4 ⟨rfl, hb2⟩; replace e0 := cell_below hb2 e0; replace e4 := cell_below hb2 e4; replace p0 := cell_below hb2 p0; replace p1 := cell_below hb2 p1; replace p2 := cell_below hb2 p2; replace p3 := cell_below hb2 p3; replace p4 := cell_below hb2 p4; replace q0 := cell_below hb2 q0; replace q1 := cell_below hb2 q1; replace q2 := cell_below hb2 q2; replace q3 := cell_below hb2 q3; replace q4 := cell_below hb2 q4; have HB4 := Lib.hid (HB3.out.trans (hb2.mono HB3.out.size)); clear hb2 HY HB3))
  all_goals (go_wp2_with fail; go_ret; exact ⟨by rw [← HE.out]; rfl, HB4.out⟩)
set_option maxRecDepth 100000 in
set_option maxHeartbeats 8000000 in
theorem rform_notin (pos : Int) (a : Option Addr) (cap : Nat) (x y : Nd) (hx : RTmC x) (hy : RTmC y) (kx : x.okT = true) (ky : y.okT = true) (t : L8) (w : World) (hT : (twoN ⟨#[110, 111, 116, 105, 110]⟩ pos a cap x y).In w) (ht : t = x.tx ++ ([32] ++ opSign ⟨#[110, 111, 116, 105, 110]⟩ ++ [32]) ++ y.tx) (hlen : t.length ≤ 140737488351232) :
    Calls Tryd.prog 11 #[.agg #[.string ⟨#[110, 111, 116, 105, 110]⟩, .string ⟨#[]⟩, .int .i64 0, .int .i64 pos, .slice a 2 cap]] w fun e w' => e = .returned (.string (mkS t)) ∧ Below w.heap.size w w' := by
  obtain ⟨b, o, rfl, hp, hq, hxi, hyi⟩ := in_two hT
  have hbx := below_box w (boxOf ⟨#[110, 111, 116, 105, 110]⟩ ⟨#[]⟩ 0 pos (some ⟨b, o, none⟩) 2 cap)
  have hbd : Below w.heap.size w (w.alloc (boxOf ⟨#[110, 111, 116, 105, 110]⟩ ⟨#[]⟩ 0 pos (some ⟨b, o, none⟩) 2 cap)).drew := hbx.drew
  obtain ⟨p0, p1, p2, p3, p4⟩ := hp.below hbx
  obtain ⟨q0, q1, q2, q3, q4⟩ := hq.below hbx
  simp only [Nat.add_assoc] at q1 q2 q3 q4
  have hlx : x.tx.length ≤ 140737488351232 := by rw [ht] at hlen; simp only [List.length_append] at hlen; omega
  have hly : y.tx.length ≤ 140737488351232 := by rw [ht] at hlen; simp only [List.length_append] at hlen; omega
  have hcx := hx kx (w.alloc (boxOf ⟨#[110, 111, 116, 105, 110]⟩ ⟨#[]⟩ 0 pos (some ⟨b, o, none⟩) 2 cap)).drew (hxi.below hbd) hlx
  have hcy := fun W h => hy ky W h hly
  rw [Nd.val_def] at hcx
  rw [show y.val = _ from Nd.val_def y] at hcy
  have s20 : ¬ (9223372036854775807 < (mkS x.tx).size + 1) := by rw [ht] at hlen; simp only [← sz_len, mkS_list, List.length_append, List.length_cons, List.length_nil] at hlen ⊢; omega
  have s30 : ¬ (9223372036854775807 < (mkS x.tx).size + 1 + (mkS (opSign ⟨#[110, 111, 116, 105, 110]⟩)).size) := by rw [ht] at hlen; simp only [← sz_len, mkS_list, List.length_append, List.length_cons, List.length_nil] at hlen ⊢; omega
  have s40 : ¬ (9223372036854775807 < (mkS x.tx).size + 1 + (mkS (opSign ⟨#[110, 111, 116, 105, 110]⟩)).size + 1) := by rw [ht] at hlen; simp only [← sz_len, mkS_list, List.length_append, List.length_cons, List.length_nil] at hlen ⊢; omega
  have s50 : ¬ (9223372036854775807 < (mkS x.tx).size + 1 + (mkS (opSign ⟨#[110, 111, 116, 105, 110]⟩)).size + 1 + (mkS y.tx).size) := by rw [ht] at hlen; simp only [← sz_len, mkS_list, List.length_append, List.length_cons, List.length_nil] at hlen ⊢; omega
  have HE := Lib.hid (show (((((mkS x.tx : ByteArray) ++ (⟨#[32]⟩ : ByteArray)) ++ (mkS (opSign ⟨#[110, 111, 116, 105, 110]⟩) : ByteArray)) ++ (⟨#[32]⟩ : ByteArray)) ++ (mkS y.tx : ByteArray)) = mkS t from mkS_eq (by rw [ht]; simp only [app_list, mkS_list, List.append_assoc]; try rfl))
  have HX := Lib.hid hcx
  have HYI := Lib.hid hyi
  have HB1 := Lib.hid hbd
  have HBD := Lib.hid hbd
  clear hp hq hcx hxi hyi hT ht hlen hlx hly hx hy hbx hbd
  have hc5 := cellsNode
  go_enter Tryd.func11, Tryd.ntmps11
  go_wp2_with fail
  have e0 : (w.alloc (boxOf ⟨#[110, 111, 116, 105, 110]⟩ ⟨#[]⟩ 0 pos (some ⟨b, o, none⟩) 2 cap)).cell? ⟨w.heap.size, 0, none⟩ = some (.string ⟨#[110, 111, 116, 105, 110]⟩) := (box_cells (new_at _ _)).1
  have e4 : (w.alloc (boxOf ⟨#[110, 111, 116, 105, 110]⟩ ⟨#[]⟩ 0 pos (some ⟨b, o, none⟩) 2 cap)).cell? ⟨w.heap.size, 4, none⟩ = some (.slice (some ⟨b, o, none⟩) 2 cap) := (box_cells (new_at _ _)).2.2.2.2
  go_region_held3 (fun wz => wz.cell? ⟨w.heap.size, 0, none⟩ = some (.string ⟨#[110, 111, 116, 105, 110]⟩) ∧ wz.cell? ⟨w.heap.size, 4, none⟩ = some (.slice (some ⟨b, o, none⟩) 2 cap) ∧ wz.cell? ⟨b, o, none⟩ = some (.string x.op) ∧ wz.cell? ⟨b, o + 1, none⟩ = some (.string x.name) ∧ wz.cell? ⟨b, o + 2, none⟩ = some (.int .i64 x.n) ∧ wz.cell? ⟨b, o + 3, none⟩ = some (.int .i64 x.pos) ∧ wz.cell? ⟨b, o + 4, none⟩ = some (.slice x.a x.kids.len x.cap) ∧ wz.cell? ⟨b, o + 5, none⟩ = some (.string y.op) ∧ wz.cell? ⟨b, o + 6, none⟩ = some (.string y.name) ∧ wz.cell? ⟨b, o + 7, none⟩ = some (.int .i64 y.n) ∧ wz.cell? ⟨b, o + 8, none⟩ = some (.int .i64 y.pos) ∧ wz.cell? ⟨b, o + 9, none⟩ = some (.slice y.a y.kids.len y.cap)) (go_keep) (first | (go_at_call 13; refine HX.out.mono ?_; rintro e w2 ⟨rfl, hb2⟩; replace e0 := cell_below hb2 e0; replace e4 := cell_below hb2 e4; replace p0 := cell_below hb2 p0; replace p1 := cell_below hb2 p1; replace p2 := cell_below hb2 p2; replace p3 := cell_below hb2 p3; replace p4 := cell_below hb2 p4; replace q0 := cell_below hb2 q0; replace q1 := cell_below hb2 q1; replace q2 := cell_below hb2 q2; replace q3 := cell_below hb2 q3; replace q4 := cell_below hb2 q4; have HB2 := Lib.hid (HB1.out.trans (hb2.mono HB1.out.size)); have HG := Lib.hid (rsgn_mk ⟨#[110, 111, 116, 105, 110]⟩ (by simp [opF2, opFr, Lib.toList_data]) w2); have HBE := Lib.hid (HBD.out.trans (hb2.mono HBD.out.size)); clear hb2 HX HB1 HBD) | (go_at_call 29; refine HG.out.mono ?_; rintro e w3 ⟨rfl, hb2⟩; replace e0 := cell_below hb2 e0; replace e4 := cell_below hb2 e4; replace p0 := cell_below hb2 p0; replace p1 := cell_below hb2 p1; replace p2 := cell_below hb2 p2; replace p3 := cell_below hb2 p3; replace p4 := cell_below hb2 p4; replace q0 := cell_below hb2 q0; replace q1 := cell_below hb2 q1; replace q2 := cell_below hb2 q2; replace q3 := cell_below hb2 q3; replace q4 := cell_below hb2 q4; have HB3 := Lib.hid (HB2.out.trans (hb2.mono HB2.out.size)); have HY := Lib.hid (hcy w3 (HYI.out.below (HBE.out.trans (hb2.mono HBE.out.size)))); have HBF := Lib.hid (HBE.out.trans (hb2.mono HBE.out.size)); clear hb2 HG HB2 HBE) | (go_at_call 13; refine HY.out.mono ?_; rintro e w4 ⟨rfl, hb2⟩; replace e0 := cell_below hb2 e0; replace e4 := cell_below hb2 e4; replace p0 := cell_below hb2 p0; replace p1 := cell_below hb2 p1; replace p2 := cell_below hb2 p2; replace p3 := cell_below hb2 p3; replace p4 := cell_below hb2 p4; replace q0 := cell_below hb2 q0; replace q1 := cell_below hb2 q1; replace q2 := cell_below hb2 q2; replace q3 := cell_below hb2 q3; replace q4 := cell_below hb2 q4; have HB4 := Lib.hid (HB3.out.trans (hb2.mono HB3.out.size)); clear hb2 HY HB3))
  all_goals (go_wp2_with fail; go_ret; exact ⟨by rw [← HE.out]; rfl, HB4.out⟩)
set_option maxRecDepth 100000 in
set_option maxHeartbeats 8000000 in
theorem rform_sub (pos : Int) (a : Option Addr) (cap : Nat) (x y : Nd) (hx : RTmC x) (hy : RTmC y) (kx : x.okT = true) (ky : y.okT = true) (t : L8) (w : World) (hT : (twoN ⟨#[115, 117, 98]⟩ pos a cap x y).In w) (ht : t = x.tx ++ ([32] ++ opSign ⟨#[115, 117, 98]⟩ ++ [32]) ++ y.tx) (hlen : t.length ≤ 140737488351232) :
    Calls Tryd.prog 11 #[.agg #[.string ⟨#[115, 117, 98]⟩, .string ⟨#[]⟩, .int .i64 0, .int .i64 pos, .slice a 2 cap]] w fun e w' => e = .returned (.string (mkS t)) ∧ Below w.heap.size w w' := by
  obtain ⟨b, o, rfl, hp, hq, hxi, hyi⟩ := in_two hT
  have hbx := below_box w (boxOf ⟨#[115, 117, 98]⟩ ⟨#[]⟩ 0 pos (some ⟨b, o, none⟩) 2 cap)
  have hbd : Below w.heap.size w (w.alloc (boxOf ⟨#[115, 117, 98]⟩ ⟨#[]⟩ 0 pos (some ⟨b, o, none⟩) 2 cap)).drew := hbx.drew
  obtain ⟨p0, p1, p2, p3, p4⟩ := hp.below hbx
  obtain ⟨q0, q1, q2, q3, q4⟩ := hq.below hbx
  simp only [Nat.add_assoc] at q1 q2 q3 q4
  have hlx : x.tx.length ≤ 140737488351232 := by rw [ht] at hlen; simp only [List.length_append] at hlen; omega
  have hly : y.tx.length ≤ 140737488351232 := by rw [ht] at hlen; simp only [List.length_append] at hlen; omega
  have hcx := hx kx (w.alloc (boxOf ⟨#[115, 117, 98]⟩ ⟨#[]⟩ 0 pos (some ⟨b, o, none⟩) 2 cap)).drew (hxi.below hbd) hlx
  have hcy := fun W h => hy ky W h hly
  rw [Nd.val_def] at hcx
  rw [show y.val = _ from Nd.val_def y] at hcy
  have s20 : ¬ (9223372036854775807 < (mkS x.tx).size + 1) := by rw [ht] at hlen; simp only [← sz_len, mkS_list, List.length_append, List.length_cons, List.length_nil] at hlen ⊢; omega
  have s30 : ¬ (9223372036854775807 < (mkS x.tx).size + 1 + (mkS (opSign ⟨#[115, 117, 98]⟩)).size) := by rw [ht] at hlen; simp only [← sz_len, mkS_list, List.length_append, List.length_cons, List.length_nil] at hlen ⊢; omega
  have s40 : ¬ (9223372036854775807 < (mkS x.tx).size + 1 + (mkS (opSign ⟨#[115, 117, 98]⟩)).size + 1) := by rw [ht] at hlen; simp only [← sz_len, mkS_list, List.length_append, List.length_cons, List.length_nil] at hlen ⊢; omega
  have s50 : ¬ (9223372036854775807 < (mkS x.tx).size + 1 + (mkS (opSign ⟨#[115, 117, 98]⟩)).size + 1 + (mkS y.tx).size) := by rw [ht] at hlen; simp only [← sz_len, mkS_list, List.length_append, List.length_cons, List.length_nil] at hlen ⊢; omega
  have HE := Lib.hid (show (((((mkS x.tx : ByteArray) ++ (⟨#[32]⟩ : ByteArray)) ++ (mkS (opSign ⟨#[115, 117, 98]⟩) : ByteArray)) ++ (⟨#[32]⟩ : ByteArray)) ++ (mkS y.tx : ByteArray)) = mkS t from mkS_eq (by rw [ht]; simp only [app_list, mkS_list, List.append_assoc]; try rfl))
  have HX := Lib.hid hcx
  have HYI := Lib.hid hyi
  have HB1 := Lib.hid hbd
  have HBD := Lib.hid hbd
  clear hp hq hcx hxi hyi hT ht hlen hlx hly hx hy hbx hbd
  have hc5 := cellsNode
  go_enter Tryd.func11, Tryd.ntmps11
  go_wp2_with fail
  have e0 : (w.alloc (boxOf ⟨#[115, 117, 98]⟩ ⟨#[]⟩ 0 pos (some ⟨b, o, none⟩) 2 cap)).cell? ⟨w.heap.size, 0, none⟩ = some (.string ⟨#[115, 117, 98]⟩) := (box_cells (new_at _ _)).1
  have e4 : (w.alloc (boxOf ⟨#[115, 117, 98]⟩ ⟨#[]⟩ 0 pos (some ⟨b, o, none⟩) 2 cap)).cell? ⟨w.heap.size, 4, none⟩ = some (.slice (some ⟨b, o, none⟩) 2 cap) := (box_cells (new_at _ _)).2.2.2.2
  go_region_held3 (fun wz => wz.cell? ⟨w.heap.size, 0, none⟩ = some (.string ⟨#[115, 117, 98]⟩) ∧ wz.cell? ⟨w.heap.size, 4, none⟩ = some (.slice (some ⟨b, o, none⟩) 2 cap) ∧ wz.cell? ⟨b, o, none⟩ = some (.string x.op) ∧ wz.cell? ⟨b, o + 1, none⟩ = some (.string x.name) ∧ wz.cell? ⟨b, o + 2, none⟩ = some (.int .i64 x.n) ∧ wz.cell? ⟨b, o + 3, none⟩ = some (.int .i64 x.pos) ∧ wz.cell? ⟨b, o + 4, none⟩ = some (.slice x.a x.kids.len x.cap) ∧ wz.cell? ⟨b, o + 5, none⟩ = some (.string y.op) ∧ wz.cell? ⟨b, o + 6, none⟩ = some (.string y.name) ∧ wz.cell? ⟨b, o + 7, none⟩ = some (.int .i64 y.n) ∧ wz.cell? ⟨b, o + 8, none⟩ = some (.int .i64 y.pos) ∧ wz.cell? ⟨b, o + 9, none⟩ = some (.slice y.a y.kids.len y.cap)) (go_keep) (first | (go_at_call 13; refine HX.out.mono ?_; rintro e w2 ⟨rfl, hb2⟩; replace e0 := cell_below hb2 e0; replace e4 := cell_below hb2 e4; replace p0 := cell_below hb2 p0; replace p1 := cell_below hb2 p1; replace p2 := cell_below hb2 p2; replace p3 := cell_below hb2 p3; replace p4 := cell_below hb2 p4; replace q0 := cell_below hb2 q0; replace q1 := cell_below hb2 q1; replace q2 := cell_below hb2 q2; replace q3 := cell_below hb2 q3; replace q4 := cell_below hb2 q4; have HB2 := Lib.hid (HB1.out.trans (hb2.mono HB1.out.size)); have HG := Lib.hid (rsgn_mk ⟨#[115, 117, 98]⟩ (by simp [opF2, opFr, Lib.toList_data]) w2); have HBE := Lib.hid (HBD.out.trans (hb2.mono HBD.out.size)); clear hb2 HX HB1 HBD) | (go_at_call 29; refine HG.out.mono ?_; rintro e w3 ⟨rfl, hb2⟩; replace e0 := cell_below hb2 e0; replace e4 := cell_below hb2 e4; replace p0 := cell_below hb2 p0; replace p1 := cell_below hb2 p1; replace p2 := cell_below hb2 p2; replace p3 := cell_below hb2 p3; replace p4 := cell_below hb2 p4; replace q0 := cell_below hb2 q0; replace q1 := cell_below hb2 q1; replace q2 := cell_below hb2 q2; replace q3 := cell_below hb2 q3; replace q4 := cell_below hb2 q4; have HB3 := Lib.hid (HB2.out.trans (hb2.mono HB2.out.size)); have HY := Lib.hid (hcy w3 (HYI.out.below (HBE.out.trans (hb2.mono HBE.out.size)))); have HBF := Lib.hid (HBE.out.trans (hb2.mono HBE.out.size)); clear hb2 HG HB2 HBE) | (go_at_call 13; refine HY.out.mono ?_; rintro e w4 ⟨rfl, hb2⟩; replace e0 := cell_below hb2 e0; replace e4 := cell_below hb2 e4; replace p0 := cell_below hb2 p0; replace p1 := cell_below hb2 p1; replace p2 := cell_below hb2 p2; replace p3 := cell_below hb2 p3; replace p4 := cell_below hb2 p4; replace q0 := cell_below hb2 q0; replace q1 := cell_below hb2 q1; replace q2 := cell_below hb2 q2; replace q3 := cell_below hb2 q3; replace q4 := cell_below hb2 q4; have HB4 := Lib.hid (HB3.out.trans (hb2.mono HB3.out.size)); clear hb2 HY HB3))
  all_goals (go_wp2_with fail; go_ret; exact ⟨by rw [← HE.out]; rfl, HB4.out⟩)
end Go.Proofs.YtamihfgkpilfiaaDoor
