/- The reference of show: formulas case by case but the relations. -/
import Derived.Test.YtamihfgkpilfiaaDoorRtD
import Derived.Test.YtamihfgkpilfiaaDoorLexA
import Derived.Test.YtamihfgkpilfiaaDoorRows
import Derived.WalkKit
import Derived.WalkLawsBesides
import Derived.WalkSpells
import Derived.ProofKit
import Derived.Outline
import Derived.Deep.QuietTactic
import Derived.BigQuiet
import Derived.Deep.Light
import Derived.Deep.CutBlock
import Derived.Deep.DeepCutAuto
import Derived.Deep.DeepFit
import Derived.Deep.LoopGhost
import Derived.Lib.Hide
import Derived.Lib.OthersKept
import Derived.IntWalk
import Derived.StillTailTactics
import Derived.Deep.RegionHeld3
namespace Go.Proofs.YtamihfgkpilfiaaDoor
open Go.RowKit
def RFmC (T : Nd) : Prop := T.okF = true → ∀ w : World, T.In w → T.fx.length ≤ 140737488351232 → Calls Tryd.prog 11 #[T.val] w fun e w' => e = .returned (.string (mkS T.fx)) ∧ Below w.heap.size w w'
set_option maxRecDepth 100000 in
set_option maxHeartbeats 8000000 in
theorem rform_true (pos : Int) (a : Option Addr) (cap : Nat) (w : World) :
    Calls Tryd.prog 11 #[.agg #[.string ⟨#[116, 114, 117, 101]⟩, .string ⟨#[]⟩, .int .i64 0, .int .i64 pos, .slice a 0 cap]] w fun e w' => e = .returned (.string ⟨#[116, 114, 117, 101]⟩) ∧ Below w.heap.size w w' := by
  have hc5 := cellsNode
  go_enter Tryd.func11, Tryd.ntmps11
  go_wp2_with fail
  go_ret
  exact ⟨rfl, below_box _ _⟩
set_option maxRecDepth 100000 in
set_option maxHeartbeats 8000000 in
theorem rform_false (pos : Int) (a : Option Addr) (cap : Nat) (w : World) :
    Calls Tryd.prog 11 #[.agg #[.string ⟨#[102, 97, 108, 115, 101]⟩, .string ⟨#[]⟩, .int .i64 0, .int .i64 pos, .slice a 0 cap]] w fun e w' => e = .returned (.string ⟨#[102, 97, 108, 115, 101]⟩) ∧ Below w.heap.size w w' := by
  have hc5 := cellsNode
  go_enter Tryd.func11, Tryd.ntmps11
  go_wp2_with fail
  go_ret
  exact ⟨rfl, below_box _ _⟩
set_option maxRecDepth 100000 in
set_option maxHeartbeats 8000000 in
theorem rform_is (name : ByteArray) (pos : Int) (a : Option Addr) (cap : Nat) (w : World) :
    Calls Tryd.prog 11 #[.agg #[.string ⟨#[105, 115]⟩, .string name, .int .i64 0, .int .i64 pos, .slice a 0 cap]] w fun e w' => e = .returned (.string name) ∧ Below w.heap.size w w' := by
  have hc5 := cellsNode
  go_enter Tryd.func11, Tryd.ntmps11
  go_wp2_with fail
  go_ret
  exact ⟨rfl, below_box _ _⟩
set_option maxRecDepth 100000 in
set_option maxHeartbeats 8000000 in
theorem rform_not (pos : Int) (a : Option Addr) (cap : Nat) (x : Nd) (hx : RFmC x) (kx : x.okF = true) (t : L8) (w : World) (hT : Nd.In w ⟨⟨#[110, 111, 116]⟩, ⟨#[]⟩, 0, pos, a, cap, .cons x.op x.name x.n x.pos x.a x.cap x.kids .nil⟩) (ht : t = [126] ++ x.fx) (hlen : t.length ≤ 140737488351232) :
    Calls Tryd.prog 11 #[.agg #[.string ⟨#[110, 111, 116]⟩, .string ⟨#[]⟩, .int .i64 0, .int .i64 pos, .slice a 1 cap]] w fun e w' => e = .returned (.string (mkS t)) ∧ Below w.heap.size w w' := by
  obtain ⟨b, o, rfl, hp, hxi⟩ := in_one hT
  have hbx := below_box w (boxOf ⟨#[110, 111, 116]⟩ ⟨#[]⟩ 0 pos (some ⟨b, o, none⟩) 1 cap)
  obtain ⟨p0, p1, p2, p3, p4⟩ := hp.below hbx
  have hl := hlen
  rw [ht] at hl
  simp only [List.length_append, List.length_cons, List.length_nil] at hl
  have hcx := hx kx _ (hxi.below hbx) (by omega)
  rw [Nd.val_def] at hcx
  have s1 : ¬ (9223372036854775807 < 1 + (mkS x.fx).size) := by simp only [← sz_len, mkS_list]; omega
  have HE := Lib.hid (show (⟨#[126]⟩ : ByteArray) ++ mkS x.fx = mkS t from mkS_eq (by rw [ht]; simp only [app_list, mkS_list]))
  have HX := Lib.hid hcx
  clear hp hcx hxi hT ht hlen hx hbx hl
  have hc5 := cellsNode
  go_enter Tryd.func11, Tryd.ntmps11
  go_wp2_with fail
  refine HX.out.mono ?_
  rintro e w2 ⟨rfl, hb2⟩
  have hbb := box_then hb2
  clear hb2 HX p0 p1 p2 p3 p4
  go_wp2_with fail
  go_ret
  exact ⟨by rw [← HE.out]; rfl, hbb⟩
set_option maxRecDepth 100000 in
set_option maxHeartbeats 8000000 in
theorem rform_ex (name : ByteArray) (n pos : Int) (a : Option Addr) (cap : Nat) (x : Nd) (hx : RFmC x) (kx : x.okF = true) (h0 : 0 ≤ n) (h1 : n ≤ 99) (t : L8) (w : World) (hT : Nd.In w ⟨⟨#[101, 120]⟩, name, n, pos, a, cap, .cons x.op x.name x.n x.pos x.a x.cap x.kids .nil⟩) (ht : t = ([40] ++ (⟨#[101, 120]⟩ : ByteArray).data.toList ++ dgs n ++ [32] ++ name.data.toList ++ [58, 32]) ++ x.fx ++ [41]) (hlen : t.length ≤ 140737488351232) :
    Calls Tryd.prog 11 #[.agg #[.string ⟨#[101, 120]⟩, .string name, .int .i64 n, .int .i64 pos, .slice a 1 cap]] w fun e w' => e = .returned (.string (mkS t)) ∧ Below w.heap.size w w' := by
  obtain ⟨b, o, rfl, hp, hxi⟩ := in_one hT
  have hbx := below_box w (boxOf ⟨#[101, 120]⟩ name n pos (some ⟨b, o, none⟩) 1 cap)
  have hbd : Below w.heap.size w (w.alloc (boxOf ⟨#[101, 120]⟩ name n pos (some ⟨b, o, none⟩) 1 cap)).drew := hbx.drew
  obtain ⟨p0, p1, p2, p3, p4⟩ := hp.below hbx
  have hl := hlen
  rw [ht] at hl
  simp only [List.length_append, List.length_cons, List.length_nil, sz_len name] at hl
  have hlx : x.fx.length ≤ 140737488351232 := by omega
  have hcx := fun W h => hx kx W h hlx
  rw [show x.val = _ from Nd.val_def x] at hcx
  have s1 : ¬ (9223372036854775807 < 3 + (mkS (dgs n)).size) := by simp only [← sz_len, mkS_list]; omega
  have s2 : ¬ (9223372036854775807 < 3 + (mkS (dgs n)).size + 1) := by simp only [← sz_len, mkS_list]; omega
  have s3 : ¬ (9223372036854775807 < 3 + (mkS (dgs n)).size + 1 + name.size) := by simp only [← sz_len (mkS _), mkS_list]; omega
  have s4 : ¬ (9223372036854775807 < 3 + (mkS (dgs n)).size + 1 + name.size + 2) := by simp only [← sz_len (mkS _), mkS_list]; omega
  have s5 : ¬ (9223372036854775807 < 3 + (mkS (dgs n)).size + 1 + name.size + 2 + (mkS x.fx).size) := by simp only [← sz_len (mkS _), mkS_list]; omega
  have s6 : ¬ (9223372036854775807 < 3 + (mkS (dgs n)).size + 1 + name.size + 2 + (mkS x.fx).size + 1) := by simp only [← sz_len (mkS _), mkS_list]; omega
  have HE := Lib.hid (show (⟨#[40]⟩ : ByteArray) ++ ⟨#[101, 120]⟩ ++ mkS (dgs n) ++ ⟨#[32]⟩ ++ name ++ ⟨#[58, 32]⟩ ++ mkS x.fx ++ ⟨#[41]⟩ = mkS t from mkS_eq (by rw [ht]; simp only [app_list, mkS_list, List.append_assoc]))
  have HXI := Lib.hid hxi
  have HB1 := Lib.hid hbd
  have HD := Lib.hid (digits_any n (w.alloc (boxOf ⟨#[101, 120]⟩ name n pos (some ⟨b, o, none⟩) 1 cap)).drew h0 h1)
  clear hp hxi hT ht hlen hlx hx hbx hbd hl
  have hc5 := cellsNode
  go_enter Tryd.func11, Tryd.ntmps11
  go_wp2_with fail
  have e0 : (w.alloc (boxOf ⟨#[101, 120]⟩ name n pos (some ⟨b, o, none⟩) 1 cap)).cell? ⟨w.heap.size, 0, none⟩ = some (.string ⟨#[101, 120]⟩) := (box_cells (new_at _ _)).1
  have e1 : (w.alloc (boxOf ⟨#[101, 120]⟩ name n pos (some ⟨b, o, none⟩) 1 cap)).cell? ⟨w.heap.size, 1, none⟩ = some (.string name) := (box_cells (new_at _ _)).2.1
  have e2 : (w.alloc (boxOf ⟨#[101, 120]⟩ name n pos (some ⟨b, o, none⟩) 1 cap)).cell? ⟨w.heap.size, 2, none⟩ = some (.int .i64 n) := (box_cells (new_at _ _)).2.2.1
  have e4 : (w.alloc (boxOf ⟨#[101, 120]⟩ name n pos (some ⟨b, o, none⟩) 1 cap)).cell? ⟨w.heap.size, 4, none⟩ = some (.slice (some ⟨b, o, none⟩) 1 cap) := (box_cells (new_at _ _)).2.2.2.2
  go_region_held3 (fun wz => wz.cell? ⟨w.heap.size, 0, none⟩ = some (.string ⟨#[101, 120]⟩) ∧ wz.cell? ⟨w.heap.size, 1, none⟩ = some (.string name) ∧ wz.cell? ⟨w.heap.size, 2, none⟩ = some (.int .i64 n) ∧ wz.cell? ⟨w.heap.size, 4, none⟩ = some (.slice (some ⟨b, o, none⟩) 1 cap) ∧ wz.cell? ⟨b, o, none⟩ = some (.string x.op) ∧ wz.cell? ⟨b, o + 1, none⟩ = some (.string x.name) ∧ wz.cell? ⟨b, o + 2, none⟩ = some (.int .i64 x.n) ∧ wz.cell? ⟨b, o + 3, none⟩ = some (.int .i64 x.pos) ∧ wz.cell? ⟨b, o + 4, none⟩ = some (.slice x.a x.kids.len x.cap)) (go_keep) (first | (go_at_call 27; refine HD.out.mono ?_; rintro e w2 ⟨rfl, hb2⟩; replace e0 := cell_below hb2 e0; replace e1 := cell_below hb2 e1; replace e2 := cell_below hb2 e2; replace e4 := cell_below hb2 e4; replace p0 := cell_below hb2 p0; replace p1 := cell_below hb2 p1; replace p2 := cell_below hb2 p2; replace p3 := cell_below hb2 p3; replace p4 := cell_below hb2 p4; have HB2 := Lib.hid (HB1.out.trans (hb2.mono HB1.out.size)); have HX := Lib.hid (hcx w2 (HXI.out.below (HB1.out.trans (hb2.mono HB1.out.size)))); clear hb2 HD HB1) | (go_at_call 11; refine HX.out.mono ?_; rintro e w3 ⟨rfl, hb2⟩; replace e0 := cell_below hb2 e0; replace e1 := cell_below hb2 e1; replace e2 := cell_below hb2 e2; replace e4 := cell_below hb2 e4; replace p0 := cell_below hb2 p0; replace p1 := cell_below hb2 p1; replace p2 := cell_below hb2 p2; replace p3 := cell_below hb2 p3; replace p4 := cell_below hb2 p4; have HB4 := Lib.hid (HB2.out.trans (hb2.mono HB2.out.size)); clear hb2 HX HB2))
  all_goals (go_wp2_with fail; go_ret; exact ⟨by rw [← HE.out]; rfl, HB4.out⟩)
set_option maxRecDepth 100000 in
set_option maxHeartbeats 8000000 in
theorem rform_all (name : ByteArray) (n pos : Int) (a : Option Addr) (cap : Nat) (x : Nd) (hx : RFmC x) (kx : x.okF = true) (h0 : 0 ≤ n) (h1 : n ≤ 99) (t : L8) (w : World) (hT : Nd.In w ⟨⟨#[97, 108, 108]⟩, name, n, pos, a, cap, .cons x.op x.name x.n x.pos x.a x.cap x.kids .nil⟩) (ht : t = ([40] ++ (⟨#[97, 108, 108]⟩ : ByteArray).data.toList ++ dgs n ++ [32] ++ name.data.toList ++ [58, 32]) ++ x.fx ++ [41]) (hlen : t.length ≤ 140737488351232) :
    Calls Tryd.prog 11 #[.agg #[.string ⟨#[97, 108, 108]⟩, .string name, .int .i64 n, .int .i64 pos, .slice a 1 cap]] w fun e w' => e = .returned (.string (mkS t)) ∧ Below w.heap.size w w' := by
  obtain ⟨b, o, rfl, hp, hxi⟩ := in_one hT
  have hbx := below_box w (boxOf ⟨#[97, 108, 108]⟩ name n pos (some ⟨b, o, none⟩) 1 cap)
  have hbd : Below w.heap.size w (w.alloc (boxOf ⟨#[97, 108, 108]⟩ name n pos (some ⟨b, o, none⟩) 1 cap)).drew := hbx.drew
  obtain ⟨p0, p1, p2, p3, p4⟩ := hp.below hbx
  have hl := hlen
  rw [ht] at hl
  simp only [List.length_append, List.length_cons, List.length_nil, sz_len name] at hl
  have hlx : x.fx.length ≤ 140737488351232 := by omega
  have hcx := fun W h => hx kx W h hlx
  rw [show x.val = _ from Nd.val_def x] at hcx
  have s1 : ¬ (9223372036854775807 < 4 + (mkS (dgs n)).size) := by simp only [← sz_len, mkS_list]; omega
  have s2 : ¬ (9223372036854775807 < 4 + (mkS (dgs n)).size + 1) := by simp only [← sz_len, mkS_list]; omega
  have s3 : ¬ (9223372036854775807 < 4 + (mkS (dgs n)).size + 1 + name.size) := by simp only [← sz_len (mkS _), mkS_list]; omega
  have s4 : ¬ (9223372036854775807 < 4 + (mkS (dgs n)).size + 1 + name.size + 2) := by simp only [← sz_len (mkS _), mkS_list]; omega
  have s5 : ¬ (9223372036854775807 < 4 + (mkS (dgs n)).size + 1 + name.size + 2 + (mkS x.fx).size) := by simp only [← sz_len (mkS _), mkS_list]; omega
  have s6 : ¬ (9223372036854775807 < 4 + (mkS (dgs n)).size + 1 + name.size + 2 + (mkS x.fx).size + 1) := by simp only [← sz_len (mkS _), mkS_list]; omega
  have HE := Lib.hid (show (⟨#[40]⟩ : ByteArray) ++ ⟨#[97, 108, 108]⟩ ++ mkS (dgs n) ++ ⟨#[32]⟩ ++ name ++ ⟨#[58, 32]⟩ ++ mkS x.fx ++ ⟨#[41]⟩ = mkS t from mkS_eq (by rw [ht]; simp only [app_list, mkS_list, List.append_assoc]))
  have HXI := Lib.hid hxi
  have HB1 := Lib.hid hbd
  have HD := Lib.hid (digits_any n (w.alloc (boxOf ⟨#[97, 108, 108]⟩ name n pos (some ⟨b, o, none⟩) 1 cap)).drew h0 h1)
  clear hp hxi hT ht hlen hlx hx hbx hbd hl
  have hc5 := cellsNode
  go_enter Tryd.func11, Tryd.ntmps11
  go_wp2_with fail
  have e0 : (w.alloc (boxOf ⟨#[97, 108, 108]⟩ name n pos (some ⟨b, o, none⟩) 1 cap)).cell? ⟨w.heap.size, 0, none⟩ = some (.string ⟨#[97, 108, 108]⟩) := (box_cells (new_at _ _)).1
  have e1 : (w.alloc (boxOf ⟨#[97, 108, 108]⟩ name n pos (some ⟨b, o, none⟩) 1 cap)).cell? ⟨w.heap.size, 1, none⟩ = some (.string name) := (box_cells (new_at _ _)).2.1
  have e2 : (w.alloc (boxOf ⟨#[97, 108, 108]⟩ name n pos (some ⟨b, o, none⟩) 1 cap)).cell? ⟨w.heap.size, 2, none⟩ = some (.int .i64 n) := (box_cells (new_at _ _)).2.2.1
  have e4 : (w.alloc (boxOf ⟨#[97, 108, 108]⟩ name n pos (some ⟨b, o, none⟩) 1 cap)).cell? ⟨w.heap.size, 4, none⟩ = some (.slice (some ⟨b, o, none⟩) 1 cap) := (box_cells (new_at _ _)).2.2.2.2
  go_region_held3 (fun wz => wz.cell? ⟨w.heap.size, 0, none⟩ = some (.string ⟨#[97, 108, 108]⟩) ∧ wz.cell? ⟨w.heap.size, 1, none⟩ = some (.string name) ∧ wz.cell? ⟨w.heap.size, 2, none⟩ = some (.int .i64 n) ∧ wz.cell? ⟨w.heap.size, 4, none⟩ = some (.slice (some ⟨b, o, none⟩) 1 cap) ∧ wz.cell? ⟨b, o, none⟩ = some (.string x.op) ∧ wz.cell? ⟨b, o + 1, none⟩ = some (.string x.name) ∧ wz.cell? ⟨b, o + 2, none⟩ = some (.int .i64 x.n) ∧ wz.cell? ⟨b, o + 3, none⟩ = some (.int .i64 x.pos) ∧ wz.cell? ⟨b, o + 4, none⟩ = some (.slice x.a x.kids.len x.cap)) (go_keep) (first | (go_at_call 27; refine HD.out.mono ?_; rintro e w2 ⟨rfl, hb2⟩; replace e0 := cell_below hb2 e0; replace e1 := cell_below hb2 e1; replace e2 := cell_below hb2 e2; replace e4 := cell_below hb2 e4; replace p0 := cell_below hb2 p0; replace p1 := cell_below hb2 p1; replace p2 := cell_below hb2 p2; replace p3 := cell_below hb2 p3; replace p4 := cell_below hb2 p4; have HB2 := Lib.hid (HB1.out.trans (hb2.mono HB1.out.size)); have HX := Lib.hid (hcx w2 (HXI.out.below (HB1.out.trans (hb2.mono HB1.out.size)))); clear hb2 HD HB1) | (go_at_call 11; refine HX.out.mono ?_; rintro e w3 ⟨rfl, hb2⟩; replace e0 := cell_below hb2 e0; replace e1 := cell_below hb2 e1; replace e2 := cell_below hb2 e2; replace e4 := cell_below hb2 e4; replace p0 := cell_below hb2 p0; replace p1 := cell_below hb2 p1; replace p2 := cell_below hb2 p2; replace p3 := cell_below hb2 p3; replace p4 := cell_below hb2 p4; have HB4 := Lib.hid (HB2.out.trans (hb2.mono HB2.out.size)); clear hb2 HX HB2))
  all_goals (go_wp2_with fail; go_ret; exact ⟨by rw [← HE.out]; rfl, HB4.out⟩)
set_option maxRecDepth 100000 in
set_option maxHeartbeats 8000000 in
theorem rform_call (name : ByteArray) (pos : Int) (a : Option Addr) (cap : Nat) (kids : Fo) (t : L8) (w : World) (hT : Nd.In w ⟨⟨#[99, 97, 108, 108]⟩, name, 0, pos, a, cap, kids⟩) (ho : kids.allB Nd.okT = true) (ht : t = (name.data.toList ++ [40]) ++ rowT true kids.tx ++ [41]) (hlen : t.length ≤ 140737488351232) :
    Calls Tryd.prog 11 #[.agg #[.string ⟨#[99, 97, 108, 108]⟩, .string name, .int .i64 0, .int .i64 pos, .slice a kids.len cap]] w fun e w' => e = .returned (.string (mkS t)) ∧ Below w.heap.size w w' := by
  obtain ⟨r, hr⟩ : ∃ r, r = rowT true kids.tx := ⟨_, rfl⟩
  rw [← hr] at ht
  have hl := hlen
  rw [ht] at hl
  simp only [List.length_append, List.length_cons, List.length_nil, sz_len name] at hl
  have s1 : ¬ (9223372036854775807 < name.size + 1) := by omega
  have s2 : ¬ (9223372036854775807 < name.size + 1 + (mkS r).size) := by simp only [← sz_len (mkS _), mkS_list]; omega
  have s3 : ¬ (9223372036854775807 < name.size + 1 + (mkS r).size + 1) := by simp only [← sz_len (mkS _), mkS_list]; omega
  have HE := Lib.hid (show name ++ ⟨#[40]⟩ ++ mkS r ++ ⟨#[41]⟩ = mkS t from mkS_eq (by rw [ht]; simp only [app_list, mkS_list]))
  have hc5 := cellsNode
  have hbx := below_box w (boxOf ⟨#[99, 97, 108, 108]⟩ name 0 pos a kids.len cap)
  have hbd : Below w.heap.size w (w.alloc (boxOf ⟨#[99, 97, 108, 108]⟩ name 0 pos a kids.len cap)).drew := hbx.drew
  have HC := Lib.hid (rrow_any ⟨⟨#[99, 97, 108, 108]⟩, name, 0, pos, a, cap, kids⟩ (Fo.all_of (fun T _ => rterm_any T) kids) ho r (w.alloc (boxOf ⟨#[99, 97, 108, 108]⟩ name 0 pos a kids.len cap)).drew (hT.below hbd) hr (by omega))
  have HB1 := Lib.hid hbd
  clear hT ho ht hlen hr hl hbx hbd
  go_enter Tryd.func11, Tryd.ntmps11
  go_wp2_with fail
  have e1 : (w.alloc (boxOf ⟨#[99, 97, 108, 108]⟩ name 0 pos a kids.len cap)).cell? ⟨w.heap.size, 1, none⟩ = some (.string name) := (box_cells (new_at _ _)).2.1
  have e4 : (w.alloc (boxOf ⟨#[99, 97, 108, 108]⟩ name 0 pos a kids.len cap)).cell? ⟨w.heap.size, 4, none⟩ = some (.slice a kids.len cap) := (box_cells (new_at _ _)).2.2.2.2
  go_region_held3 (fun wz => wz.cell? ⟨w.heap.size, 1, none⟩ = some (.string name) ∧ wz.cell? ⟨w.heap.size, 4, none⟩ = some (.slice a kids.len cap)) (go_keep) (first | (go_at_call 28; refine HC.out.mono ?_; rintro e w2 ⟨rfl, hb2⟩; replace e1 := cell_below hb2 e1; replace e4 := cell_below hb2 e4; have HB4 := Lib.hid (HB1.out.trans (hb2.mono HB1.out.size)); clear hb2 HC HB1))
  all_goals (go_wp2_with fail; go_ret; exact ⟨by rw [← HE.out]; rfl, HB4.out⟩)
set_option maxRecDepth 100000 in
set_option maxHeartbeats 8000000 in
theorem rform_and (pos : Int) (a : Option Addr) (cap : Nat) (x y : Nd) (hx : RFmC x) (hy : RFmC y) (kx : x.okF = true) (ky : y.okF = true) (t : L8) (w : World) (hT : (twoN ⟨#[97, 110, 100]⟩ pos a cap x y).In w) (ht : t = [40] ++ (x.fx ++ ([32] ++ opSign ⟨#[97, 110, 100]⟩ ++ [32]) ++ y.fx) ++ [41]) (hlen : t.length ≤ 140737488351232) :
    Calls Tryd.prog 11 #[.agg #[.string ⟨#[97, 110, 100]⟩, .string ⟨#[]⟩, .int .i64 0, .int .i64 pos, .slice a 2 cap]] w fun e w' => e = .returned (.string (mkS t)) ∧ Below w.heap.size w w' := by
  obtain ⟨b, o, rfl, hp, hq, hxi, hyi⟩ := in_two hT
  have hbx := below_box w (boxOf ⟨#[97, 110, 100]⟩ ⟨#[]⟩ 0 pos (some ⟨b, o, none⟩) 2 cap)
  have hbd : Below w.heap.size w (w.alloc (boxOf ⟨#[97, 110, 100]⟩ ⟨#[]⟩ 0 pos (some ⟨b, o, none⟩) 2 cap)).drew := hbx.drew
  obtain ⟨p0, p1, p2, p3, p4⟩ := hp.below hbx
  obtain ⟨q0, q1, q2, q3, q4⟩ := hq.below hbx
  simp only [Nat.add_assoc] at q1 q2 q3 q4
  have hlx : x.fx.length ≤ 140737488351232 := by rw [ht] at hlen; simp only [List.length_append] at hlen; omega
  have hly : y.fx.length ≤ 140737488351232 := by rw [ht] at hlen; simp only [List.length_append] at hlen; omega
  have hcx := hx kx (w.alloc (boxOf ⟨#[97, 110, 100]⟩ ⟨#[]⟩ 0 pos (some ⟨b, o, none⟩) 2 cap)).drew (hxi.below hbd) hlx
  have hcy := fun W h => hy ky W h hly
  rw [Nd.val_def] at hcx
  rw [show y.val = _ from Nd.val_def y] at hcy
  have s20 : ¬ (9223372036854775807 < 1 + (mkS x.fx).size) := by rw [ht] at hlen; simp only [← sz_len, mkS_list, List.length_append, List.length_cons, List.length_nil] at hlen ⊢; omega
  have s30 : ¬ (9223372036854775807 < 1 + (mkS x.fx).size + 1) := by rw [ht] at hlen; simp only [← sz_len, mkS_list, List.length_append, List.length_cons, List.length_nil] at hlen ⊢; omega
  have s40 : ¬ (9223372036854775807 < 1 + (mkS x.fx).size + 1 + (mkS (opSign ⟨#[97, 110, 100]⟩)).size) := by rw [ht] at hlen; simp only [← sz_len, mkS_list, List.length_append, List.length_cons, List.length_nil] at hlen ⊢; omega
  have s50 : ¬ (9223372036854775807 < 1 + (mkS x.fx).size + 1 + (mkS (opSign ⟨#[97, 110, 100]⟩)).size + 1) := by rw [ht] at hlen; simp only [← sz_len, mkS_list, List.length_append, List.length_cons, List.length_nil] at hlen ⊢; omega
  have s60 : ¬ (9223372036854775807 < 1 + (mkS x.fx).size + 1 + (mkS (opSign ⟨#[97, 110, 100]⟩)).size + 1 + (mkS y.fx).size) := by rw [ht] at hlen; simp only [← sz_len, mkS_list, List.length_append, List.length_cons, List.length_nil] at hlen ⊢; omega
  have s70 : ¬ (9223372036854775807 < 1 + (mkS x.fx).size + 1 + (mkS (opSign ⟨#[97, 110, 100]⟩)).size + 1 + (mkS y.fx).size + 1) := by rw [ht] at hlen; simp only [← sz_len, mkS_list, List.length_append, List.length_cons, List.length_nil] at hlen ⊢; omega
  have HE := Lib.hid (show (((((((⟨#[40]⟩ : ByteArray) ++ (mkS x.fx : ByteArray)) ++ (⟨#[32]⟩ : ByteArray)) ++ (mkS (opSign ⟨#[97, 110, 100]⟩) : ByteArray)) ++ (⟨#[32]⟩ : ByteArray)) ++ (mkS y.fx : ByteArray)) ++ (⟨#[41]⟩ : ByteArray)) = mkS t from mkS_eq (by rw [ht]; simp only [app_list, mkS_list, List.append_assoc]; try rfl))
  have HX := Lib.hid hcx
  have HYI := Lib.hid hyi
  have HB1 := Lib.hid hbd
  have HBD := Lib.hid hbd
  clear hp hq hcx hxi hyi hT ht hlen hlx hly hx hy hbx hbd
  have hc5 := cellsNode
  go_enter Tryd.func11, Tryd.ntmps11
  go_wp2_with fail
  have e0 : (w.alloc (boxOf ⟨#[97, 110, 100]⟩ ⟨#[]⟩ 0 pos (some ⟨b, o, none⟩) 2 cap)).cell? ⟨w.heap.size, 0, none⟩ = some (.string ⟨#[97, 110, 100]⟩) := (box_cells (new_at _ _)).1
  have e4 : (w.alloc (boxOf ⟨#[97, 110, 100]⟩ ⟨#[]⟩ 0 pos (some ⟨b, o, none⟩) 2 cap)).cell? ⟨w.heap.size, 4, none⟩ = some (.slice (some ⟨b, o, none⟩) 2 cap) := (box_cells (new_at _ _)).2.2.2.2
  go_region_held3 (fun wz => wz.cell? ⟨w.heap.size, 0, none⟩ = some (.string ⟨#[97, 110, 100]⟩) ∧ wz.cell? ⟨w.heap.size, 4, none⟩ = some (.slice (some ⟨b, o, none⟩) 2 cap) ∧ wz.cell? ⟨b, o, none⟩ = some (.string x.op) ∧ wz.cell? ⟨b, o + 1, none⟩ = some (.string x.name) ∧ wz.cell? ⟨b, o + 2, none⟩ = some (.int .i64 x.n) ∧ wz.cell? ⟨b, o + 3, none⟩ = some (.int .i64 x.pos) ∧ wz.cell? ⟨b, o + 4, none⟩ = some (.slice x.a x.kids.len x.cap) ∧ wz.cell? ⟨b, o + 5, none⟩ = some (.string y.op) ∧ wz.cell? ⟨b, o + 6, none⟩ = some (.string y.name) ∧ wz.cell? ⟨b, o + 7, none⟩ = some (.int .i64 y.n) ∧ wz.cell? ⟨b, o + 8, none⟩ = some (.int .i64 y.pos) ∧ wz.cell? ⟨b, o + 9, none⟩ = some (.slice y.a y.kids.len y.cap)) (go_keep) (first | (go_at_call 11; refine HX.out.mono ?_; rintro e w2 ⟨rfl, hb2⟩; replace e0 := cell_below hb2 e0; replace e4 := cell_below hb2 e4; replace p0 := cell_below hb2 p0; replace p1 := cell_below hb2 p1; replace p2 := cell_below hb2 p2; replace p3 := cell_below hb2 p3; replace p4 := cell_below hb2 p4; replace q0 := cell_below hb2 q0; replace q1 := cell_below hb2 q1; replace q2 := cell_below hb2 q2; replace q3 := cell_below hb2 q3; replace q4 := cell_below hb2 q4; have HB2 := Lib.hid (HB1.out.trans (hb2.mono HB1.out.size)); have HG := Lib.hid (rsgn_mk ⟨#[97, 110, 100]⟩ (by simp [opF2, opFr, Lib.toList_data]) w2); have HBE := Lib.hid (HBD.out.trans (hb2.mono HBD.out.size)); clear hb2 HX HB1 HBD) | (go_at_call 29; refine HG.out.mono ?_; rintro e w3 ⟨rfl, hb2⟩; replace e0 := cell_below hb2 e0; replace e4 := cell_below hb2 e4; replace p0 := cell_below hb2 p0; replace p1 := cell_below hb2 p1; replace p2 := cell_below hb2 p2; replace p3 := cell_below hb2 p3; replace p4 := cell_below hb2 p4; replace q0 := cell_below hb2 q0; replace q1 := cell_below hb2 q1; replace q2 := cell_below hb2 q2; replace q3 := cell_below hb2 q3; replace q4 := cell_below hb2 q4; have HB3 := Lib.hid (HB2.out.trans (hb2.mono HB2.out.size)); have HY := Lib.hid (hcy w3 (HYI.out.below (HBE.out.trans (hb2.mono HBE.out.size)))); have HBF := Lib.hid (HBE.out.trans (hb2.mono HBE.out.size)); clear hb2 HG HB2 HBE) | (go_at_call 11; refine HY.out.mono ?_; rintro e w4 ⟨rfl, hb2⟩; replace e0 := cell_below hb2 e0; replace e4 := cell_below hb2 e4; replace p0 := cell_below hb2 p0; replace p1 := cell_below hb2 p1; replace p2 := cell_below hb2 p2; replace p3 := cell_below hb2 p3; replace p4 := cell_below hb2 p4; replace q0 := cell_below hb2 q0; replace q1 := cell_below hb2 q1; replace q2 := cell_below hb2 q2; replace q3 := cell_below hb2 q3; replace q4 := cell_below hb2 q4; have HB4 := Lib.hid (HB3.out.trans (hb2.mono HB3.out.size)); clear hb2 HY HB3))
  all_goals (go_wp2_with fail; go_ret; exact ⟨by rw [← HE.out]; rfl, HB4.out⟩)
set_option maxRecDepth 100000 in
set_option maxHeartbeats 8000000 in
theorem rform_or (pos : Int) (a : Option Addr) (cap : Nat) (x y : Nd) (hx : RFmC x) (hy : RFmC y) (kx : x.okF = true) (ky : y.okF = true) (t : L8) (w : World) (hT : (twoN ⟨#[111, 114]⟩ pos a cap x y).In w) (ht : t = [40] ++ (x.fx ++ ([32] ++ opSign ⟨#[111, 114]⟩ ++ [32]) ++ y.fx) ++ [41]) (hlen : t.length ≤ 140737488351232) :
    Calls Tryd.prog 11 #[.agg #[.string ⟨#[111, 114]⟩, .string ⟨#[]⟩, .int .i64 0, .int .i64 pos, .slice a 2 cap]] w fun e w' => e = .returned (.string (mkS t)) ∧ Below w.heap.size w w' := by
  obtain ⟨b, o, rfl, hp, hq, hxi, hyi⟩ := in_two hT
  have hbx := below_box w (boxOf ⟨#[111, 114]⟩ ⟨#[]⟩ 0 pos (some ⟨b, o, none⟩) 2 cap)
  have hbd : Below w.heap.size w (w.alloc (boxOf ⟨#[111, 114]⟩ ⟨#[]⟩ 0 pos (some ⟨b, o, none⟩) 2 cap)).drew := hbx.drew
  obtain ⟨p0, p1, p2, p3, p4⟩ := hp.below hbx
  obtain ⟨q0, q1, q2, q3, q4⟩ := hq.below hbx
  simp only [Nat.add_assoc] at q1 q2 q3 q4
  have hlx : x.fx.length ≤ 140737488351232 := by rw [ht] at hlen; simp only [List.length_append] at hlen; omega
  have hly : y.fx.length ≤ 140737488351232 := by rw [ht] at hlen; simp only [List.length_append] at hlen; omega
  have hcx := hx kx (w.alloc (boxOf ⟨#[111, 114]⟩ ⟨#[]⟩ 0 pos (some ⟨b, o, none⟩) 2 cap)).drew (hxi.below hbd) hlx
  have hcy := fun W h => hy ky W h hly
  rw [Nd.val_def] at hcx
  rw [show y.val = _ from Nd.val_def y] at hcy
  have s20 : ¬ (9223372036854775807 < 1 + (mkS x.fx).size) := by rw [ht] at hlen; simp only [← sz_len, mkS_list, List.length_append, List.length_cons, List.length_nil] at hlen ⊢; omega
  have s30 : ¬ (9223372036854775807 < 1 + (mkS x.fx).size + 1) := by rw [ht] at hlen; simp only [← sz_len, mkS_list, List.length_append, List.length_cons, List.length_nil] at hlen ⊢; omega
  have s40 : ¬ (9223372036854775807 < 1 + (mkS x.fx).size + 1 + (mkS (opSign ⟨#[111, 114]⟩)).size) := by rw [ht] at hlen; simp only [← sz_len, mkS_list, List.length_append, List.length_cons, List.length_nil] at hlen ⊢; omega
  have s50 : ¬ (9223372036854775807 < 1 + (mkS x.fx).size + 1 + (mkS (opSign ⟨#[111, 114]⟩)).size + 1) := by rw [ht] at hlen; simp only [← sz_len, mkS_list, List.length_append, List.length_cons, List.length_nil] at hlen ⊢; omega
  have s60 : ¬ (9223372036854775807 < 1 + (mkS x.fx).size + 1 + (mkS (opSign ⟨#[111, 114]⟩)).size + 1 + (mkS y.fx).size) := by rw [ht] at hlen; simp only [← sz_len, mkS_list, List.length_append, List.length_cons, List.length_nil] at hlen ⊢; omega
  have s70 : ¬ (9223372036854775807 < 1 + (mkS x.fx).size + 1 + (mkS (opSign ⟨#[111, 114]⟩)).size + 1 + (mkS y.fx).size + 1) := by rw [ht] at hlen; simp only [← sz_len, mkS_list, List.length_append, List.length_cons, List.length_nil] at hlen ⊢; omega
  have HE := Lib.hid (show (((((((⟨#[40]⟩ : ByteArray) ++ (mkS x.fx : ByteArray)) ++ (⟨#[32]⟩ : ByteArray)) ++ (mkS (opSign ⟨#[111, 114]⟩) : ByteArray)) ++ (⟨#[32]⟩ : ByteArray)) ++ (mkS y.fx : ByteArray)) ++ (⟨#[41]⟩ : ByteArray)) = mkS t from mkS_eq (by rw [ht]; simp only [app_list, mkS_list, List.append_assoc]; try rfl))
  have HX := Lib.hid hcx
  have HYI := Lib.hid hyi
  have HB1 := Lib.hid hbd
  have HBD := Lib.hid hbd
  clear hp hq hcx hxi hyi hT ht hlen hlx hly hx hy hbx hbd
  have hc5 := cellsNode
  go_enter Tryd.func11, Tryd.ntmps11
  go_wp2_with fail
  have e0 : (w.alloc (boxOf ⟨#[111, 114]⟩ ⟨#[]⟩ 0 pos (some ⟨b, o, none⟩) 2 cap)).cell? ⟨w.heap.size, 0, none⟩ = some (.string ⟨#[111, 114]⟩) := (box_cells (new_at _ _)).1
  have e4 : (w.alloc (boxOf ⟨#[111, 114]⟩ ⟨#[]⟩ 0 pos (some ⟨b, o, none⟩) 2 cap)).cell? ⟨w.heap.size, 4, none⟩ = some (.slice (some ⟨b, o, none⟩) 2 cap) := (box_cells (new_at _ _)).2.2.2.2
  go_region_held3 (fun wz => wz.cell? ⟨w.heap.size, 0, none⟩ = some (.string ⟨#[111, 114]⟩) ∧ wz.cell? ⟨w.heap.size, 4, none⟩ = some (.slice (some ⟨b, o, none⟩) 2 cap) ∧ wz.cell? ⟨b, o, none⟩ = some (.string x.op) ∧ wz.cell? ⟨b, o + 1, none⟩ = some (.string x.name) ∧ wz.cell? ⟨b, o + 2, none⟩ = some (.int .i64 x.n) ∧ wz.cell? ⟨b, o + 3, none⟩ = some (.int .i64 x.pos) ∧ wz.cell? ⟨b, o + 4, none⟩ = some (.slice x.a x.kids.len x.cap) ∧ wz.cell? ⟨b, o + 5, none⟩ = some (.string y.op) ∧ wz.cell? ⟨b, o + 6, none⟩ = some (.string y.name) ∧ wz.cell? ⟨b, o + 7, none⟩ = some (.int .i64 y.n) ∧ wz.cell? ⟨b, o + 8, none⟩ = some (.int .i64 y.pos) ∧ wz.cell? ⟨b, o + 9, none⟩ = some (.slice y.a y.kids.len y.cap)) (go_keep) (first | (go_at_call 11; refine HX.out.mono ?_; rintro e w2 ⟨rfl, hb2⟩; replace e0 := cell_below hb2 e0; replace e4 := cell_below hb2 e4; replace p0 := cell_below hb2 p0; replace p1 := cell_below hb2 p1; replace p2 := cell_below hb2 p2; replace p3 := cell_below hb2 p3; replace p4 := cell_below hb2 p4; replace q0 := cell_below hb2 q0; replace q1 := cell_below hb2 q1; replace q2 := cell_below hb2 q2; replace q3 := cell_below hb2 q3; replace q4 := cell_below hb2 q4; have HB2 := Lib.hid (HB1.out.trans (hb2.mono HB1.out.size)); have HG := Lib.hid (rsgn_mk ⟨#[111, 114]⟩ (by simp [opF2, opFr, Lib.toList_data]) w2); have HBE := Lib.hid (HBD.out.trans (hb2.mono HBD.out.size)); clear hb2 HX HB1 HBD) | (go_at_call 29; refine HG.out.mono ?_; rintro e w3 ⟨rfl, hb2⟩; replace e0 := cell_below hb2 e0; replace e4 := cell_below hb2 e4; replace p0 := cell_below hb2 p0; replace p1 := cell_below hb2 p1; replace p2 := cell_below hb2 p2; replace p3 := cell_below hb2 p3; replace p4 := cell_below hb2 p4; replace q0 := cell_below hb2 q0; replace q1 := cell_below hb2 q1; replace q2 := cell_below hb2 q2; replace q3 := cell_below hb2 q3; replace q4 := cell_below hb2 q4; have HB3 := Lib.hid (HB2.out.trans (hb2.mono HB2.out.size)); have HY := Lib.hid (hcy w3 (HYI.out.below (HBE.out.trans (hb2.mono HBE.out.size)))); have HBF := Lib.hid (HBE.out.trans (hb2.mono HBE.out.size)); clear hb2 HG HB2 HBE) | (go_at_call 11; refine HY.out.mono ?_; rintro e w4 ⟨rfl, hb2⟩; replace e0 := cell_below hb2 e0; replace e4 := cell_below hb2 e4; replace p0 := cell_below hb2 p0; replace p1 := cell_below hb2 p1; replace p2 := cell_below hb2 p2; replace p3 := cell_below hb2 p3; replace p4 := cell_below hb2 p4; replace q0 := cell_below hb2 q0; replace q1 := cell_below hb2 q1; replace q2 := cell_below hb2 q2; replace q3 := cell_below hb2 q3; replace q4 := cell_below hb2 q4; have HB4 := Lib.hid (HB3.out.trans (hb2.mono HB3.out.size)); clear hb2 HY HB3))
  all_goals (go_wp2_with fail; go_ret; exact ⟨by rw [← HE.out]; rfl, HB4.out⟩)
set_option maxRecDepth 100000 in
set_option maxHeartbeats 8000000 in
theorem rform_imp (pos : Int) (a : Option Addr) (cap : Nat) (x y : Nd) (hx : RFmC x) (hy : RFmC y) (kx : x.okF = true) (ky : y.okF = true) (t : L8) (w : World) (hT : (twoN ⟨#[105, 109, 112]⟩ pos a cap x y).In w) (ht : t = [40] ++ (x.fx ++ ([32] ++ opSign ⟨#[105, 109, 112]⟩ ++ [32]) ++ y.fx) ++ [41]) (hlen : t.length ≤ 140737488351232) :
    Calls Tryd.prog 11 #[.agg #[.string ⟨#[105, 109, 112]⟩, .string ⟨#[]⟩, .int .i64 0, .int .i64 pos, .slice a 2 cap]] w fun e w' => e = .returned (.string (mkS t)) ∧ Below w.heap.size w w' := by
  obtain ⟨b, o, rfl, hp, hq, hxi, hyi⟩ := in_two hT
  have hbx := below_box w (boxOf ⟨#[105, 109, 112]⟩ ⟨#[]⟩ 0 pos (some ⟨b, o, none⟩) 2 cap)
  have hbd : Below w.heap.size w (w.alloc (boxOf ⟨#[105, 109, 112]⟩ ⟨#[]⟩ 0 pos (some ⟨b, o, none⟩) 2 cap)).drew := hbx.drew
  obtain ⟨p0, p1, p2, p3, p4⟩ := hp.below hbx
  obtain ⟨q0, q1, q2, q3, q4⟩ := hq.below hbx
  simp only [Nat.add_assoc] at q1 q2 q3 q4
  have hlx : x.fx.length ≤ 140737488351232 := by rw [ht] at hlen; simp only [List.length_append] at hlen; omega
  have hly : y.fx.length ≤ 140737488351232 := by rw [ht] at hlen; simp only [List.length_append] at hlen; omega
  have hcx := hx kx (w.alloc (boxOf ⟨#[105, 109, 112]⟩ ⟨#[]⟩ 0 pos (some ⟨b, o, none⟩) 2 cap)).drew (hxi.below hbd) hlx
  have hcy := fun W h => hy ky W h hly
  rw [Nd.val_def] at hcx
  rw [show y.val = _ from Nd.val_def y] at hcy
  have s20 : ¬ (9223372036854775807 < 1 + (mkS x.fx).size) := by rw [ht] at hlen; simp only [← sz_len, mkS_list, List.length_append, List.length_cons, List.length_nil] at hlen ⊢; omega
  have s30 : ¬ (9223372036854775807 < 1 + (mkS x.fx).size + 1) := by rw [ht] at hlen; simp only [← sz_len, mkS_list, List.length_append, List.length_cons, List.length_nil] at hlen ⊢; omega
  have s40 : ¬ (9223372036854775807 < 1 + (mkS x.fx).size + 1 + (mkS (opSign ⟨#[105, 109, 112]⟩)).size) := by rw [ht] at hlen; simp only [← sz_len, mkS_list, List.length_append, List.length_cons, List.length_nil] at hlen ⊢; omega
  have s50 : ¬ (9223372036854775807 < 1 + (mkS x.fx).size + 1 + (mkS (opSign ⟨#[105, 109, 112]⟩)).size + 1) := by rw [ht] at hlen; simp only [← sz_len, mkS_list, List.length_append, List.length_cons, List.length_nil] at hlen ⊢; omega
  have s60 : ¬ (9223372036854775807 < 1 + (mkS x.fx).size + 1 + (mkS (opSign ⟨#[105, 109, 112]⟩)).size + 1 + (mkS y.fx).size) := by rw [ht] at hlen; simp only [← sz_len, mkS_list, List.length_append, List.length_cons, List.length_nil] at hlen ⊢; omega
  have s70 : ¬ (9223372036854775807 < 1 + (mkS x.fx).size + 1 + (mkS (opSign ⟨#[105, 109, 112]⟩)).size + 1 + (mkS y.fx).size + 1) := by rw [ht] at hlen; simp only [← sz_len, mkS_list, List.length_append, List.length_cons, List.length_nil] at hlen ⊢; omega
  have HE := Lib.hid (show (((((((⟨#[40]⟩ : ByteArray) ++ (mkS x.fx : ByteArray)) ++ (⟨#[32]⟩ : ByteArray)) ++ (mkS (opSign ⟨#[105, 109, 112]⟩) : ByteArray)) ++ (⟨#[32]⟩ : ByteArray)) ++ (mkS y.fx : ByteArray)) ++ (⟨#[41]⟩ : ByteArray)) = mkS t from mkS_eq (by rw [ht]; simp only [app_list, mkS_list, List.append_assoc]; try rfl))
  have HX := Lib.hid hcx
  have HYI := Lib.hid hyi
  have HB1 := Lib.hid hbd
  have HBD := Lib.hid hbd
  clear hp hq hcx hxi hyi hT ht hlen hlx hly hx hy hbx hbd
  have hc5 := cellsNode
  go_enter Tryd.func11, Tryd.ntmps11
  go_wp2_with fail
  have e0 : (w.alloc (boxOf ⟨#[105, 109, 112]⟩ ⟨#[]⟩ 0 pos (some ⟨b, o, none⟩) 2 cap)).cell? ⟨w.heap.size, 0, none⟩ = some (.string ⟨#[105, 109, 112]⟩) := (box_cells (new_at _ _)).1
  have e4 : (w.alloc (boxOf ⟨#[105, 109, 112]⟩ ⟨#[]⟩ 0 pos (some ⟨b, o, none⟩) 2 cap)).cell? ⟨w.heap.size, 4, none⟩ = some (.slice (some ⟨b, o, none⟩) 2 cap) := (box_cells (new_at _ _)).2.2.2.2
  go_region_held3 (fun wz => wz.cell? ⟨w.heap.size, 0, none⟩ = some (.string ⟨#[105, 109, 112]⟩) ∧ wz.cell? ⟨w.heap.size, 4, none⟩ = some (.slice (some ⟨b, o, none⟩) 2 cap) ∧ wz.cell? ⟨b, o, none⟩ = some (.string x.op) ∧ wz.cell? ⟨b, o + 1, none⟩ = some (.string x.name) ∧ wz.cell? ⟨b, o + 2, none⟩ = some (.int .i64 x.n) ∧ wz.cell? ⟨b, o + 3, none⟩ = some (.int .i64 x.pos) ∧ wz.cell? ⟨b, o + 4, none⟩ = some (.slice x.a x.kids.len x.cap) ∧ wz.cell? ⟨b, o + 5, none⟩ = some (.string y.op) ∧ wz.cell? ⟨b, o + 6, none⟩ = some (.string y.name) ∧ wz.cell? ⟨b, o + 7, none⟩ = some (.int .i64 y.n) ∧ wz.cell? ⟨b, o + 8, none⟩ = some (.int .i64 y.pos) ∧ wz.cell? ⟨b, o + 9, none⟩ = some (.slice y.a y.kids.len y.cap)) (go_keep) (first | (go_at_call 11; refine HX.out.mono ?_; rintro e w2 ⟨rfl, hb2⟩; replace e0 := cell_below hb2 e0; replace e4 := cell_below hb2 e4; replace p0 := cell_below hb2 p0; replace p1 := cell_below hb2 p1; replace p2 := cell_below hb2 p2; replace p3 := cell_below hb2 p3; replace p4 := cell_below hb2 p4; replace q0 := cell_below hb2 q0; replace q1 := cell_below hb2 q1; replace q2 := cell_below hb2 q2; replace q3 := cell_below hb2 q3; replace q4 := cell_below hb2 q4; have HB2 := Lib.hid (HB1.out.trans (hb2.mono HB1.out.size)); have HG := Lib.hid (rsgn_mk ⟨#[105, 109, 112]⟩ (by simp [opF2, opFr, Lib.toList_data]) w2); have HBE := Lib.hid (HBD.out.trans (hb2.mono HBD.out.size)); clear hb2 HX HB1 HBD) | (go_at_call 29; refine HG.out.mono ?_; rintro e w3 ⟨rfl, hb2⟩; replace e0 := cell_below hb2 e0; replace e4 := cell_below hb2 e4; replace p0 := cell_below hb2 p0; replace p1 := cell_below hb2 p1; replace p2 := cell_below hb2 p2; replace p3 := cell_below hb2 p3; replace p4 := cell_below hb2 p4; replace q0 := cell_below hb2 q0; replace q1 := cell_below hb2 q1; replace q2 := cell_below hb2 q2; replace q3 := cell_below hb2 q3; replace q4 := cell_below hb2 q4; have HB3 := Lib.hid (HB2.out.trans (hb2.mono HB2.out.size)); have HY := Lib.hid (hcy w3 (HYI.out.below (HBE.out.trans (hb2.mono HBE.out.size)))); have HBF := Lib.hid (HBE.out.trans (hb2.mono HBE.out.size)); clear hb2 HG HB2 HBE) | (go_at_call 11; refine HY.out.mono ?_; rintro e w4 ⟨rfl, hb2⟩; replace e0 := cell_below hb2 e0; replace e4 := cell_below hb2 e4; replace p0 := cell_below hb2 p0; replace p1 := cell_below hb2 p1; replace p2 := cell_below hb2 p2; replace p3 := cell_below hb2 p3; replace p4 := cell_below hb2 p4; replace q0 := cell_below hb2 q0; replace q1 := cell_below hb2 q1; replace q2 := cell_below hb2 q2; replace q3 := cell_below hb2 q3; replace q4 := cell_below hb2 q4; have HB4 := Lib.hid (HB3.out.trans (hb2.mono HB3.out.size)); clear hb2 HY HB3))
  all_goals (go_wp2_with fail; go_ret; exact ⟨by rw [← HE.out]; rfl, HB4.out⟩)
set_option maxRecDepth 100000 in
set_option maxHeartbeats 8000000 in
theorem rform_iff (pos : Int) (a : Option Addr) (cap : Nat) (x y : Nd) (hx : RFmC x) (hy : RFmC y) (kx : x.okF = true) (ky : y.okF = true) (t : L8) (w : World) (hT : (twoN ⟨#[105, 102, 102]⟩ pos a cap x y).In w) (ht : t = [40] ++ (x.fx ++ ([32] ++ opSign ⟨#[105, 102, 102]⟩ ++ [32]) ++ y.fx) ++ [41]) (hlen : t.length ≤ 140737488351232) :
    Calls Tryd.prog 11 #[.agg #[.string ⟨#[105, 102, 102]⟩, .string ⟨#[]⟩, .int .i64 0, .int .i64 pos, .slice a 2 cap]] w fun e w' => e = .returned (.string (mkS t)) ∧ Below w.heap.size w w' := by
  obtain ⟨b, o, rfl, hp, hq, hxi, hyi⟩ := in_two hT
  have hbx := below_box w (boxOf ⟨#[105, 102, 102]⟩ ⟨#[]⟩ 0 pos (some ⟨b, o, none⟩) 2 cap)
  have hbd : Below w.heap.size w (w.alloc (boxOf ⟨#[105, 102, 102]⟩ ⟨#[]⟩ 0 pos (some ⟨b, o, none⟩) 2 cap)).drew := hbx.drew
  obtain ⟨p0, p1, p2, p3, p4⟩ := hp.below hbx
  obtain ⟨q0, q1, q2, q3, q4⟩ := hq.below hbx
  simp only [Nat.add_assoc] at q1 q2 q3 q4
  have hlx : x.fx.length ≤ 140737488351232 := by rw [ht] at hlen; simp only [List.length_append] at hlen; omega
  have hly : y.fx.length ≤ 140737488351232 := by rw [ht] at hlen; simp only [List.length_append] at hlen; omega
  have hcx := hx kx (w.alloc (boxOf ⟨#[105, 102, 102]⟩ ⟨#[]⟩ 0 pos (some ⟨b, o, none⟩) 2 cap)).drew (hxi.below hbd) hlx
  have hcy := fun W h => hy ky W h hly
  rw [Nd.val_def] at hcx
  rw [show y.val = _ from Nd.val_def y] at hcy
  have s20 : ¬ (9223372036854775807 < 1 + (mkS x.fx).size) := by rw [ht] at hlen; simp only [← sz_len, mkS_list, List.length_append, List.length_cons, List.length_nil] at hlen ⊢; omega
  have s30 : ¬ (9223372036854775807 < 1 + (mkS x.fx).size + 1) := by rw [ht] at hlen; simp only [← sz_len, mkS_list, List.length_append, List.length_cons, List.length_nil] at hlen ⊢; omega
  have s40 : ¬ (9223372036854775807 < 1 + (mkS x.fx).size + 1 + (mkS (opSign ⟨#[105, 102, 102]⟩)).size) := by rw [ht] at hlen; simp only [← sz_len, mkS_list, List.length_append, List.length_cons, List.length_nil] at hlen ⊢; omega
  have s50 : ¬ (9223372036854775807 < 1 + (mkS x.fx).size + 1 + (mkS (opSign ⟨#[105, 102, 102]⟩)).size + 1) := by rw [ht] at hlen; simp only [← sz_len, mkS_list, List.length_append, List.length_cons, List.length_nil] at hlen ⊢; omega
  have s60 : ¬ (9223372036854775807 < 1 + (mkS x.fx).size + 1 + (mkS (opSign ⟨#[105, 102, 102]⟩)).size + 1 + (mkS y.fx).size) := by rw [ht] at hlen; simp only [← sz_len, mkS_list, List.length_append, List.length_cons, List.length_nil] at hlen ⊢; omega
  have s70 : ¬ (9223372036854775807 < 1 + (mkS x.fx).size + 1 + (mkS (opSign ⟨#[105, 102, 102]⟩)).size + 1 + (mkS y.fx).size + 1) := by rw [ht] at hlen; simp only [← sz_len, mkS_list, List.length_append, List.length_cons, List.length_nil] at hlen ⊢; omega
  have HE := Lib.hid (show (((((((⟨#[40]⟩ : ByteArray) ++ (mkS x.fx : ByteArray)) ++ (⟨#[32]⟩ : ByteArray)) ++ (mkS (opSign ⟨#[105, 102, 102]⟩) : ByteArray)) ++ (⟨#[32]⟩ : ByteArray)) ++ (mkS y.fx : ByteArray)) ++ (⟨#[41]⟩ : ByteArray)) = mkS t from mkS_eq (by rw [ht]; simp only [app_list, mkS_list, List.append_assoc]; try rfl))
  have HX := Lib.hid hcx
  have HYI := Lib.hid hyi
  have HB1 := Lib.hid hbd
  have HBD := Lib.hid hbd
  clear hp hq hcx hxi hyi hT ht hlen hlx hly hx hy hbx hbd
  have hc5 := cellsNode
  go_enter Tryd.func11, Tryd.ntmps11
  go_wp2_with fail
  have e0 : (w.alloc (boxOf ⟨#[105, 102, 102]⟩ ⟨#[]⟩ 0 pos (some ⟨b, o, none⟩) 2 cap)).cell? ⟨w.heap.size, 0, none⟩ = some (.string ⟨#[105, 102, 102]⟩) := (box_cells (new_at _ _)).1
  have e4 : (w.alloc (boxOf ⟨#[105, 102, 102]⟩ ⟨#[]⟩ 0 pos (some ⟨b, o, none⟩) 2 cap)).cell? ⟨w.heap.size, 4, none⟩ = some (.slice (some ⟨b, o, none⟩) 2 cap) := (box_cells (new_at _ _)).2.2.2.2
  go_region_held3 (fun wz => wz.cell? ⟨w.heap.size, 0, none⟩ = some (.string ⟨#[105, 102, 102]⟩) ∧ wz.cell? ⟨w.heap.size, 4, none⟩ = some (.slice (some ⟨b, o, none⟩) 2 cap) ∧ wz.cell? ⟨b, o, none⟩ = some (.string x.op) ∧ wz.cell? ⟨b, o + 1, none⟩ = some (.string x.name) ∧ wz.cell? ⟨b, o + 2, none⟩ = some (.int .i64 x.n) ∧ wz.cell? ⟨b, o + 3, none⟩ = some (.int .i64 x.pos) ∧ wz.cell? ⟨b, o + 4, none⟩ = some (.slice x.a x.kids.len x.cap) ∧ wz.cell? ⟨b, o + 5, none⟩ = some (.string y.op) ∧ wz.cell? ⟨b, o + 6, none⟩ = some (.string y.name) ∧ wz.cell? ⟨b, o + 7, none⟩ = some (.int .i64 y.n) ∧ wz.cell? ⟨b, o + 8, none⟩ = some (.int .i64 y.pos) ∧ wz.cell? ⟨b, o + 9, none⟩ = some (.slice y.a y.kids.len y.cap)) (go_keep) (first | (go_at_call 11; refine HX.out.mono ?_; rintro e w2 ⟨rfl, hb2⟩; replace e0 := cell_below hb2 e0; replace e4 := cell_below hb2 e4; replace p0 := cell_below hb2 p0; replace p1 := cell_below hb2 p1; replace p2 := cell_below hb2 p2; replace p3 := cell_below hb2 p3; replace p4 := cell_below hb2 p4; replace q0 := cell_below hb2 q0; replace q1 := cell_below hb2 q1; replace q2 := cell_below hb2 q2; replace q3 := cell_below hb2 q3; replace q4 := cell_below hb2 q4; have HB2 := Lib.hid (HB1.out.trans (hb2.mono HB1.out.size)); have HG := Lib.hid (rsgn_mk ⟨#[105, 102, 102]⟩ (by simp [opF2, opFr, Lib.toList_data]) w2); have HBE := Lib.hid (HBD.out.trans (hb2.mono HBD.out.size)); clear hb2 HX HB1 HBD) | (go_at_call 29; refine HG.out.mono ?_; rintro e w3 ⟨rfl, hb2⟩; replace e0 := cell_below hb2 e0; replace e4 := cell_below hb2 e4; replace p0 := cell_below hb2 p0; replace p1 := cell_below hb2 p1; replace p2 := cell_below hb2 p2; replace p3 := cell_below hb2 p3; replace p4 := cell_below hb2 p4; replace q0 := cell_below hb2 q0; replace q1 := cell_below hb2 q1; replace q2 := cell_below hb2 q2; replace q3 := cell_below hb2 q3; replace q4 := cell_below hb2 q4; have HB3 := Lib.hid (HB2.out.trans (hb2.mono HB2.out.size)); have HY := Lib.hid (hcy w3 (HYI.out.below (HBE.out.trans (hb2.mono HBE.out.size)))); have HBF := Lib.hid (HBE.out.trans (hb2.mono HBE.out.size)); clear hb2 HG HB2 HBE) | (go_at_call 11; refine HY.out.mono ?_; rintro e w4 ⟨rfl, hb2⟩; replace e0 := cell_below hb2 e0; replace e4 := cell_below hb2 e4; replace p0 := cell_below hb2 p0; replace p1 := cell_below hb2 p1; replace p2 := cell_below hb2 p2; replace p3 := cell_below hb2 p3; replace p4 := cell_below hb2 p4; replace q0 := cell_below hb2 q0; replace q1 := cell_below hb2 q1; replace q2 := cell_below hb2 q2; replace q3 := cell_below hb2 q3; replace q4 := cell_below hb2 q4; have HB4 := Lib.hid (HB3.out.trans (hb2.mono HB3.out.size)); clear hb2 HY HB3))
  all_goals (go_wp2_with fail; go_ret; exact ⟨by rw [← HE.out]; rfl, HB4.out⟩)
end Go.Proofs.YtamihfgkpilfiaaDoor
