/- What is known of show. -/
import Derived.Test.YtamihfgkpilfiaaDoorSfA
import Derived.Test.YtamihfgkpilfiaaDoorShG
import Derived.Test.YtamihfgkpilfiaaDoorLexA
import Derived.Test.YtamihfgkpilfiaaDoorRows
import Derived.WalkKit
import Derived.WalkLawsBesides
import Derived.WalkSpells
import Derived.ProofKit
import Derived.Outline
import Derived.Deep.QuietTactic
import Derived.BigQuiet
import Derived.Deep.Light
import Derived.Deep.CutBlock
import Derived.Deep.DeepCutAuto
import Derived.Deep.DeepFit
import Derived.Deep.LoopGhost
import Derived.Lib.Hide
import Derived.Lib.OthersKept
import Derived.IntWalk
import Derived.StillTailTactics
namespace Go.Proofs.YtamihfgkpilfiaaDoor
open Go.RowKit
/-! What is known. -/
def KN (B : Nat) : Nd := ⟨⟨#[111, 114]⟩, ⟨#[]⟩, 0, 0, some ⟨B + 1, 0, none⟩, 2, .cons ⟨#[116, 114, 117, 101]⟩ ⟨#[]⟩ 0 0 none 0 .nil (.cons ⟨#[110, 111, 116]⟩ ⟨#[]⟩ 0 0 (some ⟨B, 0, none⟩) 1 (.cons ⟨#[102, 97, 108, 115, 101]⟩ ⟨#[]⟩ 0 0 none 0 .nil .nil) .nil)⟩
theorem kn_ok (B : Nat) : (KN B).okF = true := by kernel_rfl
theorem kn_fx (B : Nat) : (KN B).fx = [40, 116, 114, 117, 101, 32, 124, 32, 126, 102, 97, 108, 115, 101, 41] := by kernel_rfl
theorem kn_size (B : Nat) : (KN B).size ≤ 2000 := by show 4 ≤ 2000; omega
abbrev twoC (op1 name1 : ByteArray) (n1 pos1 : Int) (a1 : Option Addr) (k1 cap1 : Nat) (op2 name2 : ByteArray) (n2 pos2 : Int) (a2 : Option Addr) (k2 cap2 : Nat) : Array Value :=
  #[.string op1, .string name1, .int .i64 n1, .int .i64 pos1, .slice a1 k1 cap1, .string op2, .string name2, .int .i64 n2, .int .i64 pos2, .slice a2 k2 cap2]
theorem frozen_none {w : World} {B : Nat} {cs : Array Value} {t : TypeId} (h : w.heap[B]? = some (.cells cs t)) (o : Nat) : w.frozen? ⟨B, o, none⟩ = false := by
  unfold World.frozen?
  simp [h]
theorem kn_in {W : World} {B : Nat} (h1 : W.heap[B]? = some (boxOf ⟨#[102, 97, 108, 115, 101]⟩ ⟨#[]⟩ 0 0 none 0 0))
    (h2 : W.heap[B + 1]? = some (.cells (twoC ⟨#[116, 114, 117, 101]⟩ ⟨#[]⟩ 0 0 none 0 0 ⟨#[110, 111, 116]⟩ ⟨#[]⟩ 0 0 (some ⟨B, 0, none⟩) 1 1) 24)) : (KN B).In W := by
  have hc : ∀ (o : Nat) (v : Value), (twoC ⟨#[116, 114, 117, 101]⟩ ⟨#[]⟩ 0 0 none 0 0 ⟨#[110, 111, 116]⟩ ⟨#[]⟩ 0 0 (some ⟨B, 0, none⟩) 1 1)[o]? = some v → W.cell? ⟨B + 1, o, none⟩ = some v := fun o v hv => by rw [cell_of_row _ _ _ _ _ _ h2]; exact hv
  refine .inr ⟨B + 1, 0, rfl, by show 2 ≤ _; omega, ⟨Nat.succ_pos _, frozen_none h2 0⟩, ⟨hc 0 _ rfl, hc 1 _ rfl, hc 2 _ rfl, hc 3 _ rfl, hc 4 _ rfl⟩, .inl rfl, ⟨hc 5 _ rfl, hc 6 _ rfl, hc 7 _ rfl, hc 8 _ rfl, hc 9 _ rfl⟩, ?_, trivial⟩
  exact .inr ⟨B, 0, rfl, by show 1 ≤ _; omega, ⟨Nat.succ_pos _, frozen_none h1 0⟩, box_cells h1, .inl rfl, trivial⟩
set_option maxRecDepth 100000 in
set_option maxHeartbeats 4000000 in
theorem sknown_any (w : World) : Calls Tryd.prog 14 #[] w fun e w' => e = .returned (.bool true) ∧ Below w.heap.size w w' := by
  have h1 : ((w.alloc (boxOf ⟨#[102, 97, 108, 115, 101]⟩ ⟨#[]⟩ 0 0 none 0 0)).alloc (.cells (twoC ⟨#[116, 114, 117, 101]⟩ ⟨#[]⟩ 0 0 none 0 0 ⟨#[110, 111, 116]⟩ ⟨#[]⟩ 0 0 (some ⟨w.heap.size, 0, none⟩) 1 1) 24)).heap[w.heap.size]? = some (boxOf ⟨#[102, 97, 108, 115, 101]⟩ ⟨#[]⟩ 0 0 none 0 0) := box_alloc (new_at _ _) _
  have hC := showF (KN w.heap.size) _ (kn_in h1 (second_at w _ _)) (kn_ok _) (kn_size _)
  rw [kn_fx, Nd.val_def] at hC
  have hC2 : Calls Tryd.prog 10 #[.agg #[.string ⟨#[111, 114]⟩, .string ⟨#[]⟩, .int .i64 0, .int .i64 0, .slice (some ⟨w.heap.size + 1, 0, none⟩) 2 2]] _ _ := hC
  have HC := Lib.hid hC2
  clear hC hC2 h1
  go_enter Tryd.func14, Tryd.ntmps14
  go_wp2_with fail
  refine HC.out.mono ?_
  rintro e w2 ⟨rfl, hb2⟩
  have hbb := (two_boxes w (boxOf ⟨#[102, 97, 108, 115, 101]⟩ ⟨#[]⟩ 0 0 none 0 0) (.cells (twoC ⟨#[116, 114, 117, 101]⟩ ⟨#[]⟩ 0 0 none 0 0 ⟨#[110, 111, 116]⟩ ⟨#[]⟩ 0 0 (some ⟨w.heap.size, 0, none⟩) 1 1) 24)).trans (hb2.mono (by simp; omega))
  clear hb2 HC
  go_wp2_with fail
  go_ret
  exact ⟨rfl, hbb⟩
end Go.Proofs.YtamihfgkpilfiaaDoor
