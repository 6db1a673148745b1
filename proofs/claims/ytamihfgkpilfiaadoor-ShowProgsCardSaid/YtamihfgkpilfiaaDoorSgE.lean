/- The reference: variables. -/
import Derived.Test.YtamihfgkpilfiaaDoorSgD
import Derived.Test.YtamihfgkpilfiaaDoorRtG
import Derived.Test.YtamihfgkpilfiaaDoorLexA
import Derived.Test.YtamihfgkpilfiaaDoorRows
import Derived.WalkKit
import Derived.WalkLawsBesides
import Derived.WalkSpells
import Derived.ProofKit
import Derived.Outline
import Derived.Deep.QuietTactic
import Derived.BigQuiet
import Derived.Deep.Light
import Derived.Deep.CutBlock
import Derived.Deep.DeepCutAuto
import Derived.Deep.DeepFit
import Derived.Deep.LoopGhost
import Derived.Lib.Hide
import Derived.Lib.OthersKept
import Derived.IntWalk
import Derived.StillTailTactics
import Derived.Deep.RegionHeld3
namespace Go.Proofs.YtamihfgkpilfiaaDoor
open Go.RowKit
/-! The reference: variables. -/
set_option maxRecDepth 100000 in
set_option maxHeartbeats 4000000 in
theorem rdecl_any (d : Dc) (hd : d.ok = true) (w : World) :
    Calls Tryd.prog 35 #[.agg #[.string d.name, .int .i64 d.order, .int .i64 d.pos]] w fun e w' => e = .returned (.string (mkS (dTx d))) ∧ Below w.heap.size w w' := by
  obtain ⟨hn, h0, h1⟩ := dok_parts hd
  obtain ⟨name, n, pos⟩ := d
  simp only at hn h0 h1
  have hns := nameB_size hn
  have hdl := dgs_len h0 (by omega)
  have s1 : ¬ (9223372036854775807 < 3 + (mkS (dgs n)).size) := by simp only [← sz_len, mkS_list]; omega
  have s2 : ¬ (9223372036854775807 < 3 + (mkS (dgs n)).size + 1) := by simp only [← sz_len, mkS_list]; omega
  have s3 : ¬ (9223372036854775807 < 3 + (mkS (dgs n)).size + 1 + name.size) := by simp only [← sz_len (mkS _), mkS_list]; omega
  have HE := Lib.hid (show (⟨#[118, 97, 114]⟩ : ByteArray) ++ mkS (dgs n) ++ ⟨#[32]⟩ ++ name = mkS (dTx ⟨name, n, pos⟩) from mkS_eq (by unfold dTx; simp only [app_list, mkS_list]))
  have HD := Lib.hid (digits_any n (w.alloc (boxD name n pos)).drew h0 (by omega))
  have HB1 := Lib.hid ((below_box w (boxD name n pos)).drew)
  obtain ⟨c0, c1, c2⟩ := boxD_cells (new_at w (boxD name n pos))
  clear hd hn hns hdl
  have hc3 := cellsDecl
  go_enter Tryd.func35, Tryd.ntmps35
  go_wp2_with fail
  go_region_held3 (fun wz => wz.cell? ⟨w.heap.size, 0, none⟩ = some (.string name) ∧ wz.cell? ⟨w.heap.size, 1, none⟩ = some (.int .i64 n)) (go_keep) (first | (go_at_call 27; refine HD.out.mono ?_; rintro e w2 ⟨rfl, hb2⟩; replace c0 := cell_below hb2 c0; replace c1 := cell_below hb2 c1; have HB4 := Lib.hid (HB1.out.trans (hb2.mono HB1.out.size)); clear hb2 HD HB1))
  all_goals (go_wp2_with fail; go_ret; exact ⟨by rw [← HE.out]; rfl, HB4.out⟩)
end Go.Proofs.YtamihfgkpilfiaaDoor
