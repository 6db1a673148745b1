/- Package show: sign, kid. -/
import Derived.Test.YtamihfgkpilfiaaDoorShP
import Derived.Test.YtamihfgkpilfiaaDoorLexA
import Derived.Test.YtamihfgkpilfiaaDoorRows
import Derived.WalkKit
import Derived.WalkLawsBesides
import Derived.WalkSpells
import Derived.ProofKit
import Derived.Outline
import Derived.Deep.QuietTactic
import Derived.BigQuiet
import Derived.Deep.Light
import Derived.Deep.CutBlock
import Derived.Deep.DeepCutAuto
import Derived.Deep.DeepFit
import Derived.Deep.LoopGhost
import Derived.Lib.Hide
import Derived.Lib.OthersKept
import Derived.IntWalk
import Derived.StillTailTactics
namespace Go.Proofs.YtamihfgkpilfiaaDoor
open Go.RowKit
theorem opSign_and : opSign ⟨#[97, 110, 100]⟩ = [38] := by unfold opSign; simp [Lib.toList_data]
set_option maxRecDepth 100000 in
theorem sign_and (w : World) : Calls Tryd.prog 73 #[.string ⟨#[97, 110, 100]⟩] w fun e w' => e = .returned (.string ⟨#[38]⟩) ∧ w' = w := by
  go_enter Tryd.func73, Tryd.ntmps73
  go_wp2
  go_ret
  exact ⟨rfl, rfl⟩
theorem opSign_or : opSign ⟨#[111, 114]⟩ = [124] := by unfold opSign; simp [Lib.toList_data]
set_option maxRecDepth 100000 in
theorem sign_or (w : World) : Calls Tryd.prog 73 #[.string ⟨#[111, 114]⟩] w fun e w' => e = .returned (.string ⟨#[124]⟩) ∧ w' = w := by
  go_enter Tryd.func73, Tryd.ntmps73
  go_wp2
  go_ret
  exact ⟨rfl, rfl⟩
theorem opSign_imp : opSign ⟨#[105, 109, 112]⟩ = [61, 62] := by unfold opSign; simp [Lib.toList_data]
set_option maxRecDepth 100000 in
theorem sign_imp (w : World) : Calls Tryd.prog 73 #[.string ⟨#[105, 109, 112]⟩] w fun e w' => e = .returned (.string ⟨#[61, 62]⟩) ∧ w' = w := by
  go_enter Tryd.func73, Tryd.ntmps73
  go_wp2
  go_ret
  exact ⟨rfl, rfl⟩
theorem opSign_iff : opSign ⟨#[105, 102, 102]⟩ = [60, 61, 62] := by unfold opSign; simp [Lib.toList_data]
set_option maxRecDepth 100000 in
theorem sign_iff (w : World) : Calls Tryd.prog 73 #[.string ⟨#[105, 102, 102]⟩] w fun e w' => e = .returned (.string ⟨#[60, 61, 62]⟩) ∧ w' = w := by
  go_enter Tryd.func73, Tryd.ntmps73
  go_wp2
  go_ret
  exact ⟨rfl, rfl⟩
theorem opSign_eq : opSign ⟨#[101, 113]⟩ = [61] := by unfold opSign; simp [Lib.toList_data]
set_option maxRecDepth 100000 in
theorem sign_eq (w : World) : Calls Tryd.prog 73 #[.string ⟨#[101, 113]⟩] w fun e w' => e = .returned (.string ⟨#[61]⟩) ∧ w' = w := by
  go_enter Tryd.func73, Tryd.ntmps73
  go_wp2
  go_ret
  exact ⟨rfl, rfl⟩
theorem opSign_ne : opSign ⟨#[110, 101]⟩ = [126, 61] := by unfold opSign; simp [Lib.toList_data]
set_option maxRecDepth 100000 in
theorem sign_ne (w : World) : Calls Tryd.prog 73 #[.string ⟨#[110, 101]⟩] w fun e w' => e = .returned (.string ⟨#[126, 61]⟩) ∧ w' = w := by
  go_enter Tryd.func73, Tryd.ntmps73
  go_wp2
  go_ret
  exact ⟨rfl, rfl⟩
theorem opSign_lt : opSign ⟨#[108, 116]⟩ = [60] := by unfold opSign; simp [Lib.toList_data]
set_option maxRecDepth 100000 in
theorem sign_lt (w : World) : Calls Tryd.prog 73 #[.string ⟨#[108, 116]⟩] w fun e w' => e = .returned (.string ⟨#[60]⟩) ∧ w' = w := by
  go_enter Tryd.func73, Tryd.ntmps73
  go_wp2
  go_ret
  exact ⟨rfl, rfl⟩
theorem opSign_le : opSign ⟨#[108, 101]⟩ = [60, 61] := by unfold opSign; simp [Lib.toList_data]
set_option maxRecDepth 100000 in
theorem sign_le (w : World) : Calls Tryd.prog 73 #[.string ⟨#[108, 101]⟩] w fun e w' => e = .returned (.string ⟨#[60, 61]⟩) ∧ w' = w := by
  go_enter Tryd.func73, Tryd.ntmps73
  go_wp2
  go_ret
  exact ⟨rfl, rfl⟩
theorem opSign_in : opSign ⟨#[105, 110]⟩ = [105, 110] := by unfold opSign; simp [Lib.toList_data]
set_option maxRecDepth 100000 in
theorem sign_in (w : World) : Calls Tryd.prog 73 #[.string ⟨#[105, 110]⟩] w fun e w' => e = .returned (.string ⟨#[105, 110]⟩) ∧ w' = w := by
  go_enter Tryd.func73, Tryd.ntmps73
  go_wp2
  go_ret
  exact ⟨rfl, rfl⟩
theorem opSign_notin : opSign ⟨#[110, 111, 116, 105, 110]⟩ = [110, 111, 116, 105, 110] := by unfold opSign; simp [Lib.toList_data]
set_option maxRecDepth 100000 in
theorem sign_notin (w : World) : Calls Tryd.prog 73 #[.string ⟨#[110, 111, 116, 105, 110]⟩] w fun e w' => e = .returned (.string ⟨#[110, 111, 116, 105, 110]⟩) ∧ w' = w := by
  go_enter Tryd.func73, Tryd.ntmps73
  go_wp2
  go_ret
  exact ⟨rfl, rfl⟩
theorem opSign_sub : opSign ⟨#[115, 117, 98]⟩ = [115, 117, 98] := by unfold opSign; simp [Lib.toList_data]
set_option maxRecDepth 100000 in
theorem sign_sub (w : World) : Calls Tryd.prog 73 #[.string ⟨#[115, 117, 98]⟩] w fun e w' => e = .returned (.string ⟨#[115, 117, 98]⟩) ∧ w' = w := by
  go_enter Tryd.func73, Tryd.ntmps73
  go_wp2
  go_ret
  exact ⟨rfl, rfl⟩
theorem opSign_union : opSign ⟨#[117, 110, 105, 111, 110]⟩ = [117, 110, 105, 111, 110] := by unfold opSign; simp [Lib.toList_data]
set_option maxRecDepth 100000 in
theorem sign_union (w : World) : Calls Tryd.prog 73 #[.string ⟨#[117, 110, 105, 111, 110]⟩] w fun e w' => e = .returned (.string ⟨#[117, 110, 105, 111, 110]⟩) ∧ w' = w := by
  go_enter Tryd.func73, Tryd.ntmps73
  go_wp2
  go_ret
  exact ⟨rfl, rfl⟩
theorem opSign_inter : opSign ⟨#[105, 110, 116, 101, 114]⟩ = [105, 110, 116, 101, 114] := by unfold opSign; simp [Lib.toList_data]
set_option maxRecDepth 100000 in
theorem sign_inter (w : World) : Calls Tryd.prog 73 #[.string ⟨#[105, 110, 116, 101, 114]⟩] w fun e w' => e = .returned (.string ⟨#[105, 110, 116, 101, 114]⟩) ∧ w' = w := by
  go_enter Tryd.func73, Tryd.ntmps73
  go_wp2
  go_ret
  exact ⟨rfl, rfl⟩
theorem opSign_minus : opSign ⟨#[109, 105, 110, 117, 115]⟩ = [92] := by unfold opSign; simp [Lib.toList_data]
set_option maxRecDepth 100000 in
theorem sign_minus (w : World) : Calls Tryd.prog 73 #[.string ⟨#[109, 105, 110, 117, 115]⟩] w fun e w' => e = .returned (.string ⟨#[92]⟩) ∧ w' = w := by
  go_enter Tryd.func73, Tryd.ntmps73
  go_wp2
  go_ret
  exact ⟨rfl, rfl⟩
theorem wsign_any (op : ByteArray) (h : isJoin op = true ∨ opF2 op = true ∨ opFr op = true) (w : World) : Calls Tryd.prog 73 #[.string op] w fun e w' => e = .returned (.string ⟨(opSign op).toArray⟩) ∧ w' = w := by
  unfold isJoin opF2 opFr at h
  simp only [Bool.or_eq_true, beq_iff_eq] at h
  rcases h with ((h | h) | h) | (((h | h) | h) | h) | ((((((h | h) | h) | h) | h) | h) | h)
  · rw [ba_of (show (op.toList == [117, 110, 105, 111, 110]) = true by simp [h]), opSign_union]; exact sign_union w
  · rw [ba_of (show (op.toList == [105, 110, 116, 101, 114]) = true by simp [h]), opSign_inter]; exact sign_inter w
  · rw [ba_of (show (op.toList == [109, 105, 110, 117, 115]) = true by simp [h]), opSign_minus]; exact sign_minus w
  · rw [ba_of (show (op.toList == [97, 110, 100]) = true by simp [h]), opSign_and]; exact sign_and w
  · rw [ba_of (show (op.toList == [111, 114]) = true by simp [h]), opSign_or]; exact sign_or w
  · rw [ba_of (show (op.toList == [105, 109, 112]) = true by simp [h]), opSign_imp]; exact sign_imp w
  · rw [ba_of (show (op.toList == [105, 102, 102]) = true by simp [h]), opSign_iff]; exact sign_iff w
  · rw [ba_of (show (op.toList == [101, 113]) = true by simp [h]), opSign_eq]; exact sign_eq w
  · rw [ba_of (show (op.toList == [110, 101]) = true by simp [h]), opSign_ne]; exact sign_ne w
  · rw [ba_of (show (op.toList == [108, 116]) = true by simp [h]), opSign_lt]; exact sign_lt w
  · rw [ba_of (show (op.toList == [108, 101]) = true by simp [h]), opSign_le]; exact sign_le w
  · rw [ba_of (show (op.toList == [105, 110]) = true by simp [h]), opSign_in]; exact sign_in w
  · rw [ba_of (show (op.toList == [110, 111, 116, 105, 110]) = true by simp [h]), opSign_notin]; exact sign_notin w
  · rw [ba_of (show (op.toList == [115, 117, 98]) = true by simp [h]), opSign_sub]; exact sign_sub w
/-- The ith of a row of nodes. -/
def Fo.nth : Fo → Nat → Option Nd
  | .nil, _ => none
  | .cons op name n pos a cap kids _, 0 => some ⟨op, name, n, pos, a, cap, kids⟩
  | .cons _ _ _ _ _ _ _ rest, i + 1 => rest.nth i
theorem Fo.nth_at {w : World} : ∀ {F : Fo} {b o i : Nat} {x : Nd}, F.In w b o → F.nth i = some x → i < F.len ∧ NodeAt w b (o + i * 5) x.op x.name x.n x.pos x.a x.kids.len x.cap ∧ x.In w := by
  intro F
  induction F with
  | nil => intro b o i x _ h; cases i <;> cases h
  | cons op name n pos a cap kids rest ihk ihr =>
    intro b o i x hin h
    obtain ⟨h1, h2, h3⟩ := hin
    cases i with
    | zero =>
      cases h
      exact ⟨Nat.succ_pos _, by simpa using h1, h2⟩
    | succ i =>
      obtain ⟨g1, g2, g3⟩ := ihr h3 (show rest.nth i = some x from h)
      refine ⟨Nat.succ_lt_succ g1, ?_, g3⟩
      rw [show o + (i + 1) * 5 = o + 5 + i * 5 by omega]
      exact g2
set_option maxRecDepth 100000 in
set_option maxHeartbeats 2000000 in
theorem kid_any (T x : Nd) (i : Nat) (w : World) (hT : T.In w) (hx : T.kids.nth i = some x) : Calls Tryd.prog 53 #[T.val, .int .i64 i] w fun e w' => e = .returned x.val ∧ Below w.heap.size w w' := by
  obtain ⟨op, name, n, pos, a, cap, kids⟩ := T
  rcases hT with hT | ⟨b, o, ha, hl, _, hin⟩
  · exfalso
    simp only at hT hx
    subst hT
    cases hx
  simp only at ha hl hin hx
  subst ha
  obtain ⟨h1, ⟨c0, c1, c2, c3, c4⟩, _⟩ := Fo.nth_at hin hx
  obtain ⟨op1, name1, n1, pos1, a1, cap1, kids1⟩ := x
  simp only at c0 c1 c2 c3 c4
  have h1' : (i : Int) < kids.len := by omega
  rw [Nd.val_def, Nd.val_def]
  clear hin hx
  have hc5 := cellsNode
  have HBB := two_boxes w (boxOf op name n pos (some ⟨b, o, none⟩) kids.len cap) (boxOf ⟨#[]⟩ ⟨#[]⟩ 0 0 none 0 0)
  replace c0 := cell_below HBB c0
  replace c1 := cell_below HBB c1
  replace c2 := cell_below HBB c2
  replace c3 := cell_below HBB c3
  replace c4 := cell_below HBB c4
  go_enter Tryd.func53, Tryd.ntmps53
  go_wp2_with fail
  refine bodyPost_ret (v := .agg #[.string op1, .string name1, .int .i64 n1, .int .i64 pos1, .slice a1 kids1.len cap1]) (by simp [results, Tryd.results53, go_sem]) rfl ?_
  exact ⟨rfl, by first | exact two_boxes _ _ _ | exact below_box _ _⟩
end Go.Proofs.YtamihfgkpilfiaaDoor
