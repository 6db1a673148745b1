/- The writer of package show: put, comma. -/
import Derived.Test.YtamihfgkpilfiaaDoorShB
import Derived.Test.YtamihfgkpilfiaaDoorLexA
import Derived.Test.YtamihfgkpilfiaaDoorRows
import Derived.WalkKit
import Derived.WalkLawsBesides
import Derived.WalkSpells
import Derived.ProofKit
import Derived.Outline
import Derived.Deep.QuietTactic
import Derived.BigQuiet
import Derived.Deep.Light
import Derived.Deep.CutBlock
import Derived.Deep.DeepCutAuto
import Derived.Deep.DeepFit
import Derived.Deep.LoopGhost
import Derived.Lib.Hide
import Derived.Lib.OthersKept
import Derived.IntWalk
import Derived.StillTailTactics
namespace Go.Proofs.YtamihfgkpilfiaaDoor
open Go.RowKit
/-! put. -/
def cat : List ByteArray → L8
  | [] => []
  | x :: r => x.data.toList ++ cat r
/-- A block that writing leaves as it is. -/
def Safe (b k : Nat) (w : World) : Prop := k ≠ b ∧ ∃ o, w.heap[k]? = some o ∧ ∀ c fz, o ≠ .cells c tU fz
theorem cat_append : ∀ (xs ys : List ByteArray), cat (xs ++ ys) = cat xs ++ cat ys
  | [], ys => rfl
  | x :: r, ys => by show x.data.toList ++ cat (r ++ ys) = _; rw [cat_append r ys]; show _ = (x.data.toList ++ cat r) ++ cat ys; rw [List.append_assoc]
theorem cat_take (xs : List ByteArray) (j : Nat) (x : ByteArray) (h : xs[j]? = some x) : cat (xs.take (j + 1)) = cat (xs.take j) ++ x.data.toList := by
  rw [List.take_add_one, h, cat_append]
  show _ ++ (x.data.toList ++ []) = _
  rw [List.append_nil]
theorem cat_le (xs : List ByteArray) (j : Nat) : (cat (xs.take j)).length ≤ (cat xs).length := by
  have h := congrArg (fun z => (cat z).length) (List.take_append_drop j xs)
  simp only [cat_append, List.length_append] at h
  omega
theorem cell_heap {w w' : World} {k i : Nat} (h : w'.heap[k]? = w.heap[k]?) : w'.cell? ⟨k, i, none⟩ = w.cell? ⟨k, i, none⟩ := by
  simp only [World.cell?, h]
theorem Safe.kept {b k : Nat} {w w' : World} (h : Safe b k w) (hk : KeptW b w w') : w'.heap[k]? = w.heap[k]? ∧ Safe b k w' := by
  obtain ⟨h1, o, h2, h3⟩ := h
  have := hk k o h2 (by simpa using h1) h3
  exact ⟨by rw [this, h2], h1, o, this, h3⟩
set_option maxHeartbeats 2000000 in
set_option maxRecDepth 100000 in
theorem put_any (B b : Nat) (l : L8) (k : Nat) (xs : List ByteArray) (cap : Nat) (w : World) (h : WB B b l w) (hS : Safe b k w) (hx : ∀ i x, xs[i]? = some x → w.cell? ⟨k, i, none⟩ = some (.string x)) (hn : xs.length ≤ 100) (hlen : l.length + (cat xs).length ≤ 140737488351232) (hBw : B ≤ w.heap.size) :
    Calls Tryd.prog 33 #[wAt b, .slice (some ⟨k, 0, none⟩) xs.length cap] w fun e w' => e = .returned (.tuple #[]) ∧ (WB B b (l ++ cat xs) w' ∧ Below B w w' ∧ KeptW b w w') := by
  go_enter Tryd.func33, Tryd.ntmps33
  go_wp2
  have HS := Lib.hid hS
  have HX := Lib.hid hx
  have HL := Lib.hid hlen
  have H0 := Lib.hid h
  clear hS hx hlen h
  go_loopw [8] (fun i wr => ∃ j : Nat, i = .int .i64 j ∧ j ≤ xs.length ∧ Hid (WB B b (l ++ cat (xs.take j)) wr) ∧ Hid (Below B w wr) ∧ Hid (KeptW b w wr)) (fun i _ => xs.length - (intOf i).toNat)
  case atStart => exact ⟨0, rfl, Nat.zero_le _, Lib.hid (by simpa [cat] using H0.out), Lib.hid (Below.refl _ _), Lib.hid (Lib.OthersKept.refl _ _ _)⟩
  case round =>
    obtain ⟨j, rfl, hj, HB, HW, HK⟩ := hrel
    by_cases hlt : j < xs.length
    · have hj1 : (j : Int) < xs.length := by omega
      obtain ⟨x, hxj⟩ : ∃ x, xs[j]? = some x := ⟨_, List.getElem?_eq_getElem hlt⟩
      have hc : wr.cell? ⟨k, j, none⟩ = some (.string x) := by rw [cell_heap (HS.out.kept HK.out).1]; exact HX.out j x hxj
      have hct := cat_take xs j x hxj
      have hle : l.length + (cat (xs.take (j + 1))).length ≤ 140737488351232 := by have := cat_le xs (j + 1); have := HL.out; omega
      have hsz : (l ++ cat (xs.take j)).length + x.size ≤ 140737488351232 := by rw [hct] at hle; simp only [List.length_append, sz_len] at hle ⊢; omega
      have HC := Lib.hid (ws_any B b (l ++ cat (xs.take j)) x wr HB.out hsz (Nat.le_trans hBw HW.out.size))
      have HE := Lib.hid hct
      clear hct hle hsz hxj HB
      go_wp2_with fail
      refine HC.out.mono ?_
      rintro e w2 ⟨rfl, h2, hb2, hk2⟩
      rw [List.append_assoc, ← HE.out] at h2
      have H2 := Lib.hid h2
      have HW2 := Lib.hid (HW.out.trans hb2)
      have HK2 := Lib.hid (HK.out.trans hk2)
      clear h2 hb2 hk2 HE HC HW HK HX
      go_wp2
      go_roundw
      case rel => exact ⟨j + 1, by go_num, by omega, H2, HW2, HK2⟩
      case measure => (try simp [intOf]); omega
    · have hje : j = xs.length := by omega
      subst hje
      have hall : cat (xs.take xs.length) = cat xs := by rw [List.take_length]
      rw [hall] at HB
      clear hall HX
      go_wp2
      go_end0
      exact ⟨rfl, HB.out, HW.out, HK.out⟩
end Go.Proofs.YtamihfgkpilfiaaDoor
