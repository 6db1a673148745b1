/- tree.Size, tree.inBounds; tree.fits of what has no name. -/
import Derived.Test.YtpdlnpllhjcejaaDoorDepth
import Derived.Test.YtpdlnpllhjcejaaDoorLexPure2
import Derived.Test.YtpdlnpllhjcejaaDoorRows
import Derived.WalkKit
import Derived.WalkLawsBesides
import Derived.WalkSpells
import Derived.ProofKit
import Derived.Outline
import Derived.Deep.QuietTactic
import Derived.BigQuiet
import Derived.Deep.Light
import Derived.Deep.CutBlock
import Derived.Deep.DeepCutAuto
import Derived.Deep.DeepFit
import Derived.Deep.LoopGhost
import Derived.Lib.Hide
import Derived.Lib.OthersKept
import Derived.IntWalk
import Derived.StillTailTactics
namespace Go.Proofs.YtpdlnpllhjcejaaDoor
open Go.RowKit
/-! Size, inBounds, and fits of what has no name. -/
theorem below_box (w : World) (ob : Obj) : Below w.heap.size w (w.alloc ob) := (Below.refl _ _).alloc (Nat.le_refl _) _
theorem box_then {w w' : World} {ob : Obj} (h : Below (w.alloc ob).heap.size (w.alloc ob) w') : Below w.heap.size w w' := (below_box w ob).trans (h.mono (by rw [alloc_size]; omega))
set_option maxRecDepth 100000 in
set_option maxHeartbeats 4000000 in
theorem tsize_any (T : Nd) (w : World) (hT : T.In w) : Calls Tryd.prog 19 #[T.val] w fun e w' => e = .returned (.int .i64 (min (T.size : Int) 2001)) ∧ Below w.heap.size w w' := by
  obtain ⟨op, name, n, pos, a, cap, kids⟩ := T
  have hc := sizeUpTo_any ⟨op, name, n, pos, a, cap, kids⟩ 2001 (w.alloc (boxOf op name n pos a kids.len cap)) (by omega) (by omega) (hT.below (below_box _ _))
  have HC := Lib.hid hc
  have hc5 := cellsNode
  clear hc hT
  rw [Nd.val_def]
  go_enter Tryd.func19, Tryd.ntmps19
  go_wp2_with fail
  refine HC.out.mono ?_
  rintro e w2 ⟨rfl, hb2⟩
  go_wp2
  go_ret
  exact ⟨rfl, box_then hb2⟩
set_option maxRecDepth 100000 in
set_option maxHeartbeats 4000000 in
/-- Is it neither too deep nor too great? Of what is not too great. -/
theorem inBounds_any (T : Nd) (w : World) (hT : T.In w) (hs : T.size ≤ 2000) : Calls Tryd.prog 36 #[T.val] w fun e w' => (∃ d, DepthOut T d ∧ e = .returned (.bool (decide (d ≤ 30)))) ∧ Below w.heap.size w w' := by
  obtain ⟨op, name, n, pos, a, cap, kids⟩ := T
  have hsv : min (((Nd.mk op name n pos a cap kids).size : Nat) : Int) 2001 = (Nd.mk op name n pos a cap kids).size := by omega
  have hc1 := tsize_any ⟨op, name, n, pos, a, cap, kids⟩ (w.alloc (boxOf op name n pos a kids.len cap)) (hT.below (below_box _ _))
  rw [hsv] at hc1
  have hs2 : (((Nd.mk op name n pos a cap kids).size : Nat) : Int) ≤ 2000 := by omega
  have HC1 := Lib.hid hc1
  have HT := Lib.hid hT
  have HS := Lib.hid hs
  have HB := Lib.hid (new_at w (boxOf op name n pos a kids.len cap))
  have hc5 := cellsNode
  have hsz1 := alloc_size w (boxOf op name n pos a kids.len cap)
  have HZ := Lib.hid hsz1
  clear hc1 hT hsv hs hsz1
  generalize (((Nd.mk op name n pos a cap kids).size : Nat) : Int) = z at HC1 hs2
  rw [Nd.val_def]
  go_enter Tryd.func36, Tryd.ntmps36
  go_wp2_with fail
  refine HC1.out.mono ?_
  rintro e w2 ⟨rfl, hb2⟩
  have hblk : w2.heap[w.heap.size]? = some (boxOf op name n pos a kids.len cap) := by
    rw [hb2.block _ (by have := HZ.out; omega)]; exact HB.out
  have b0 : w2.cell? ⟨w.heap.size, 0, none⟩ = some (.string op) := by rw [cell_of_row _ _ _ _ _ _ hblk]; rfl
  have b1 : w2.cell? ⟨w.heap.size, 1, none⟩ = some (.string name) := by rw [cell_of_row _ _ _ _ _ _ hblk]; rfl
  have b2 : w2.cell? ⟨w.heap.size, 2, none⟩ = some (.int .i64 n) := by rw [cell_of_row _ _ _ _ _ _ hblk]; rfl
  have b3 : w2.cell? ⟨w.heap.size, 3, none⟩ = some (.int .i64 pos) := by rw [cell_of_row _ _ _ _ _ _ hblk]; rfl
  have b4 : w2.cell? ⟨w.heap.size, 4, none⟩ = some (.slice a kids.len cap) := by rw [cell_of_row _ _ _ _ _ _ hblk]; rfl
  have hbb := box_then hb2
  have hc2 := depth_any ⟨op, name, n, pos, a, cap, kids⟩ w2 (HT.out.below hbb) (by have := HS.out; omega)
  have HC2 := Lib.hid hc2
  clear hc2 hb2 hblk HC1
  go_wp2_with fail
  refine HC2.out.mono ?_
  rintro e w3 ⟨⟨d, rfl, hd⟩, hb3⟩
  have HD := Lib.hid hd
  clear hd
  go_wp2
  go_ret
  exact ⟨⟨d, HD.out, rfl⟩, hbb.trans (hb3.mono hbb.size)⟩
/-! nots of nots of true -/
def emp : ByteArray := ⟨#[]⟩
def tTrue : ByteArray := ⟨#[116, 114, 117, 101]⟩
def tNot : ByteArray := ⟨#[110, 111, 116]⟩
/-- So many nots, and true within. -/
def Fo.nots : Nat → Fo → Prop
  | 0, F => ∃ pos a cap, F = .cons tTrue emp 0 pos a cap .nil .nil
  | j + 1, F => ∃ pos a cap kids, F = .cons tNot emp 0 pos a cap kids .nil ∧ Fo.nots j kids
def Nd.nots : Nat → Nd → Prop
  | 0, T => T.op = tTrue ∧ T.name = emp ∧ T.n = 0 ∧ T.kids = .nil
  | j + 1, T => T.op = tNot ∧ T.name = emp ∧ T.n = 0 ∧ Fo.nots j T.kids
theorem nots_facts : ∀ (j : Nat) (F : Fo), F.nots j → F.len = 1 ∧ F.size = j + 1 ∧ F.deep = j + 1 ∧ F.line := by
  intro j
  induction j with
  | zero => rintro F ⟨pos, a, cap, rfl⟩; exact ⟨rfl, rfl, rfl, rfl, trivial⟩
  | succ j ih =>
    rintro F ⟨pos, a, cap, kids, rfl, h⟩
    obtain ⟨h1, h2, h3, h4⟩ := ih kids h
    refine ⟨rfl, ?_, ?_, rfl, h4⟩
    · show kids.size + 1 + 0 = _; omega
    · show max (kids.deep + 1) 0 = _; omega
theorem nd_nots_facts (j : Nat) (T : Nd) (h : T.nots j) : T.size = j + 1 ∧ T.deep = j + 1 ∧ T.line ∧ T.kids.len ≤ 1 := by
  cases j with
  | zero =>
    obtain ⟨_, _, _, h⟩ := h
    have h1 : T.size = T.kids.size + 1 := rfl
    have h2 : T.deep = T.kids.deep + 1 := rfl
    have h3 : T.line = T.kids.line := rfl
    rw [h1, h2, h3, h]
    exact ⟨rfl, rfl, trivial, Nat.zero_le _⟩
  | succ j =>
    obtain ⟨_, _, _, h⟩ := h
    obtain ⟨f1, f2, f3, f4⟩ := nots_facts j _ h
    have h1 : T.size = T.kids.size + 1 := rfl
    have h2 : T.deep = T.kids.deep + 1 := rfl
    exact ⟨by omega, by omega, f4, by omega⟩
set_option maxRecDepth 100000 in
set_option maxHeartbeats 4000000 in
theorem fits_none (op : ByteArray) (pos : Int) (a : Option Addr) (cap : Nat) (w : World) :
    Calls Tryd.prog 70 #[.agg #[.string op, .string ⟨#[]⟩, .int .i64 0, .int .i64 pos, .slice a 0 cap], .agg #[.bool false, .int .i64 0, .int .i64 0, .int .i64 0, .int .i64 0, .nilFunc]] w fun e w' => e = .returned (.bool true) ∧ Below w.heap.size w w' := by
  have hc5 := cellsNode
  go_enter Tryd.func70, Tryd.ntmps70
  go_wp2_with fail
  go_loopw [56] (fun i wr => i = .int .i64 0 ∧ Below w.heap.size w wr) (fun _ _ => 0)
  case atStart => exact ⟨rfl, ((Below.refl _ _).alloc (Nat.le_refl _) _).alloc (by simp) _⟩
  case round =>
    obtain ⟨rfl, hbx⟩ := hrel
    go_wp2_with fail
    go_ret
    exact ⟨rfl, hbx⟩
/-- tree.formula says of a node that it is one. -/
def SaysF (T : Nd) : Prop := ∀ w : World, T.In w → Calls Tryd.prog 37 #[T.val] w fun e w' => e = .returned (.bool true) ∧ Below w.heap.size w w'
theorem two_boxes (w : World) (o1 o2 : Obj) : Below w.heap.size w ((w.alloc o1).alloc o2) := ((Below.refl _ _).alloc (Nat.le_refl _) _).alloc (by simp) _
set_option maxRecDepth 100000 in
set_option maxHeartbeats 4000000 in
theorem fits_one (op : ByteArray) (pos : Int) (b o cap : Nat) (op1 name1 : ByteArray) (n1 pos1 : Int) (a1 : Option Addr) (cap1 : Nat) (kids1 : Fo) (w : World)
    (hin : (Fo.cons op1 name1 n1 pos1 a1 cap1 kids1 .nil).In w b o) (hs : SaysF ⟨op1, name1, n1, pos1, a1, cap1, kids1⟩) :
    Calls Tryd.prog 70 #[.agg #[.string op, .string ⟨#[]⟩, .int .i64 0, .int .i64 pos, .slice (some ⟨b, o, none⟩) 1 cap], .agg #[.bool false, .int .i64 0, .int .i64 0, .int .i64 1, .int .i64 1, .func (.func 37) #[] #[]]] w fun e w' => e = .returned (.bool true) ∧ Below w.heap.size w w' := by
  have hc5 := cellsNode
  have HI := Lib.hid hin
  have HSF := Lib.hid hs
  clear hin hs
  go_enter Tryd.func70, Tryd.ntmps70
  go_wp2_with fail
  go_loopw [56] (fun i wr => (i = .int .i64 0 ∨ i = .int .i64 1) ∧ wr.cell? ⟨w.heap.size + 1, 5, none⟩ = some (.func (.func 37) #[] #[]) ∧ w.heap.size + 1 < wr.heap.size ∧ Below w.heap.size w wr) (fun i _ => 1 - (intOf i).toNat)
  case atStart =>
    refine ⟨.inl rfl, ?_, by simp, two_boxes _ _ _⟩
    have h1 : ∀ o1 : Obj, (w.alloc o1).heap.size = w.heap.size + 1 := fun o1 => alloc_size w o1
    have h2 := fun o1 o2 : Obj => new_at (w.alloc o1) o2
    simp only [h1] at h2
    rw [cell_of_row _ _ _ _ _ _ (h2 _ _)]
    rfl
  case round =>
    obtain ⟨hi, hbx5, hroom, hbx⟩ := hrel
    rcases hi with rfl | rfl
    · obtain ⟨⟨c0, c1, c2, c3, c4⟩, hin1, _⟩ := HI.out.below hbx
      have HX := Lib.hid hbx5
      have HN : RowKit.Hid (Nd.In wr ⟨op1, name1, n1, pos1, a1, cap1, kids1⟩) := Lib.hid hin1
      clear hin1
      go_wp2_with fail
      have hcall := HSF.out _ (HN.out.below (below_box wr (boxOf op1 name1 n1 pos1 a1 kids1.len cap1)))
      rw [Nd.val_def] at hcall
      refine hcall.mono ?_
      rintro e w2 ⟨rfl, hb2⟩
      have hb3 := box_then hb2
      have hx2 := cell_below hb3 HX.out
      have hr2 : w.heap.size + 1 < w2.heap.size := Nat.lt_of_lt_of_le hroom hb3.size
      have hbx2 := hbx.trans (hb3.mono hbx.size)
      have HX2 := Lib.hid hx2
      clear hx2 hb2 hb3 hcall HX hbx5
      go_wp2_with fail
      go_roundw
      case rel => exact ⟨.inr (by go_num), HX2.out, hr2, hbx2⟩
      case measure => (try simp [intOf]); try omega
    · clear hbx5
      go_wp2_with fail
      go_ret
      exact ⟨rfl, hbx⟩
end Go.Proofs.YtpdlnpllhjcejaaDoor
