/- What known of the laws of trees asks. -/
import Derived.Test.YtmmicnjiikiklaaDoorTrB
import Derived.Test.YtmmicnjiikiklaaDoorNode
import Derived.Test.YtmmicnjiikiklaaDoorLexA
import Derived.Test.YtmmicnjiikiklaaDoorRows
import Derived.WalkKit
import Derived.WalkLawsBesides
import Derived.WalkSpells
import Derived.ProofKit
import Derived.Outline
import Derived.Deep.QuietTactic
import Derived.BigQuiet
import Derived.Deep.Light
import Derived.Deep.CutBlock
import Derived.Deep.DeepCutAuto
import Derived.Deep.DeepFit
import Derived.Deep.LoopGhost
import Derived.Lib.Hide
import Derived.Lib.OthersKept
import Derived.IntWalk
import Derived.StillTailTactics
namespace Go.Proofs.YtmmicnjiikiklaaDoor
open Go.RowKit
/-! Size, inBounds, and fits of what has no name. -/
set_option maxRecDepth 100000 in
set_option maxHeartbeats 4000000 in
theorem tsize_any (T : Nd) (w : World) (hT : T.In w) : Calls Tryd.prog 23 #[T.val] w fun e w' => e = .returned (.int .i64 (min (T.size : Int) 2001)) ∧ Below w.heap.size w w' := by
  obtain ⟨op, name, n, pos, a, cap, kids⟩ := T
  have hc := sizeUpTo_any ⟨op, name, n, pos, a, cap, kids⟩ 2001 (w.alloc (boxOf op name n pos a kids.len cap)) (by omega) (by omega) (hT.below (below_box _ _))
  have HC := Lib.hid hc
  have hc5 := cellsNode
  clear hc hT
  rw [Nd.val_def]
  go_enter Tryd.func23, Tryd.ntmps23
  go_wp2_with fail
  refine HC.out.mono ?_
  rintro e w2 ⟨rfl, hb2⟩
  go_wp2
  go_ret
  exact ⟨rfl, box_then hb2⟩
set_option maxRecDepth 100000 in
set_option maxHeartbeats 4000000 in
/-- Is it neither too deep nor too great? Of what is not too great. -/
theorem inBounds_any (T : Nd) (w : World) (hT : T.In w) (hs : T.size ≤ 2000) : Calls Tryd.prog 29 #[T.val] w fun e w' => (∃ d, DepthOut T d ∧ e = .returned (.bool (decide (d ≤ 30)))) ∧ Below w.heap.size w w' := by
  obtain ⟨op, name, n, pos, a, cap, kids⟩ := T
  have hsv : min (((Nd.mk op name n pos a cap kids).size : Nat) : Int) 2001 = (Nd.mk op name n pos a cap kids).size := by omega
  have hc1 := tsize_any ⟨op, name, n, pos, a, cap, kids⟩ (w.alloc (boxOf op name n pos a kids.len cap)) (hT.below (below_box _ _))
  rw [hsv] at hc1
  have hs2 : (((Nd.mk op name n pos a cap kids).size : Nat) : Int) ≤ 2000 := by omega
  have HC1 := Lib.hid hc1
  have HT := Lib.hid hT
  have HS := Lib.hid hs
  have HB := Lib.hid (new_at w (boxOf op name n pos a kids.len cap))
  have hc5 := cellsNode
  have hsz1 := alloc_size w (boxOf op name n pos a kids.len cap)
  have HZ := Lib.hid hsz1
  clear hc1 hT hsv hs hsz1
  generalize (((Nd.mk op name n pos a cap kids).size : Nat) : Int) = z at HC1 hs2
  rw [Nd.val_def]
  go_enter Tryd.func29, Tryd.ntmps29
  go_wp2_with fail
  refine HC1.out.mono ?_
  rintro e w2 ⟨rfl, hb2⟩
  have hblk : w2.heap[w.heap.size]? = some (boxOf op name n pos a kids.len cap) := by
    rw [hb2.block _ (by have := HZ.out; omega)]; exact HB.out
  have b0 : w2.cell? ⟨w.heap.size, 0, none⟩ = some (.string op) := by rw [cell_of_row _ _ _ _ _ _ hblk]; rfl
  have b1 : w2.cell? ⟨w.heap.size, 1, none⟩ = some (.string name) := by rw [cell_of_row _ _ _ _ _ _ hblk]; rfl
  have b2 : w2.cell? ⟨w.heap.size, 2, none⟩ = some (.int .i64 n) := by rw [cell_of_row _ _ _ _ _ _ hblk]; rfl
  have b3 : w2.cell? ⟨w.heap.size, 3, none⟩ = some (.int .i64 pos) := by rw [cell_of_row _ _ _ _ _ _ hblk]; rfl
  have b4 : w2.cell? ⟨w.heap.size, 4, none⟩ = some (.slice a kids.len cap) := by rw [cell_of_row _ _ _ _ _ _ hblk]; rfl
  have hbb := box_then hb2
  have hc2 := depth_any ⟨op, name, n, pos, a, cap, kids⟩ w2 (HT.out.below hbb) (by have := HS.out; omega)
  have HC2 := Lib.hid hc2
  clear hc2 hb2 hblk HC1
  go_wp2_with fail
  refine HC2.out.mono ?_
  rintro e w3 ⟨⟨d, rfl, hd⟩, hb3⟩
  have HD := Lib.hid hd
  clear hd
  go_wp2
  go_ret
  exact ⟨⟨d, HD.out, rfl⟩, hbb.trans (hb3.mono hbb.size)⟩
/-! nots of nots of true -/
def emp : ByteArray := ⟨#[]⟩
def tTrue : ByteArray := ⟨#[116, 114, 117, 101]⟩
def tNot : ByteArray := ⟨#[110, 111, 116]⟩
/-- So many nots, and true within. -/
def Fo.nots : Nat → Fo → Prop
  | 0, F => ∃ pos a cap, F = .cons tTrue emp 0 pos a cap .nil .nil
  | j + 1, F => ∃ pos a cap kids, F = .cons tNot emp 0 pos a cap kids .nil ∧ Fo.nots j kids
def Nd.nots : Nat → Nd → Prop
  | 0, T => T.op = tTrue ∧ T.name = emp ∧ T.n = 0 ∧ T.kids = .nil
  | j + 1, T => T.op = tNot ∧ T.name = emp ∧ T.n = 0 ∧ Fo.nots j T.kids
theorem nots_facts : ∀ (j : Nat) (F : Fo), F.nots j → F.len = 1 ∧ F.size = j + 1 ∧ F.deep = j + 1 ∧ F.line := by
  intro j
  induction j with
  | zero => rintro F ⟨pos, a, cap, rfl⟩; exact ⟨rfl, rfl, rfl, rfl, trivial⟩
  | succ j ih =>
    rintro F ⟨pos, a, cap, kids, rfl, h⟩
    obtain ⟨h1, h2, h3, h4⟩ := ih kids h
    refine ⟨rfl, ?_, ?_, rfl, h4⟩
    · show kids.size + 1 + 0 = _; omega
    · show max (kids.deep + 1) 0 = _; omega
theorem nd_nots_facts (j : Nat) (T : Nd) (h : T.nots j) : T.size = j + 1 ∧ T.deep = j + 1 ∧ T.line ∧ T.kids.len ≤ 1 := by
  cases j with
  | zero =>
    obtain ⟨_, _, _, h⟩ := h
    have h1 : T.size = T.kids.size + 1 := rfl
    have h2 : T.deep = T.kids.deep + 1 := rfl
    have h3 : T.line = T.kids.line := rfl
    rw [h1, h2, h3, h]
    exact ⟨rfl, rfl, trivial, Nat.zero_le _⟩
  | succ j =>
    obtain ⟨_, _, _, h⟩ := h
    obtain ⟨f1, f2, f3, f4⟩ := nots_facts j _ h
    have h1 : T.size = T.kids.size + 1 := rfl
    have h2 : T.deep = T.kids.deep + 1 := rfl
    exact ⟨by omega, by omega, f4, by omega⟩
set_option maxRecDepth 100000 in
set_option maxHeartbeats 4000000 in
theorem fits_none (op : ByteArray) (pos : Int) (a : Option Addr) (cap : Nat) (w : World) :
    Calls Tryd.prog 45 #[.agg #[.string op, .string ⟨#[]⟩, .int .i64 0, .int .i64 pos, .slice a 0 cap], .agg #[.bool false, .int .i64 0, .int .i64 0, .int .i64 0, .int .i64 0, .nilFunc]] w fun e w' => e = .returned (.bool true) ∧ Below w.heap.size w w' := by
  have hc5 := cellsNode
  go_enter Tryd.func45, Tryd.ntmps45
  go_wp2_with fail
  go_loopw [56] (fun i wr => i = .int .i64 0 ∧ Below w.heap.size w wr) (fun _ _ => 0)
  case atStart => exact ⟨rfl, ((Below.refl _ _).alloc (Nat.le_refl _) _).alloc (by simp) _⟩
  case round =>
    obtain ⟨rfl, hbx⟩ := hrel
    go_wp2_with fail
    go_ret
    exact ⟨rfl, hbx⟩
/-- tree.formula says of a node that it is one. -/
def SaysF (T : Nd) : Prop := ∀ w : World, T.In w → Calls Tryd.prog 30 #[T.val] w fun e w' => e = .returned (.bool true) ∧ Below w.heap.size w w'
set_option maxRecDepth 100000 in
set_option maxHeartbeats 4000000 in
theorem fits_one (op : ByteArray) (pos : Int) (b o cap : Nat) (op1 name1 : ByteArray) (n1 pos1 : Int) (a1 : Option Addr) (cap1 : Nat) (kids1 : Fo) (w : World)
    (hin : (Fo.cons op1 name1 n1 pos1 a1 cap1 kids1 .nil).In w b o) (hs : SaysF ⟨op1, name1, n1, pos1, a1, cap1, kids1⟩) :
    Calls Tryd.prog 45 #[.agg #[.string op, .string ⟨#[]⟩, .int .i64 0, .int .i64 pos, .slice (some ⟨b, o, none⟩) 1 cap], .agg #[.bool false, .int .i64 0, .int .i64 0, .int .i64 1, .int .i64 1, .func (.func 30) #[] #[]]] w fun e w' => e = .returned (.bool true) ∧ Below w.heap.size w w' := by
  have hc5 := cellsNode
  have HI := Lib.hid hin
  have HSF := Lib.hid hs
  clear hin hs
  go_enter Tryd.func45, Tryd.ntmps45
  go_wp2_with fail
  go_loopw [56] (fun i wr => (i = .int .i64 0 ∨ i = .int .i64 1) ∧ wr.cell? ⟨w.heap.size + 1, 5, none⟩ = some (.func (.func 30) #[] #[]) ∧ w.heap.size + 1 < wr.heap.size ∧ Below w.heap.size w wr) (fun i _ => 1 - (intOf i).toNat)
  case atStart =>
    refine ⟨.inl rfl, ?_, by simp, two_boxes _ _ _⟩
    have h1 : ∀ o1 : Obj, (w.alloc o1).heap.size = w.heap.size + 1 := fun o1 => alloc_size w o1
    have h2 := fun o1 o2 : Obj => new_at (w.alloc o1) o2
    simp only [h1] at h2
    rw [cell_of_row _ _ _ _ _ _ (h2 _ _)]
    rfl
  case round =>
    obtain ⟨hi, hbx5, hroom, hbx⟩ := hrel
    rcases hi with rfl | rfl
    · obtain ⟨⟨c0, c1, c2, c3, c4⟩, hin1, _⟩ := HI.out.below hbx
      have HX := Lib.hid hbx5
      have HN : RowKit.Hid (Nd.In wr ⟨op1, name1, n1, pos1, a1, cap1, kids1⟩) := Lib.hid hin1
      clear hin1
      go_wp2_with fail
      have hcall := HSF.out _ (HN.out.below (below_box wr (boxOf op1 name1 n1 pos1 a1 kids1.len cap1)))
      rw [Nd.val_def] at hcall
      refine hcall.mono ?_
      rintro e w2 ⟨rfl, hb2⟩
      have hb3 := box_then hb2
      have hx2 := cell_below hb3 HX.out
      have hr2 : w.heap.size + 1 < w2.heap.size := Nat.lt_of_lt_of_le hroom hb3.size
      have hbx2 := hbx.trans (hb3.mono hbx.size)
      have HX2 := Lib.hid hx2
      clear hx2 hb2 hb3 hcall HX hbx5
      go_wp2_with fail
      go_roundw
      case rel => exact ⟨.inr (by go_num), HX2.out, hr2, hbx2⟩
      case measure => (try simp [intOf]); try omega
    · clear hbx5
      go_wp2_with fail
      go_ret
      exact ⟨rfl, hbx⟩
end Go.Proofs.YtmmicnjiikiklaaDoor
namespace Go.Proofs.YtmmicnjiikiklaaDoor
open Go.RowKit
/-! tree.formula of nots; IsFormula, IsTerm; what the law's known asks. -/
set_option maxRecDepth 100000 in
set_option maxHeartbeats 4000000 in
theorem formula_true (pos : Int) (a : Option Addr) (cap : Nat) (w : World) : Calls Tryd.prog 30 #[.agg #[.string ⟨#[116, 114, 117, 101]⟩, .string ⟨#[]⟩, .int .i64 0, .int .i64 pos, .slice a 0 cap]] w fun e w' => e = .returned (.bool true) ∧ Below w.heap.size w w' := by
  have hc5 := cellsNode
  have hcall := fits_none ⟨#[116, 114, 117, 101]⟩ pos a cap (w.alloc (boxOf ⟨#[116, 114, 117, 101]⟩ ⟨#[]⟩ 0 pos a 0 cap))
  have HC := Lib.hid hcall
  clear hcall
  go_enter Tryd.func30, Tryd.ntmps30
  go_wp2_with fail
  refine HC.out.mono ?_
  rintro e w2 ⟨rfl, hb2⟩
  have hb3 := box_then hb2
  go_wp2
  go_ret
  exact ⟨rfl, hb3⟩
set_option maxRecDepth 100000 in
set_option maxHeartbeats 4000000 in
theorem formula_not (pos : Int) (b o cap : Nat) (op1 name1 : ByteArray) (n1 pos1 : Int) (a1 : Option Addr) (cap1 : Nat) (kids1 : Fo) (w : World)
    (hin : (Fo.cons op1 name1 n1 pos1 a1 cap1 kids1 .nil).In w b o) (hs : SaysF ⟨op1, name1, n1, pos1, a1, cap1, kids1⟩) :
    Calls Tryd.prog 30 #[.agg #[.string ⟨#[110, 111, 116]⟩, .string ⟨#[]⟩, .int .i64 0, .int .i64 pos, .slice (some ⟨b, o, none⟩) 1 cap]] w fun e w' => e = .returned (.bool true) ∧ Below w.heap.size w w' := by
  have hc5 := cellsNode
  have hcall := fits_one ⟨#[110, 111, 116]⟩ pos b o cap op1 name1 n1 pos1 a1 cap1 kids1 (w.alloc (boxOf ⟨#[110, 111, 116]⟩ ⟨#[]⟩ 0 pos (some ⟨b, o, none⟩) 1 cap)) (hin.below (below_box _ _)) hs
  have HC := Lib.hid hcall
  clear hcall hs hin
  go_enter Tryd.func30, Tryd.ntmps30
  go_wp2_with fail
  refine HC.out.mono ?_
  rintro e w2 ⟨rfl, hb2⟩
  have hb3 := box_then hb2
  go_wp2
  go_ret
  exact ⟨rfl, hb3⟩
theorem formula_nots : ∀ (j : Nat) (T : Nd), T.nots j → SaysF T := by
  intro j
  induction j with
  | zero =>
    rintro ⟨op, name, n, pos, a, cap, kids⟩ ⟨rfl, rfl, rfl, rfl⟩ w _
    exact formula_true pos a cap w
  | succ j ih =>
    rintro ⟨op, name, n, pos, a, cap, kids⟩ ⟨rfl, rfl, rfl, hk⟩ w hin
    have hk' : kids.nots j := hk
    obtain ⟨op1, name1, n1, pos1, a1, cap1, kids1, rfl, hn1⟩ : ∃ op1 name1 n1 pos1 a1 cap1 kids1, kids = .cons op1 name1 n1 pos1 a1 cap1 kids1 .nil ∧ Nd.nots j ⟨op1, name1, n1, pos1, a1, cap1, kids1⟩ := by
      cases j with
      | zero => obtain ⟨pos, a, cap, rfl⟩ := hk'; exact ⟨_, _, _, _, _, _, _, rfl, rfl, rfl, rfl, rfl⟩
      | succ j => obtain ⟨pos, a, cap, kids, rfl, h⟩ := hk'; exact ⟨_, _, _, _, _, _, _, rfl, rfl, rfl, rfl, h⟩
    rcases hin with h | ⟨b, o, hab, _, _, hin⟩
    · cases h
    · obtain rfl : a = some ⟨b, o, none⟩ := hab
      exact formula_not pos b o cap op1 name1 n1 pos1 a1 cap1 kids1 w hin (ih _ hn1)
set_option maxRecDepth 100000 in
set_option maxHeartbeats 4000000 in
/-- tree.IsFormula of a node of which tree.formula's answer is known. -/
theorem isFormula_of (T : Nd) (b : Bool) (w : World) (hT : T.In w) (hs : T.size ≤ 2000) (hl : T.line) (hf : ∀ w : World, T.In w → Calls Tryd.prog 30 #[T.val] w fun e w' => e = .returned (.bool b) ∧ Below w.heap.size w w') :
    Calls Tryd.prog 18 #[T.val] w fun e w' => e = .returned (.bool (decide (T.deep ≤ 30) && b)) ∧ Below w.heap.size w w' := by
  obtain ⟨op, name, n, pos, a, cap, kids⟩ := T
  have hc1 := inBounds_any ⟨op, name, n, pos, a, cap, kids⟩ (w.alloc (boxOf op name n pos a kids.len cap)) (hT.below (below_box _ _)) hs
  have HC1 := Lib.hid hc1
  have HT := Lib.hid hT
  have HF := Lib.hid hf
  have HL := Lib.hid hl
  have HB := Lib.hid (new_at w (boxOf op name n pos a kids.len cap))
  have hc5 := cellsNode
  have HZ := Lib.hid (alloc_size w (boxOf op name n pos a kids.len cap))
  clear hc1 hT hs hl hf
  rw [Nd.val_def]
  generalize hdd : (Nd.mk op name n pos a cap kids).deep = dd
  have HDD := Lib.hid hdd
  clear hdd
  go_enter Tryd.func18, Tryd.ntmps18
  go_wp2_with fail
  refine HC1.out.mono ?_
  rintro e w2 ⟨⟨d, hd, rfl⟩, hb2⟩
  have hdv := hd.2.2.2 HL.out
  rw [HDD.out] at hdv
  have hblk : w2.heap[w.heap.size]? = some (boxOf op name n pos a kids.len cap) := by
    rw [hb2.block _ (by have := HZ.out; omega)]; exact HB.out
  obtain ⟨b0, b1, b2, b3, b4⟩ := box_cells hblk
  have hbb := box_then hb2
  have hc2 := HF.out w2 (HT.out.below hbb)
  rw [Nd.val_def] at hc2
  have HC2 := Lib.hid hc2
  clear hc2 hb2 hblk HC1 hd
  by_cases h30 : dd ≤ 30
  · have hd30 : d ≤ 30 := by omega
    have he : decide (dd ≤ 30) = true := by simpa using h30
    have HE := Lib.hid he
    clear hdv he h30
    go_wp2_with fail
    refine HC2.out.mono ?_
    rintro e w3 ⟨rfl, hb3⟩
    go_wp2
    go_ret
    exact ⟨by rw [HE.out]; rfl, hbb.trans (hb3.mono hbb.size)⟩
  · have hd30 : ¬ d ≤ 30 := by omega
    have he : decide (dd ≤ 30) = false := by simpa using h30
    have HE := Lib.hid he
    clear hdv he h30
    go_wp2_with fail
    go_ret
    exact ⟨by rw [HE.out]; rfl, hbb⟩
end Go.Proofs.YtmmicnjiikiklaaDoor
namespace Go.Proofs.YtmmicnjiikiklaaDoor
open Go.RowKit
/-! tree.IsTerm; what is neither; the law's known. -/
set_option maxRecDepth 100000 in
set_option maxHeartbeats 4000000 in
/-- tree.IsTerm of a node of which tree.term's answer is known. -/
theorem isTerm_of (T : Nd) (b : Bool) (w : World) (hT : T.In w) (hs : T.size ≤ 2000) (hl : T.line) (hf : ∀ w : World, T.In w → Calls Tryd.prog 36 #[T.val] w fun e w' => e = .returned (.bool b) ∧ Below w.heap.size w w') :
    Calls Tryd.prog 24 #[T.val] w fun e w' => e = .returned (.bool (decide (T.deep ≤ 30) && b)) ∧ Below w.heap.size w w' := by
  obtain ⟨op, name, n, pos, a, cap, kids⟩ := T
  have hc1 := inBounds_any ⟨op, name, n, pos, a, cap, kids⟩ (w.alloc (boxOf op name n pos a kids.len cap)) (hT.below (below_box _ _)) hs
  have HC1 := Lib.hid hc1
  have HT := Lib.hid hT
  have HF := Lib.hid hf
  have HL := Lib.hid hl
  have HB := Lib.hid (new_at w (boxOf op name n pos a kids.len cap))
  have hc5 := cellsNode
  have HZ := Lib.hid (alloc_size w (boxOf op name n pos a kids.len cap))
  clear hc1 hT hs hl hf
  rw [Nd.val_def]
  generalize hdd : (Nd.mk op name n pos a cap kids).deep = dd
  have HDD := Lib.hid hdd
  clear hdd
  go_enter Tryd.func24, Tryd.ntmps24
  go_wp2_with fail
  refine HC1.out.mono ?_
  rintro e w2 ⟨⟨d, hd, rfl⟩, hb2⟩
  have hdv := hd.2.2.2 HL.out
  rw [HDD.out] at hdv
  have hblk : w2.heap[w.heap.size]? = some (boxOf op name n pos a kids.len cap) := by
    rw [hb2.block _ (by have := HZ.out; omega)]; exact HB.out
  obtain ⟨b0, b1, b2, b3, b4⟩ := box_cells hblk
  have hbb := box_then hb2
  have hc2 := HF.out w2 (HT.out.below hbb)
  rw [Nd.val_def] at hc2
  have HC2 := Lib.hid hc2
  clear hc2 hb2 hblk HC1 hd
  by_cases h30 : dd ≤ 30
  · have hd30 : d ≤ 30 := by omega
    have he : decide (dd ≤ 30) = true := by simpa using h30
    have HE := Lib.hid he
    clear hdv he h30
    go_wp2_with fail
    refine HC2.out.mono ?_
    rintro e w3 ⟨rfl, hb3⟩
    go_wp2
    go_ret
    exact ⟨by rw [HE.out]; rfl, hbb.trans (hb3.mono hbb.size)⟩
  · have hd30 : ¬ d ≤ 30 := by omega
    have he : decide (dd ≤ 30) = false := by simpa using h30
    have HE := Lib.hid he
    clear hdv he h30
    go_wp2_with fail
    go_ret
    exact ⟨by rw [HE.out]; rfl, hbb⟩

set_option maxRecDepth 100000 in
set_option maxHeartbeats 4000000 in
theorem joins_not (name : ByteArray) (n pos : Int) (a : Option Addr) (k cap : Nat) (w : World) : Calls Tryd.prog 56 #[.agg #[.string ⟨#[110, 111, 116]⟩, .string name, .int .i64 n, .int .i64 pos, .slice a k cap]] w fun e w' => e = .returned (.bool false) ∧ Below w.heap.size w w' := by
  have hc5 := cellsNode
  go_enter Tryd.func56, Tryd.ntmps56
  go_wp2
  go_ret
  exact ⟨rfl, below_box _ _⟩
set_option maxRecDepth 100000 in
set_option maxHeartbeats 4000000 in
theorem term_not (name : ByteArray) (n pos : Int) (a : Option Addr) (k cap : Nat) (w : World) : Calls Tryd.prog 36 #[.agg #[.string ⟨#[110, 111, 116]⟩, .string name, .int .i64 n, .int .i64 pos, .slice a k cap]] w fun e w' => e = .returned (.bool false) ∧ Below w.heap.size w w' := by
  have hc5 := cellsNode
  have HC := Lib.hid (joins_not name n pos a k cap (w.alloc (boxOf ⟨#[110, 111, 116]⟩ name n pos a k cap)))
  go_enter Tryd.func36, Tryd.ntmps36
  go_wp2_with fail
  refine HC.out.mono ?_
  rintro e w2 ⟨rfl, hb2⟩
  have hb3 := box_then hb2
  go_wp2
  go_ret
  exact ⟨rfl, hb3⟩
set_option maxRecDepth 100000 in
set_option maxHeartbeats 4000000 in
theorem formula_empty (name : ByteArray) (n pos : Int) (a : Option Addr) (k cap : Nat) (w : World) : Calls Tryd.prog 30 #[.agg #[.string ⟨#[]⟩, .string name, .int .i64 n, .int .i64 pos, .slice a k cap]] w fun e w' => e = .returned (.bool false) ∧ Below w.heap.size w w' := by
  have hc5 := cellsNode
  go_enter Tryd.func30, Tryd.ntmps30
  go_wp2_with fail
  go_ret
  exact ⟨rfl, below_box _ _⟩
end Go.Proofs.YtmmicnjiikiklaaDoor
namespace Go.Proofs.YtmmicnjiikiklaaDoor
open Go.RowKit
/-- The node that the law's known asks of: not of true. -/
def K1 (B : Nat) : Nd := ⟨tNot, emp, 0, 0, some ⟨B, 0, none⟩, 1, .cons tTrue emp 0 0 none 0 .nil .nil⟩
theorem k1_nots (B : Nat) : (K1 B).nots 1 := ⟨rfl, rfl, rfl, 0, none, 0, rfl⟩
theorem k1_in {W : World} {B : Nat} (h : W.heap[B]? = some (boxOf tTrue emp 0 0 none 0 0)) : (K1 B).In W := by
  obtain ⟨h0, h1, h2, h3, h4⟩ := box_cells h
  refine .inr ⟨B, 0, rfl, by show 1 ≤ _; omega, ⟨Nat.lt_succ_self 0, ?_⟩, ⟨⟨h0, h1, h2, h3, h4⟩, .inl rfl, trivial⟩⟩
  unfold World.frozen?
  simp only [h]
  rfl
/-- The world in which that node lies. -/
def KW (w W : World) : Prop := W.heap[w.heap.size]? = some (boxOf tTrue emp 0 0 none 0 0) ∧ W.heap[w.heap.size + 1]? = some (boxOf tNot emp 0 0 (some ⟨w.heap.size, 0, none⟩) 1 1) ∧ Below w.heap.size w W
theorem KW.next {w W W' : World} (h : KW w W) (hb : Below W.heap.size W W') : KW w W' :=
  ⟨by rw [hb.block _ (lt_heap h.1)]; exact h.1, by rw [hb.block _ (lt_heap h.2.1)]; exact h.2.1, h.2.2.trans (hb.mono h.2.2.size)⟩
theorem KW.start (w : World) : KW w ((w.alloc (boxOf tTrue emp 0 0 none 0 0)).alloc (boxOf tNot emp 0 0 (some ⟨w.heap.size, 0, none⟩) 1 1)) := by
  refine ⟨?_, ?_, two_boxes _ _ _⟩
  · rw [Below.heap_alloc _ _ _ (by simp)]; exact new_at _ _
  · have := new_at (w.alloc (boxOf tTrue emp 0 0 none 0 0)) (boxOf tNot emp 0 0 (some ⟨w.heap.size, 0, none⟩) 1 1)
    rw [alloc_size] at this
    exact this
theorem k1_facts (B : Nat) : (K1 B).size = 2 ∧ (K1 B).deep = 2 ∧ (K1 B).line ∧ (K1 B).kids.len ≤ 1 := nd_nots_facts 1 _ (k1_nots B)
abbrev k1V (B : Nat) : Value := .agg #[.string ⟨#[110, 111, 116]⟩, .string ⟨#[]⟩, .int .i64 0, .int .i64 0, .slice (some ⟨B, 0, none⟩) 1 1]
theorem k_depth {w W : World} (h : KW w W) : Calls Tryd.prog 22 #[k1V w.heap.size] W fun e w' => e = .returned (.int .i64 2) ∧ KW w w' := by
  obtain ⟨f1, f2, f3, _⟩ := k1_facts w.heap.size
  refine (depth_any (K1 w.heap.size) W (k1_in h.1) (by rw [f1]; omega)).mono ?_
  rintro e w' ⟨⟨d, rfl, hd⟩, hb⟩
  have := hd.2.2.2 f3
  rw [f2] at this
  have h2 : d = 2 := by omega
  rw [h2]
  exact ⟨rfl, h.next hb⟩
theorem k_size {w W : World} (h : KW w W) : Calls Tryd.prog 23 #[k1V w.heap.size] W fun e w' => e = .returned (.int .i64 2) ∧ KW w w' := by
  obtain ⟨f1, _, _, _⟩ := k1_facts w.heap.size
  refine (tsize_any (K1 w.heap.size) W (k1_in h.1)).mono ?_
  rintro e w' ⟨rfl, hb⟩
  rw [f1]
  exact ⟨rfl, h.next hb⟩
theorem k_form {w W : World} (h : KW w W) : Calls Tryd.prog 18 #[k1V w.heap.size] W fun e w' => e = .returned (.bool true) ∧ KW w w' := by
  obtain ⟨f1, f2, f3, _⟩ := k1_facts w.heap.size
  refine (isFormula_of (K1 w.heap.size) true W (k1_in h.1) (by rw [f1]; omega) f3 (formula_nots 1 _ (k1_nots _))).mono ?_
  rintro e w' ⟨rfl, hb⟩
  rw [f2]
  exact ⟨rfl, h.next hb⟩
theorem k_term {w W : World} (h : KW w W) : Calls Tryd.prog 24 #[k1V w.heap.size] W fun e w' => e = .returned (.bool false) ∧ KW w w' := by
  obtain ⟨f1, f2, f3, _⟩ := k1_facts w.heap.size
  refine (isTerm_of (K1 w.heap.size) false W (k1_in h.1) (by rw [f1]; omega) f3 (fun W' _ => term_not _ _ _ _ _ _ W')).mono ?_
  rintro e w' ⟨rfl, hb⟩
  rw [f2]
  exact ⟨rfl, h.next hb⟩
theorem k_empty {w W : World} (h : KW w W) : Calls Tryd.prog 18 #[.agg #[.string ⟨#[]⟩, .string ⟨#[]⟩, .int .i64 0, .int .i64 0, .slice none 0 0]] W fun e w' => e = .returned (.bool false) ∧ KW w w' := by
  refine (isFormula_of ⟨emp, emp, 0, 0, none, 0, .nil⟩ false W (.inl rfl) (show (0 + 1 : Nat) ≤ 2000 by omega) (show Fo.line .nil from trivial) (fun W' _ => formula_empty _ _ _ _ _ _ W')).mono ?_
  rintro e w' ⟨rfl, hb⟩
  exact ⟨rfl, h.next hb⟩
set_option maxRecDepth 100000 in
set_option maxHeartbeats 8000000 in
theorem tknown_any (w : World) : Calls Tryd.prog 10 #[] w fun e w' => e = .returned (.bool true) ∧ Below w.heap.size w w' := by
  have hc5 := cellsNode
  have H0 := Lib.hid (KW.start w)
  go_enter Tryd.func10, Tryd.ntmps10
  go_wp2_with fail
  have HC1 := Lib.hid (k_depth H0.out)
  refine HC1.out.mono ?_
  rintro e w1 ⟨rfl, h1⟩
  obtain ⟨b0, b1, b2, b3, b4⟩ := box_cells h1.2.1
  have HK1 := Lib.hid h1
  clear h1 HC1
  go_wp2_with fail
  have HC2 := Lib.hid (k_size HK1.out)
  refine HC2.out.mono ?_
  rintro e w2 ⟨rfl, h2⟩
  clear b0 b1 b2 b3 b4 HC2
  obtain ⟨b0, b1, b2, b3, b4⟩ := box_cells h2.2.1
  have HK2 := Lib.hid h2
  clear h2
  go_wp2_with fail
  have HC3 := Lib.hid (k_form HK2.out)
  refine HC3.out.mono ?_
  rintro e w3 ⟨rfl, h3⟩
  clear b0 b1 b2 b3 b4 HC3
  obtain ⟨b0, b1, b2, b3, b4⟩ := box_cells h3.2.1
  have HK3 := Lib.hid h3
  clear h3
  go_wp2_with fail
  have HC4 := Lib.hid (k_term HK3.out)
  refine HC4.out.mono ?_
  rintro e w4 ⟨rfl, h4⟩
  have HK4 := Lib.hid h4
  clear h4 b0 b1 b2 b3 b4 HC4
  go_wp2_with fail
  have HC5 := Lib.hid (k_empty HK4.out)
  refine HC5.out.mono ?_
  rintro e w5 ⟨rfl, h5⟩
  go_wp2
  go_ret
  exact ⟨rfl, h5.2.2⟩
end Go.Proofs.YtmmicnjiikiklaaDoor
