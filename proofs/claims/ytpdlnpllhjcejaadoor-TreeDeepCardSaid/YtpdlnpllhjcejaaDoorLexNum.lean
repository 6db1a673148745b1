/- What lex.number answers of a text of digits: the number, if it is no more than 99 and has no nought ahead. -/
import Derived.Test.YtpdlnpllhjcejaaDoorLexName
import Derived.Test.YtpdlnpllhjcejaaDoorLexPure2
import Derived.Test.YtpdlnpllhjcejaaDoorRows
import Derived.WalkKit
import Derived.WalkLawsBesides
import Derived.WalkSpells
import Derived.ProofKit
import Derived.Outline
import Derived.Deep.QuietTactic
import Derived.BigQuiet
import Derived.Deep.Light
import Derived.Deep.CutBlock
import Derived.Deep.DeepCutAuto
import Derived.Deep.DeepFit
import Derived.Deep.LoopGhost
import Derived.Lib.Hide
import Derived.Lib.OthersKept
import Derived.IntWalk
namespace Go.Proofs.YtpdlnpllhjcejaaDoor
open Go.RowKit
/-- A block of four cells, known whole. -/
def Blk4 (w : World) (B : Nat) (a b c d : Value) : Prop := w.heap[B]? = some (.cells #[a, b, c, d] 30)
theorem blk4 {w : World} {B : Nat} {a b c d : Value} (h : Blk4 w B a b c d) : (w.cell? ⟨B, 0, none⟩ = some a ∧ w.cell? ⟨B, 1, none⟩ = some b ∧ w.cell? ⟨B, 2, none⟩ = some c ∧ w.cell? ⟨B, 3, none⟩ = some d) ∧ (w.frozen? ⟨B, 0, none⟩ = false ∧ w.frozen? ⟨B, 1, none⟩ = false ∧ w.frozen? ⟨B, 2, none⟩ = false ∧ w.frozen? ⟨B, 3, none⟩ = false) := by
  unfold Blk4 at h
  refine ⟨⟨?_, ?_, ?_, ?_⟩, ⟨?_, ?_, ?_, ?_⟩⟩
  all_goals first | (rw [cell_of_row w B _ _ _ _ h]; rfl) | simp [World.frozen?, h]
theorem blk4_new (w : World) (a b c d : Value) : Blk4 (w.alloc (.cells #[a, b, c, d] 30)) w.heap.size a b c d := by
  unfold Blk4; show (w.heap.push _)[w.heap.size]? = _; simp
theorem iter_heap1 (w : World) (o : Obj) (s : ByteArray) (p : Nat) : ((w.alloc o).iter s p).heap[w.heap.size + 1]? = some (.stringIter s p) := by
  have h := World.iter_heap (w.alloc o) s p
  rw [show (w.alloc o).heap.size = w.heap.size + 1 by simp] at h
  exact h
theorem Blk4.iter {w : World} {B : Nat} {a b c d : Value} (h : Blk4 w B a b c d) (s : ByteArray) (p : Nat) : Blk4 (w.iter s p) B a b c d := by
  unfold Blk4 at *
  have hlt : B < w.heap.size := (Array.getElem?_eq_some_iff.1 h).1
  show (w.heap.push _)[B]? = _
  rw [Array.getElem?_push_lt hlt, ← h, Array.getElem?_eq_getElem hlt]
theorem Blk4.iterAt {w : World} {B : Nat} {a b c d : Value} (h : Blk4 w B a b c d) (k : Nat) (hk : B ≠ k) (s : ByteArray) (p : Nat) : Blk4 (w.iterAt k s p) B a b c d := by
  unfold Blk4 at *
  rw [Lib.iterAt_other _ _ _ _ _ hk]; exact h
theorem Blk4.lt {w : World} {B : Nat} {a b c d : Value} (h : Blk4 w B a b c d) : B < w.heap.size := (Array.getElem?_eq_some_iff.1 h).1
theorem Blk4.below {w w' : World} {B : Nat} {a b c d : Value} (h : Blk4 w B a b c d) (hb : Below w.heap.size w w') : Blk4 w' B a b c d := by
  unfold Blk4 at *
  rw [hb.block B (Array.getElem?_eq_some_iff.1 h).1]; exact h
/-- A number's reading: what has been gathered, and what comes yet. -/
def numAt (s : ByteArray) (b pos : Nat) (a : Int) : Prop := (eachF s b pos).2 = -1 ∧ (∀ q ∈ (eachF s b pos).1, dgB q.1 = true) ∧ numV a (eachF s b pos).1 = numV 0 (each s).1
theorem numAt_start (s : ByteArray) (h : (each s).2 = -1) (hd : ∀ q ∈ (each s).1, dgB q.1 = true) : numAt s s.size 0 0 := ⟨h, hd, rfl⟩
theorem numAt_one {s : ByteArray} {b pos : Nat} {a : Int} (hp : pos < s.size) (h : numAt s (b + 1) pos a) (h0 : 0 ≤ a) (h9 : a ≤ 99) :
    (48 ≤ ((Utf8.decode s pos).1 : Int) ∧ ((Utf8.decode s pos).1 : Int) ≤ 57) ∧ numAt s b (pos + (Utf8.decode s pos).2) (10 * a + (((Utf8.decode s pos).1 : Int) - 48)) := by
  have hb : ¬ badAt s pos := by
    intro hb
    have := h.1
    rw [eachF_bad _ _ _ hp hb] at this; simp only [] at this; omega
  unfold numAt at h ⊢
  rw [eachF_one _ _ _ hp hb] at h
  have hq := h.2.1 _ (List.mem_cons_self ..)
  refine ⟨(dgB_iff _).1 hq, h.1, fun q hq => h.2.1 q (List.mem_cons_of_mem _ hq), ?_⟩
  rw [← h.2.2]
  exact (numV_one _ _ a h0 h9 hq).symm
theorem numAt_big {s : ByteArray} {b pos : Nat} {a : Int} (h : numAt s b pos a) (h9 : 99 < a) : 99 < numV 0 (each s).1 := by
  rw [← h.2.2]; exact numV_big _ _ h9
theorem numAt_end {s : ByteArray} {b pos : Nat} {a : Int} (hp : ¬ pos < s.size) (h : numAt s b pos a) : a = numV 0 (each s).1 := by
  have := h.2.2
  rw [eachF_end _ _ _ hp] at this
  exact this
/-- What is answered of digits. -/
def numOut (s : ByteArray) : Value × Bool :=
  if numV 0 (each s).1 ≤ 99 ∧ ¬ (s.get! 0 = 48 ∧ 1 < s.size) then (.agg #[.int .i64 2, .string ⟨#[]⟩, .int .i64 (numV 0 (each s).1), .int .i64 0], true)
  else (.agg #[.int .i64 0, .string ⟨#[]⟩, .int .i64 0, .int .i64 0], false)
def NumPost (s : ByteArray) (w : World) (e : Ending) (w' : World) : Prop := e = .returned (.tuple #[(numOut s).1, .bool (numOut s).2]) ∧ Below w.heap.size w w'
theorem numOut_no {s : ByteArray} (h : s.get! 0 = 48 ∧ 1 < s.size) : numOut s = (.agg #[.int .i64 0, .string ⟨#[]⟩, .int .i64 0, .int .i64 0], false) := by
  unfold numOut; rw [if_neg (fun x => x.2 h)]
theorem numOut_big {s : ByteArray} (h : 99 < numV 0 (each s).1) : numOut s = (.agg #[.int .i64 0, .string ⟨#[]⟩, .int .i64 0, .int .i64 0], false) := by
  unfold numOut; rw [if_neg (fun x => by omega)]
theorem numOut_ok {s : ByteArray} {a : Int} (h : a = numV 0 (each s).1) (h9 : a ≤ 99) (hn : ¬ (s.get! 0 = 48 ∧ 1 < s.size)) : numOut s = (.agg #[.int .i64 2, .string ⟨#[]⟩, .int .i64 a, .int .i64 0], true) := by
  unfold numOut; rw [if_pos ⟨by omega, hn⟩, ← h]
theorem NumPost.mk {s : ByteArray} {w w' : World} {v : Value} {b : Bool} (h : numOut s = (v, b)) (hb : Below w.heap.size w w') : NumPost s w (.returned (.tuple #[v, .bool b])) w' := by
  unfold NumPost; rw [h]; exact ⟨rfl, hb⟩
set_option maxHeartbeats 2000000 in
theorem number_any (s : ByteArray) (w : World) (hs : s.size ≤ 1000000) (h1 : 1 ≤ s.size) (h : (each s).2 = -1) (hd : ∀ q ∈ (each s).1, dgB q.1 = true) :
    Calls Tryd.prog 67 #[.string s] w (NumPost s w) := by
  have HA := Lib.hid (numAt_start s h hd)
  clear h hd
  by_cases hn : s.get! 0 = 48 ∧ 1 < s.size
  · have HO := Lib.hid (numOut_no hn)
    have h2 : 1 < s.size := hn.2
    have hg : s[0]'h1 = 48 := by
      have : s.data.toList.getD 0 0 = 48 := by rw [Lib.getD_get!']; exact hn.1
      rw [List.getD_eq_getElem?_getD, List.getElem?_eq_getElem (by rw [← Lib.size_eq]; omega)] at this
      exact this
    have hg1 : ((s[0]'h1).toNat : Int) = 48 := by rw [hg]; rfl
    clear hn hg
    go_enter Tryd.func67, Tryd.ntmps67
    go_wp2
    exact bodyPost_ret (by simp [results, Tryd.results67, go_sem]) rfl
      (NumPost.mk HO.out ((Below.refl _ _).alloc (Nat.le_refl _) _))
  · have HNN := Lib.hid hn
    have key : ∀ (b : Bool), (decide (1 < (s.size : Int)) = b) → (b = true → ((s[0]'h1).toNat : Int) ≠ 48) → True := fun _ _ _ => trivial
    have hcase : ¬ (1 : Int) < (s.size : Int) ∨ ((1 : Int) < (s.size : Int) ∧ (((s[0]'h1).toNat : Int) == 48) = false) := by
      by_cases h2 : 1 < s.size
      · right
        refine ⟨by omega, ?_⟩
        rw [beq_eq_false_iff_ne]
        intro h48
        refine hn ⟨?_, h2⟩
        rw [← Lib.getD_get!', List.getD_eq_getElem?_getD, List.getElem?_eq_getElem (by rw [← Lib.size_eq]; omega)]
        exact UInt8.toNat_inj.1 (show (s[0]'h1).toNat = 48 by omega)
      · left; omega
    clear hn key
    rcases hcase with h2 | ⟨h2, h48⟩
    all_goals
      go_enter Tryd.func67, Tryd.ntmps67
      go_wp2
      go_loopw [4] (fun v wr => ∃ (pos b : Nat) (a : Int), v = .int .i64 a ∧ 0 ≤ a ∧ a ≤ 99 ∧ wr.heap[w.heap.size + 1]? = some (.stringIter s pos) ∧ Blk4 wr w.heap.size (.int .i64 0) (.string ⟨#[]⟩) (.int .i64 0) (.int .i64 0) ∧ Below w.heap.size w wr ∧ Hid (numAt s b pos a) ∧ s.size ≤ pos + b) (fun _ wr => s.size - wr.iterPos (w.heap.size + 1))
      case atStart => exact ⟨0, s.size, 0, rfl, by omega, by omega, iter_heap1 w _ s 0, (blk4_new w _ _ _ _).iter s 0, ((Below.refl _ _).alloc (Nat.le_refl _) _).alloc (by simp) _, HA.out, by omega⟩
      case round =>
        obtain ⟨pos, b, a, rfl, ha0, ha9, hit, hcl, hbw, HS, hb⟩ := hrel
        have hpos0 := iterPos_of hit
        clear HA
        by_cases hp : pos < s.size
        · have hnx : ∀ ty, (Instr.next (.pointer (some ⟨w.heap.size + 1, 0, none⟩)) true ty).run Tryd.prog wr = _ := fun ty => Lib.run_next_any_at wr (w.heap.size + 1) s pos ty hit hp
          have hwd := width_pos s pos hp
          have hwl := width_le s pos hp
          obtain ⟨b, rfl⟩ : ∃ f', b = f' + 1 := ⟨b - 1, by omega⟩
          have hit2 := Lib.iterAt_heap wr (w.heap.size + 1) s pos (pos + (Utf8.decode s pos).2) hit
          have hcl2 := hcl.iterAt (w.heap.size + 1) (by omega) s (pos + (Utf8.decode s pos).2)
          have hbw2 := Lib.below_iterAt hbw (k := w.heap.size + 1) (by omega) s (pos + (Utf8.decode s pos).2)
          obtain ⟨W1, hW1⟩ : ∃ W1, W1 = wr.iterAt (w.heap.size + 1) s (pos + (Utf8.decode s pos).2) := ⟨_, rfl⟩
          rw [← hW1] at hnx hit2 hbw2 hcl2
          have hst := numAt_one hp HS.out ha0 ha9
          obtain ⟨hr0, hr9⟩ := hst.1
          have HN := Lib.hid hst.2
          clear hW1 hit hbw HS hst hcl
          obtain ⟨⟨k0, k1, k2, k3⟩, f0, f1, f2, f3⟩ := blk4 hcl2
          have hlt2 := hcl2.lt
          by_cases h99 : 99 < 10 * a + (((Utf8.decode s pos).1 : Int) - 48)
          · have HO := Lib.hid (numOut_big (numAt_big HN.out h99))
            clear HN
            go_wp2
            exact bodyPost_ret (by simp [results, Tryd.results67, go_sem, k0, k1, k2, k3]) rfl
              (NumPost.mk HO.out ((((hbw2.setCell (by simp) _).setCell (by simp) _).setCell (by simp) _).setCell (by simp) _))
          · go_wp2
            go_roundw
            case rel => exact ⟨_, b, _, rfl, by omega, by omega, hit2, hcl2, hbw2, HN.out, by omega⟩
            case measure => rw [iterPos_of hit2, hpos0]; omega
        · have hnx : ∀ ty, (Instr.next (.pointer (some ⟨w.heap.size + 1, 0, none⟩)) true ty).run Tryd.prog wr = _ := fun ty => Lib.run_next_end_at wr (w.heap.size + 1) s pos ty hit hp
          have HO := Lib.hid (numOut_ok (numAt_end hp HS.out) ha9 HNN.out)
          obtain ⟨⟨k0, k1, k2, k3⟩, f0, f1, f2, f3⟩ := blk4 hcl
          have hlt2 := hcl.lt
          clear HS
          go_wp2
          exact bodyPost_ret (by simp [results, Tryd.results67, go_sem, k0, k1, k2, k3]) rfl
            (NumPost.mk HO.out ((((hbw.setCell (by simp) _).setCell (by simp) _).setCell (by simp) _).setCell (by simp) _))
end Go.Proofs.YtpdlnpllhjcejaaDoor
