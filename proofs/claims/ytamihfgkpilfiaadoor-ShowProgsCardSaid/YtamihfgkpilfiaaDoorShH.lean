/- The writer of package show: what a call that writes leaves; put of one, two, three, four, six; comma. -/
import Derived.Test.YtamihfgkpilfiaaDoorShK
import Derived.Test.YtamihfgkpilfiaaDoorLexA
import Derived.Test.YtamihfgkpilfiaaDoorRows
import Derived.WalkKit
import Derived.WalkLawsBesides
import Derived.WalkSpells
import Derived.ProofKit
import Derived.Outline
import Derived.Deep.QuietTactic
import Derived.BigQuiet
import Derived.Deep.Light
import Derived.Deep.CutBlock
import Derived.Deep.DeepCutAuto
import Derived.Deep.DeepFit
import Derived.Deep.LoopGhost
import Derived.Lib.Hide
import Derived.Lib.OthersKept
import Derived.IntWalk
import Derived.StillTailTactics
namespace Go.Proofs.YtamihfgkpilfiaaDoor
open Go.RowKit
/-! What stays behind each call. -/
theorem kept_below {b : Nat} {w w' : World} (h : Below w.heap.size w w') : KeptW b w w' := by
  intro k o hk _ _
  rw [h.block k (lt_heap hk)]; exact hk
theorem WB.lt {B b : Nat} {l : L8} {w : World} (h : WB B b l w) : B ≤ b ∧ b < w.heap.size := by
  rcases h with h | h
  · exact ⟨h.1, h.lt⟩
  · exact ⟨h.1, h.lt⟩
theorem bat_below {B b : Nat} {p : Value} {bs : List Value} {w w' : World} (h : Lib.BuilderAtF tW tU B b p bs w) (hb : Below w.heap.size w w') : Lib.BuilderAtF tW tU B b p bs w' := by
  obtain ⟨h1, v, h2, ⟨h3, h4⟩, h5⟩ := h
  refine ⟨h1, v, by rw [hb.block b (lt_heap h2)]; exact h2, ⟨h3, ?_⟩, h5⟩
  rcases h4 with h4 | ⟨g, cap, cur, fz, hv, hBg, hg, r⟩
  · exact .inl h4
  · exact .inr ⟨g, cap, cur, fz, hv, hBg, by rw [hb.block g (lt_heap hg)]; exact hg, r⟩
theorem WB.below {B b : Nat} {l : L8} {w w' : World} (h : WB B b l w) (hb : Below w.heap.size w w') : WB B b l w' := by
  rcases h with h | h
  · exact .inl (bat_below h hb)
  · exact .inr (bat_below h hb)
theorem WB.alloc {B b : Nat} {l : L8} {w : World} (h : WB B b l w) (o : Obj) : WB B b l (w.alloc o) := h.below (below_box _ _)
/-- A node that lies below a number of blocks. -/
def TIn (B : Nat) (T : Nd) (w : World) : Prop := ∃ w0 : World, w0.heap.size = B ∧ T.In w0 ∧ Below B w0 w
theorem TIn.now {B : Nat} {T : Nd} {w : World} (h : TIn B T w) : T.In w := by
  obtain ⟨w0, rfl, h1, h2⟩ := h
  exact h1.below h2
theorem TIn.size {B : Nat} {T : Nd} {w : World} (h : TIn B T w) : B ≤ w.heap.size := by
  obtain ⟨w0, rfl, h1, h2⟩ := h
  exact h2.size
theorem TIn.next {B : Nat} {T : Nd} {w w' : World} (h : TIn B T w) (hb : Below B w w') : TIn B T w' := by
  obtain ⟨w0, h0, h1, h2⟩ := h
  exact ⟨w0, h0, h1, h2.trans hb⟩
theorem TIn.alloc {B : Nat} {T : Nd} {w : World} (h : TIn B T w) (o : Obj) : TIn B T (w.alloc o) := h.next ((below_box w o).mono h.size)
theorem TIn.kid {B i : Nat} {T x : Nd} {w : World} (h : TIn B T w) (hx : T.kids.nth i = some x) : TIn B x w := by
  obtain ⟨w0, h0, h1, h2⟩ := h
  refine ⟨w0, h0, ?_, h2⟩
  rcases h1 with h1 | ⟨b, o, _, _, _, hin⟩
  · rw [h1] at hx; cases hx
  · exact (Fo.nth_at hin hx).2.2
/-- What a call that writes leaves. -/
def WPost (B b : Nat) (l : L8) (w : World) (e : Ending) (w' : World) : Prop := e = .returned (.tuple #[]) ∧ (WB B b l w' ∧ Below B w w' ∧ KeptW b w w')
theorem WPost.from {B b : Nat} {l : L8} {w w1 w' : World} {e : Ending} (h : WPost B b l w1 e w') (hb : Below B w w1) (hk : KeptW b w w1) : WPost B b l w e w' := ⟨h.1, h.2.1, hb.trans h.2.2.1, hk.trans h.2.2.2⟩
theorem WPost.box {B b : Nat} {l : L8} {w w' : World} {o : Obj} {e : Ending} (h : WPost B b l (w.alloc o) e w') (hB : B ≤ w.heap.size) : WPost B b l w e w' := h.from ((below_box w o).mono hB) (kept_below (below_box w o))
theorem str_cells (w : World) (xs : List ByteArray) : ∀ i x, xs[i]? = some x → (w.alloc (.cells (xs.map Value.string).toArray 9)).cell? ⟨w.heap.size, i, none⟩ = some (.string x) := by
  intro i x h
  rw [cell_of_row _ _ _ _ _ _ (new_at _ _)]
  simp [h]
theorem put_new (B b : Nat) (l : L8) (xs : List ByteArray) (w : World) (h : WB B b l w) (hn : xs.length ≤ 100) (hlen : l.length + (cat xs).length ≤ 140737488351232) :
    Calls Tryd.prog 33 #[wAt b, .slice (some ⟨w.heap.size, 0, none⟩) xs.length xs.length] (w.alloc (.cells (xs.map Value.string).toArray 9)) (WPost B b (l ++ cat xs) w) := by
  have hlt := h.lt
  have hB : B ≤ w.heap.size := by omega
  have hS : Safe b w.heap.size (w.alloc (.cells (xs.map Value.string).toArray 9)) := by
    refine ⟨by omega, _, new_at _ _, ?_⟩
    intro c fz hx
    injection hx with _ h2 _
    exact absurd h2 (by decide)
  refine (put_any B b l w.heap.size xs xs.length _ (h.alloc _) hS (str_cells w xs) hn hlen (by simp; omega)).mono ?_
  rintro e w' ⟨h1, h2⟩
  exact WPost.box ⟨h1, h2⟩ hB
theorem put1 (B b : Nat) (l : L8) (x : ByteArray) (w : World) (h : WB B b l w) (hlen : l.length + x.data.toList.length ≤ 140737488351232) :
    Calls Tryd.prog 33 #[wAt b, .slice (some ⟨w.heap.size, 0, none⟩) 1 1] (w.alloc (.cells #[.string x] 9)) (WPost B b (l ++ x.data.toList) w) := by
  have := put_new B b l [x] w h (by simp) (by simpa [cat] using hlen)
  simpa [cat] using this
theorem put2 (B b : Nat) (l : L8) (x y : ByteArray) (w : World) (h : WB B b l w) (hlen : l.length + (x.data.toList ++ y.data.toList).length ≤ 140737488351232) :
    Calls Tryd.prog 33 #[wAt b, .slice (some ⟨w.heap.size, 0, none⟩) 2 2] (w.alloc (.cells #[.string x, .string y] 9)) (WPost B b (l ++ (x.data.toList ++ y.data.toList)) w) := by
  have := put_new B b l [x, y] w h (by simp) (by simpa [cat] using hlen)
  simpa [cat] using this
theorem put3 (B b : Nat) (l : L8) (x y z : ByteArray) (w : World) (h : WB B b l w) (hlen : l.length + (x.data.toList ++ y.data.toList ++ z.data.toList).length ≤ 140737488351232) :
    Calls Tryd.prog 33 #[wAt b, .slice (some ⟨w.heap.size, 0, none⟩) 3 3] (w.alloc (.cells #[.string x, .string y, .string z] 9)) (WPost B b (l ++ (x.data.toList ++ y.data.toList ++ z.data.toList)) w) := by
  have := put_new B b l [x, y, z] w h (by simp) (by simp only [cat, List.append_nil, List.append_assoc] at hlen ⊢; exact hlen)
  simpa [cat] using this
theorem put4 (B b : Nat) (l : L8) (x y z u : ByteArray) (w : World) (h : WB B b l w) (hlen : l.length + (x.data.toList ++ y.data.toList ++ z.data.toList ++ u.data.toList).length ≤ 140737488351232) :
    Calls Tryd.prog 33 #[wAt b, .slice (some ⟨w.heap.size, 0, none⟩) 4 4] (w.alloc (.cells #[.string x, .string y, .string z, .string u] 9)) (WPost B b (l ++ (x.data.toList ++ y.data.toList ++ z.data.toList ++ u.data.toList)) w) := by
  have := put_new B b l [x, y, z, u] w h (by simp) (by simp only [cat, List.append_nil, List.append_assoc] at hlen ⊢; exact hlen)
  simpa [cat] using this
theorem put6 (B b : Nat) (l : L8) (x y z u v s : ByteArray) (w : World) (h : WB B b l w) (hlen : l.length + (x.data.toList ++ y.data.toList ++ z.data.toList ++ u.data.toList ++ v.data.toList ++ s.data.toList).length ≤ 140737488351232) :
    Calls Tryd.prog 33 #[wAt b, .slice (some ⟨w.heap.size, 0, none⟩) 6 6] (w.alloc (.cells #[.string x, .string y, .string z, .string u, .string v, .string s] 9)) (WPost B b (l ++ (x.data.toList ++ y.data.toList ++ z.data.toList ++ u.data.toList ++ v.data.toList ++ s.data.toList)) w) := by
  have := put_new B b l [x, y, z, u, v, s] w h (by simp) (by simp only [cat, List.append_nil, List.append_assoc] at hlen ⊢; exact hlen)
  simpa [cat] using this
theorem box_kept {b k : Nat} {op name : ByteArray} {n pos : Int} {a : Option Addr} {len cap : Nat} {w w' : World} (h : w.heap[k]? = some (boxOf op name n pos a len cap)) (hk : k ≠ b) (hK : KeptW b w w') : w'.heap[k]? = some (boxOf op name n pos a len cap) := by
  refine hK k _ h (by simpa using hk) ?_
  intro c fz hx
  injection hx with _ h2 _
  exact absurd h2 (by decide)
set_option maxRecDepth 100000 in
set_option maxHeartbeats 2000000 in
theorem comma_first (B b : Nat) (l : L8) (w : World) (h : WB B b l w) :
    Calls Tryd.prog 60 #[wAt b, .int .i64 0] w (WPost B b l w) := by
  go_enter Tryd.func60, Tryd.ntmps60
  go_wp2_with fail
  go_end0
  exact ⟨rfl, h, Below.refl _ _, Lib.OthersKept.refl _ _ _⟩
set_option maxRecDepth 100000 in
set_option maxHeartbeats 2000000 in
theorem comma_more (B b : Nat) (l : L8) (i : Nat) (w : World) (h : WB B b l w) (hlen : l.length + 2 ≤ 140737488351232) :
    Calls Tryd.prog 60 #[wAt b, .int .i64 ((i + 1 : Nat) : Int)] w (WPost B b (l ++ [44, 32]) w) := by
  have HC := Lib.hid (put1 B b l ⟨#[44, 32]⟩ w h hlen)
  have hi : (0 : Int) < ((i + 1 : Nat) : Int) := by omega
  go_enter Tryd.func60, Tryd.ntmps60
  go_wp2_with fail
  refine HC.out.mono ?_
  rintro e w2 ⟨rfl, hp⟩
  have HP := Lib.hid hp
  clear hp HC
  go_wp2_with fail
  go_end0
  exact ⟨rfl, HP.out⟩
end Go.Proofs.YtamihfgkpilfiaaDoor
