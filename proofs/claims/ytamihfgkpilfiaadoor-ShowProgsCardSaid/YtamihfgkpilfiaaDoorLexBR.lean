/- runes.Class, runes.Each, the words, names and numbers of lex. -/
import Derived.Test.YtamihfgkpilfiaaDoorLexA
import Derived.Test.YtamihfgkpilfiaaDoorRows
import Derived.Test.YtamihfgkpilfiaaDoorShelf
import Derived.WalkKit
import Derived.WalkLawsBesides
import Derived.WalkSpells
import Derived.ProofKit
import Derived.Outline
import Derived.Deep.QuietTactic
import Derived.BigQuiet
import Derived.Deep.Light
import Derived.Deep.CutBlock
import Derived.Deep.DeepCutAuto
import Derived.Deep.DeepFit
import Derived.Deep.LoopGhost
import Derived.Lib.Hide
import Derived.Lib.OthersKept
import Derived.IntWalk
namespace Go.Proofs.YtamihfgkpilfiaaDoor
open Go.RowKit
theorem ret_bool {a b : Bool} (h : a = b) : Ending.returned (.bool a) = .returned (.bool b) := by rw [h]
theorem Tryd.infoRune : (Tryd.prog.info? 102).map (fun i => (i.zero, i.size, i.bytes)) = some (some (.agg #[.int .i32 0, .int .i64 0]), 2, 16) := by kernel_rfl

def EachPost (s : ByteArray) (w : World) (e : Ending) (w' : World) : Prop :=
  ∃ v, e = .returned (.tuple #[v, .int .i64 (each s).2]) ∧ w'.ownsRow w.heap.size 102 2 v (each s).1.length (flat (each s).1) ∧ Below w.heap.size w w'

theorem ownsRow_iterAt {w : World} {base : Nat} {e : TypeId} {size : Nat} {v : Value} {n : Nat} {xs : List Value} (h : w.ownsRow base e size v n xs) {k : Nat} (hk : k < base) (s : ByteArray) (p : Nat) : (w.iterAt k s p).ownsRow base e size v n xs := by
  obtain ⟨h1, h2⟩ := h
  refine ⟨h1, ?_⟩
  rcases h2 with h2 | ⟨g, cap, cur, a, b, c, d⟩
  · exact .inl h2
  · exact .inr ⟨g, cap, cur, a, b, by rw [Lib.iterAt_other _ _ _ _ _ (by omega)]; exact c, d⟩
theorem ownsRow_base {w : World} {base base' : Nat} {e : TypeId} {size : Nat} {v : Value} {n : Nat} {xs : List Value} (h : w.ownsRow base e size v n xs) (hb : base' ≤ base) : w.ownsRow base' e size v n xs := by
  obtain ⟨h1, h2⟩ := h
  refine ⟨h1, ?_⟩
  rcases h2 with h2 | ⟨g, cap, cur, a, b, c⟩
  · exact .inl h2
  · exact .inr ⟨g, cap, cur, a, Nat.le_trans hb b, c⟩
theorem iterPos_of {w : World} {k : Nat} {s : ByteArray} {p : Nat} (h : w.heap[k]? = some (.stringIter s p)) : w.iterPos k = p := by simp [World.iterPos, h]
theorem cell_two_new (w : World) (a b : Value) (t : TypeId) : ∀ j u, [a, b][j]? = some u → (w.alloc (.cells #[a, b] t)).cell? ((⟨w.heap.size, 0, none⟩ : Addr).add j) = some u := by
  intro j u hj
  match j, hj with
  | 0, hj => simp at hj; subst hj; simp [Addr.add]
  | 1, hj => simp at hj; subst hj; simp [Addr.add]
  | j + 2, hj => simp at hj

theorem own_below {w w' : World} {B e size n : Nat} {v : Value} {xs : List Value} (h : w.ownsRow B e size v n xs) (hb : Below w.heap.size w w') : w'.ownsRow B e size v n xs := by
  obtain ⟨h1, h2⟩ := h
  refine ⟨h1, ?_⟩
  rcases h2 with h2 | ⟨g, cap, cur, a, b, c, d⟩
  · exact .inl h2
  · exact .inr ⟨g, cap, cur, a, b, by rw [hb.block g (lt_of_block c)]; exact c, d⟩

/-- The slice of the words. -/
def wrdsV (b : Nat) : Value := .slice (some ⟨b, 0, none⟩) 17 17
def wrdsCells : Array Value := (wrds.map Value.string).toArray
theorem var_below {w w' : World} {name : String} {cs : Array Value} (h : w.var? Tryd.prog name = some cs) (hb : Below w.heap.size w w') : w'.var? Tryd.prog name = some cs := by
  unfold World.var? at h ⊢
  rcases hg : Tryd.prog.globalNamed name with _ | g
  · rw [hg] at h; cases h
  · rw [hg] at h
    simp only [Option.bind_some] at h ⊢
    rcases ho : w.heap[g]? with _ | o
    · rw [ho] at h; cases h
    · have hlt : g < w.heap.size := (Array.getElem?_eq_some_iff.1 ho).1
      rw [hb.block g hlt]
      exact h
theorem bcell {W w1 : World} (hb : Below W.heap.size W w1) : (∀ b o, b < W.heap.size → w1.cell? ⟨b, o, none⟩ = W.cell? ⟨b, o, none⟩) ∧ (∀ b o, b < W.heap.size → w1.frozen? ⟨b, o, none⟩ = W.frozen? ⟨b, o, none⟩) :=
  ⟨fun b o h => hb.cell (p := ⟨b, o, none⟩) h, fun b o h => hb.frozen (p := ⟨b, o, none⟩) h⟩
theorem wrds_cells (w : World) : ∀ j, j < 17 → (w.alloc (.cells wrdsCells 9)).cell? ⟨w.heap.size, j, none⟩ = some (.string (wrds.getD j ByteArray.empty)) := by
  intro j hj
  rw [cell_of_row (w.alloc (.cells wrdsCells 9)) w.heap.size j wrdsCells 9 (0, 0) (by show (w.heap.push _)[w.heap.size]? = _; simp)]
  unfold wrdsCells
  simp only [List.getElem?_toArray, List.getElem?_map]
  rw [List.getElem?_eq_getElem (show j < wrds.length from hj), List.getD_eq_getElem?_getD, List.getElem?_eq_getElem (show j < wrds.length from hj)]
  rfl
/-- A block of four cells, known whole. -/
def Blk4 (w : World) (B : Nat) (a b c d : Value) : Prop := w.heap[B]? = some (.cells #[a, b, c, d] 72)
theorem blk4 {w : World} {B : Nat} {a b c d : Value} (h : Blk4 w B a b c d) : (w.cell? ⟨B, 0, none⟩ = some a ∧ w.cell? ⟨B, 1, none⟩ = some b ∧ w.cell? ⟨B, 2, none⟩ = some c ∧ w.cell? ⟨B, 3, none⟩ = some d) ∧ (w.frozen? ⟨B, 0, none⟩ = false ∧ w.frozen? ⟨B, 1, none⟩ = false ∧ w.frozen? ⟨B, 2, none⟩ = false ∧ w.frozen? ⟨B, 3, none⟩ = false) := by
  unfold Blk4 at h
  refine ⟨⟨?_, ?_, ?_, ?_⟩, ⟨?_, ?_, ?_, ?_⟩⟩
  all_goals first | (rw [cell_of_row w B _ _ _ _ h]; rfl) | simp [World.frozen?, h]
theorem blk4_new (w : World) (a b c d : Value) : Blk4 (w.alloc (.cells #[a, b, c, d] 72)) w.heap.size a b c d := by
  unfold Blk4; show (w.heap.push _)[w.heap.size]? = _; simp
theorem iter_heap1 (w : World) (o : Obj) (s : ByteArray) (p : Nat) : ((w.alloc o).iter s p).heap[w.heap.size + 1]? = some (.stringIter s p) := by
  have h := World.iter_heap (w.alloc o) s p
  rw [show (w.alloc o).heap.size = w.heap.size + 1 by simp] at h
  exact h
theorem Blk4.iter {w : World} {B : Nat} {a b c d : Value} (h : Blk4 w B a b c d) (s : ByteArray) (p : Nat) : Blk4 (w.iter s p) B a b c d := by
  unfold Blk4 at *
  have hlt : B < w.heap.size := (Array.getElem?_eq_some_iff.1 h).1
  show (w.heap.push _)[B]? = _
  rw [Array.getElem?_push_lt hlt, ← h, Array.getElem?_eq_getElem hlt]
theorem Blk4.iterAt {w : World} {B : Nat} {a b c d : Value} (h : Blk4 w B a b c d) (k : Nat) (hk : B ≠ k) (s : ByteArray) (p : Nat) : Blk4 (w.iterAt k s p) B a b c d := by
  unfold Blk4 at *
  rw [Lib.iterAt_other _ _ _ _ _ hk]; exact h
theorem Blk4.lt {w : World} {B : Nat} {a b c d : Value} (h : Blk4 w B a b c d) : B < w.heap.size := (Array.getElem?_eq_some_iff.1 h).1
theorem Blk4.below {w w' : World} {B : Nat} {a b c d : Value} (h : Blk4 w B a b c d) (hb : Below w.heap.size w w') : Blk4 w' B a b c d := by
  unfold Blk4 at *
  rw [hb.block B (Array.getElem?_eq_some_iff.1 h).1]; exact h
/-- A number's reading: what has been gathered, and what comes yet. -/
def numAt (s : ByteArray) (b pos : Nat) (a : Int) : Prop := (eachF s b pos).2 = -1 ∧ (∀ q ∈ (eachF s b pos).1, dgB q.1 = true) ∧ numV a (eachF s b pos).1 = numV 0 (each s).1
theorem numAt_start (s : ByteArray) (h : (each s).2 = -1) (hd : ∀ q ∈ (each s).1, dgB q.1 = true) : numAt s s.size 0 0 := ⟨h, hd, rfl⟩
theorem numAt_one {s : ByteArray} {b pos : Nat} {a : Int} (hp : pos < s.size) (h : numAt s (b + 1) pos a) (h0 : 0 ≤ a) (h9 : a ≤ 99) :
    (48 ≤ ((Utf8.decode s pos).1 : Int) ∧ ((Utf8.decode s pos).1 : Int) ≤ 57) ∧ numAt s b (pos + (Utf8.decode s pos).2) (10 * a + (((Utf8.decode s pos).1 : Int) - 48)) := by
  have hb : ¬ badAt s pos := by
    intro hb
    have := h.1
    rw [eachF_bad _ _ _ hp hb] at this; simp only [] at this; omega
  unfold numAt at h ⊢
  rw [eachF_one _ _ _ hp hb] at h
  have hq := h.2.1 _ (List.mem_cons_self ..)
  refine ⟨(dgB_iff _).1 hq, h.1, fun q hq => h.2.1 q (List.mem_cons_of_mem _ hq), ?_⟩
  rw [← h.2.2]
  exact (numV_one _ _ a h0 h9 hq).symm
theorem numAt_big {s : ByteArray} {b pos : Nat} {a : Int} (h : numAt s b pos a) (h9 : 99 < a) : 99 < numV 0 (each s).1 := by
  rw [← h.2.2]; exact numV_big _ _ h9
theorem numAt_end {s : ByteArray} {b pos : Nat} {a : Int} (hp : ¬ pos < s.size) (h : numAt s b pos a) : a = numV 0 (each s).1 := by
  have := h.2.2
  rw [eachF_end _ _ _ hp] at this
  exact this
/-- What is answered of digits. -/
def numOut (s : ByteArray) : Value × Bool :=
  if numV 0 (each s).1 ≤ 99 ∧ ¬ (s.get! 0 = 48 ∧ 1 < s.size) then (.agg #[.int .i64 2, .string ⟨#[]⟩, .int .i64 (numV 0 (each s).1), .int .i64 0], true)
  else (.agg #[.int .i64 0, .string ⟨#[]⟩, .int .i64 0, .int .i64 0], false)
def NumPost (s : ByteArray) (w : World) (e : Ending) (w' : World) : Prop := e = .returned (.tuple #[(numOut s).1, .bool (numOut s).2]) ∧ Below w.heap.size w w'
theorem numOut_no {s : ByteArray} (h : s.get! 0 = 48 ∧ 1 < s.size) : numOut s = (.agg #[.int .i64 0, .string ⟨#[]⟩, .int .i64 0, .int .i64 0], false) := by
  unfold numOut; rw [if_neg (fun x => x.2 h)]
theorem numOut_big {s : ByteArray} (h : 99 < numV 0 (each s).1) : numOut s = (.agg #[.int .i64 0, .string ⟨#[]⟩, .int .i64 0, .int .i64 0], false) := by
  unfold numOut; rw [if_neg (fun x => by omega)]
theorem numOut_ok {s : ByteArray} {a : Int} (h : a = numV 0 (each s).1) (h9 : a ≤ 99) (hn : ¬ (s.get! 0 = 48 ∧ 1 < s.size)) : numOut s = (.agg #[.int .i64 2, .string ⟨#[]⟩, .int .i64 a, .int .i64 0], true) := by
  unfold numOut; rw [if_pos ⟨by omega, hn⟩, ← h]
theorem NumPost.mk {s : ByteArray} {w w' : World} {v : Value} {b : Bool} (h : numOut s = (v, b)) (hb : Below w.heap.size w w') : NumPost s w (.returned (.tuple #[v, .bool b])) w' := by
  unfold NumPost; rw [h]; exact ⟨rfl, hb⟩
end Go.Proofs.YtamihfgkpilfiaaDoor
