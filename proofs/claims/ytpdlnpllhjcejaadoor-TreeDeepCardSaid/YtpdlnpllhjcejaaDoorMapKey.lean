/- A map whose keys bear addresses. -/
import Derived.Test.YtpdlnpllhjcejaaDoorNode
import Derived.Maps.OwnSet
import Derived.Test.YtpdlnpllhjcejaaDoorLexPure2
import Derived.Test.YtpdlnpllhjcejaaDoorRows
import Derived.WalkKit
import Derived.WalkLawsBesides
import Derived.WalkSpells
import Derived.ProofKit
import Derived.Outline
import Derived.Deep.QuietTactic
import Derived.BigQuiet
import Derived.Deep.Light
import Derived.Deep.CutBlock
import Derived.Deep.DeepCutAuto
import Derived.Deep.DeepFit
import Derived.Deep.LoopGhost
import Derived.Lib.Hide
import Derived.Lib.OthersKept
import Derived.IntWalk
import Derived.StillTailTactics
namespace Go.Proofs.YtpdlnpllhjcejaaDoor
open Go.RowKit
/-! A map whose keys bear addresses of rows: what a look-up and a store do, whatever is drawn. -/
/-- An address within a block of cells, not frozen there. -/
def Firm (w : World) (a : Addr) : Prop := (∃ c t fr, w.heap[a.block]? = some (.cells c t fr)) ∧ w.frozen? a = false
theorem Firm.drewN {w : World} {a : Addr} (h : Firm w a) (n : Nat) : Firm (w.drewN n) a := h
theorem sameAddr_any (P : Program) (w : World) (a b : Addr) (ha : Firm w a) (hb : Firm w b) : ∃ r k, (sameAddr a b).run P w = .ok r (w.drewN k) := by
  by_cases hbl : a.block = b.block
  · exact ⟨a == b, 0, by simp [sameAddr, hbl]; rfl⟩
  · obtain ⟨⟨ca, ta, fa, hca⟩, hfa⟩ := ha
    obtain ⟨⟨cb, tb, fb, hcb⟩, hfb⟩ := hb
    have hm : ∃ mb, (mayBeOne a b).run P w = .ok mb w := by
      simp [mayBeOne, stringish, hfa, hfb, hca, hcb, World.shape?]
    obtain ⟨mb, hm⟩ := hm
    cases mb with
    | false => exact ⟨false, 0, by simp [sameAddr, hbl, hfa, hfb, hca, hcb, noView, viewAt, World.shape?, hm]; rfl⟩
    | true =>
      refine ⟨(Question.extern "sameAddr.stringBytes" 2).cut (w.tape w.drawn (Question.extern "sameAddr.stringBytes" 2)) == 1, 1, ?_⟩
      simp [sameAddr, hbl, hfa, hfb, hca, hcb, noView, viewAt, World.shape?, hm, choose, Sem.run, Question.forced]
      rfl
/-- A key: a row's address, and how many there are. -/
abbrev keyV (a : Addr) (n : Nat) : Value := .agg #[.pointer (some a), .int .i64 n]
abbrev LT : TypeId := 75
theorem keyEq_any (w : World) (a b : Addr) (n m : Nat) (ha : Firm w a) (hb : Firm w b) : ∃ r k, (Op.equal LT (keyV a n) (keyV b m)).run Tryd.prog w = .ok r (w.drewN k) := by
  obtain ⟨r, k, hr⟩ := sameAddr_any Tryd.prog w a b ha hb
  have hS : Tryd.prog.underlying LT = some (.struct (Tryd.prog.fieldsOf LT)) := by kernel_rfl
  have hp : Tryd.prog.stoodInHeld LT = false := by kernel_rfl
  unfold Op.equal Op.maxDepth
  rw [show (10000 : Nat) = 9999 + 1 from rfl, run_equalIn_agg w 9999 LT _ _ hS hp]
  have u73 := Tryd.underlying73
  have a73 := Tryd.isAgg73
  have z73 := Tryd.sizeOf73
  have u3 := Tryd.underlying3
  have a3 := Tryd.isAgg3
  have z3 := Tryd.sizeOf3
  have z37 := Tryd.sizeOf37
  simp only [Program.fieldsOf, Tryd.underlying75]
  have he : (Op.equalIn 9999 73 (.pointer (some a)) (.pointer (some b))).run Tryd.prog w = .ok r (w.drewN k) := by
    rw [show (9999 : Nat) = 9998 + 1 from rfl, Op.equalIn]
    simp [run_underlying u73, z37, hr]
  go_simp
  cases r with
  | false => exact .inl ⟨k, by simp⟩
  | true =>
    by_cases hnm : (n : Int) = (m : Int)
    · exact .inr ⟨k, by simp [hnm]⟩
    · exact .inl ⟨k, by simp [hnm]⟩
/-- An entry of the map: its key's address is of a sort G. -/
def EntG (G : Addr → Prop) (e : MapEntry) : Prop := e.val = .agg #[] ∧ ∃ a n, e.key = keyV a n ∧ G a
theorem findAsking_any {G : Addr → Prop} (a : Addr) (n : Nat) : ∀ (es : List MapEntry) (i : Nat) (w : World), (∀ b, G b → Firm w b) → Firm w a → (∀ e ∈ es, EntG G e) →
    ∃ k, (Instr.findAsking LT (keyV a n) es i).run Tryd.prog w = .ok none (w.drewN k) ∨ ∃ j, (Instr.findAsking LT (keyV a n) es i).run Tryd.prog w = .ok (some (i + j, .agg #[])) (w.drewN k) ∧ j < es.length
  | [], i, w, _, _, _ => ⟨0, .inl (by simp [Instr.findAsking]; rfl)⟩
  | e :: es, i, w, hG, ha, hall => by
    obtain ⟨hv, b, m, hk, hb⟩ := hall e (by simp)
    obtain ⟨r, k, hr⟩ := keyEq_any w a b n m ha (hG b hb)
    cases r
    · obtain ⟨k2, h2⟩ := findAsking_any a n es (i + 1) (w.drewN k) (fun b hb => (hG b hb).drewN k) (ha.drewN k) (fun y hy => hall y (by simp [hy]))
      rcases h2 with h2 | ⟨j, h2, hj⟩
      · exact ⟨k + k2, .inl (by simp [Instr.findAsking, hk, hr, h2])⟩
      · exact ⟨k + k2, .inr ⟨j + 1, by simp [Instr.findAsking, hk, hr, h2, Nat.add_assoc, Nat.add_comm 1 j], by simp; omega⟩⟩
    · exact ⟨k, .inr ⟨0, by simp [Instr.findAsking, hk, hr, hv], by simp⟩⟩
theorem findKey_any {G : Addr → Prop} (a : Addr) (n : Nat) (es : List MapEntry) (w : World) (hG : ∀ b, G b → Firm w b) (ha : Firm w a) (hall : ∀ e ∈ es, EntG G e) :
    ∃ k, ((Instr.findKey LT (keyV a n) es).run Tryd.prog w = .ok none (w.drewN k)) ∨ ∃ j, (Instr.findKey LT (keyV a n) es).run Tryd.prog w = .ok (some (j, .agg #[])) (w.drewN k) ∧ j < es.length := by
  have hu := Tryd.underlying75
  cases es with
  | nil => exact ⟨0, .inl (by simp [Instr.findKey, run_underlying hu, Instr.findNow]; rfl)⟩
  | cons e es =>
    have h := findAsking_any a n (e :: es) 0 w hG ha hall
    have he : (Instr.findKey LT (keyV a n) (e :: es)).run Tryd.prog w = (Instr.findAsking LT (keyV a n) (e :: es) 0).run Tryd.prog w := by
      simp [Instr.findKey, run_underlying hu, Instr.findNow, Instr.sameNow]
    obtain ⟨k, h⟩ := h
    refine ⟨k, ?_⟩
    rw [he]
    rcases h with h | ⟨j, h, hj⟩
    · exact .inl h
    · exact .inr ⟨j, by rw [h, Nat.zero_add], hj⟩
theorem check_any (w : World) (em : Bool) (a : Addr) (n : Nat) : (Instr.checkKey em 10000 LT (keyV a n)).run Tryd.prog w = .ok () w := by
  have u73 := Tryd.underlying73
  have a73 := Tryd.isAgg73
  have z73 := Tryd.sizeOf73
  have u3 := Tryd.underlying3
  have a3 := Tryd.isAgg3
  have z3 := Tryd.sizeOf3
  have hu := Tryd.underlying75
  have c1 : ∀ (w : World) (x : Addr), (Instr.checkKey em 9999 73 (.pointer (some x))).run Tryd.prog w = .ok () w := by
    intro w x
    rw [show (9999 : Nat) = 9998 + 1 from rfl, Instr.checkKey]
    simp [run_underlying u73]
  have c2 : ∀ (w : World) (x : Int), (Instr.checkKey em 9999 3 (.int .i64 x)).run Tryd.prog w = .ok () w := by
    intro w x
    rw [show (9999 : Nat) = 9998 + 1 from rfl, Instr.checkKey]
    simp [run_underlying u3]
  rw [show (10000 : Nat) = 9999 + 1 from rfl, Instr.checkKey]
  simp only [Sem.run_bind, run_underlying hu, Result.andThen_ok]
  go_simp
abbrev MT : TypeId := 94
/-- A block is such a map. -/
def MapG (G : Addr → Prop) (w : World) (B : Nat) (es : Array MapEntry) : Prop := (∃ clock, w.heap[B]? = some (.map es clock)) ∧ ∀ e ∈ es.toList, EntG G e
theorem unit_zero (w : World) : (zeroValue 78).run Tryd.prog w = .ok (.agg #[]) w := by kernel_rfl
theorem lookup_any {G : Addr → Prop} (w : World) (B : Nat) (es : Array MapEntry) (h : MapG G w B es) (hG : ∀ b, G b → Firm w b) (a : Addr) (n : Nat) (ha : G a) :
    ∃ ok k, (es.size = 0 → ok = false) ∧ (Instr.lookup MT (.map (some B)) (keyV a n) true).run Tryd.prog w = .ok (.tuple #[.agg #[], .bool ok]) (w.drewN k) := by
  obtain ⟨⟨clock, hb⟩, hall⟩ := h
  obtain ⟨k, hk⟩ := findKey_any a n es.toList w hG (hG a ha) hall
  have ht := Tryd.underlying94
  rcases hk with hk | ⟨j, hk, hj⟩
  · refine ⟨false, k, fun _ => rfl, ?_⟩
    simp [Instr.lookup, run_underlying ht, MapKept.run_getObj_map hb, check_any, hk, Result.andThen]
  · refine ⟨true, k, fun h0 => by simp at hj; omega, ?_⟩
    simp [Instr.lookup, run_underlying ht, MapKept.run_getObj_map hb, check_any, hk, Result.andThen]
theorem stays_any (P : Program) (w : World) (x y : Value) : ∃ z k, (Instr.keyThatStays x y).run P w = .ok z (w.drewN k) ∧ (z = x ∨ z = y) := by
  unfold Instr.keyThatStays
  by_cases h : Instr.sameBits 10000 x y = true
  · exact ⟨y, 0, by simp [h]; rfl, .inr rfl⟩
  · have hq : ∀ v : Nat, ∃ z, (if v = 0 then y else x) = z ∧ (z = x ∨ z = y) := by
      intro v
      by_cases hv : v = 0
      · exact ⟨y, by rw [if_pos hv], .inr rfl⟩
      · exact ⟨x, by rw [if_neg hv], .inl rfl⟩
    obtain ⟨z, hz, hz2⟩ := hq ((Question.extern "map.whichKeyStays" 2).cut (w.tape w.drawn (Question.extern "map.whichKeyStays" 2)))
    refine ⟨z, 1, ?_, hz2⟩
    simp [h, choose, Sem.run, Question.forced]
    exact ⟨hz, rfl⟩
theorem update_any {G : Addr → Prop} (w : World) (B : Nat) (es : Array MapEntry) (h : MapG G w B es) (hG : ∀ b, G b → Firm w b) (a : Addr) (n : Nat) (ha : G a) :
    ∃ w' es', (Instr.mapUpdate MT (.map (some B)) (keyV a n) (.agg #[])).run Tryd.prog w = .ok () w' ∧ MapG G w' B es' ∧ w.grownBy w' (some B) := by
  obtain ⟨⟨clock, hb⟩, hall⟩ := h
  obtain ⟨k, hk⟩ := findKey_any a n es.toList w hG (hG a ha) hall
  have ht := Tryd.underlying94
  have hbk : ∀ k, (w.drewN k).heap[B]? = some (.map es clock) := fun _ => hb
  have hgrow : ∀ k o, w.grownBy (Go.ChangeMaps.setBlock (w.drewN k) B o) (some B) := fun k o => ⟨rfl, rfl, rfl, by simp [Go.ChangeMaps.setBlock], fun i _ hi => Go.ChangeMaps.heap_setBlock_other (hbk k) _ (fun e => hi (by rw [e]))⟩
  rcases hk with hk | ⟨j, hk, hj⟩
  · refine ⟨Go.ChangeMaps.setBlock (w.drewN k) B (.map (es.push { key := keyV a n, val := .agg #[], born := clock }) (clock + 1)), es.push { key := keyV a n, val := .agg #[], born := clock }, ?_, ⟨⟨clock + 1, Go.ChangeMaps.heap_setBlock_same (hbk k) _⟩, ?_⟩, hgrow k _⟩
    · simp [Instr.mapUpdate, run_underlying ht, MapKept.run_getObj_map hb, check_any, hk, Result.andThen, MapKept.run_setObj_map _ (hbk k)]
      rfl
    · intro e he
      simp only [Array.toList_push, List.mem_append, List.mem_singleton] at he
      rcases he with he | rfl
      · exact hall e he
      · exact ⟨rfl, a, n, rfl, ha⟩
  · have hj' : j < es.size := by simpa using hj
    obtain ⟨z, k2, hz, hz2⟩ := stays_any Tryd.prog (w.drewN k) (es[j]'hj').key (keyV a n)
    have hbk2 := hbk (k + k2)
    refine ⟨Go.ChangeMaps.setBlock (w.drewN (k + k2)) B (.map (es.modify j fun e => { e with key := z, val := .agg #[] }) clock), es.modify j fun e => { e with key := z, val := .agg #[] }, ?_, ⟨⟨clock, Go.ChangeMaps.heap_setBlock_same hbk2 _⟩, ?_⟩, hgrow _ _⟩
    · have hset := fun o => MapKept.run_setObj_map (P := Tryd.prog) o hbk2
      simp [Instr.mapUpdate, run_underlying ht, MapKept.run_getObj_map hb, check_any, hk, Result.andThen, hj', hz, hset]
      rfl
    · intro e he
      obtain ⟨i, hi, rfl⟩ := List.mem_iff_getElem.1 he
      have hi' : i < es.size := by simpa using hi
      simp only [Array.getElem_toList]
      rw [Array.getElem_modify]
      split
      · rename_i hji
        subst hji
        refine ⟨rfl, ?_⟩
        rcases hz2 with rfl | rfl
        · exact (hall (es[j]'hj') (by simp)).2
        · exact ⟨a, n, rfl, ha⟩
      · exact hall _ (by simp)
theorem MapG.other {G : Addr → Prop} {w w' : World} {B : Nat} {es : Array MapEntry} (h : MapG G w B es) (hB : w'.heap[B]? = w.heap[B]?) : MapG G w' B es := ⟨by rw [hB]; exact h.1, h.2⟩
theorem MapG.new (G : Addr → Prop) (w : World) : MapG G (w.alloc (.map #[] 0)) w.heap.size #[] := ⟨⟨0, new_at _ _⟩, by simp⟩
theorem MapG.lt {G : Addr → Prop} {w : World} {B : Nat} {es : Array MapEntry} (h : MapG G w B es) : B < w.heap.size := by
  obtain ⟨⟨c, hc⟩, _⟩ := h
  exact (Array.getElem?_eq_some_iff.1 hc).1
theorem Firm.below {w w' : World} (hb : Below w.heap.size w w') {a : Addr} (h : Firm w a) : Firm w' a := by
  obtain ⟨⟨c, t, fr, hc⟩, hf⟩ := h
  have hl : a.block < w.heap.size := (Array.getElem?_eq_some_iff.1 hc).1
  refine ⟨⟨c, t, fr, by rw [hb.block _ hl]; exact hc⟩, ?_⟩
  rw [hb.frozen hl]; exact hf
set_option maxRecDepth 100000 in
theorem wpList_lookup_any {G : Addr → Prop} (w : World) {ops : Array Oper} {rest : List Oper} {o : Oper} {act : Act} {Q : Exit → Act → World → Prop} (hg : o.guard = none) (m x : Operand) (hop : o.op = Op.lookup MT m x true)
    (B : Nat) (hm : act.eval m = .map (some B)) (es : Array MapEntry) (h : MapG G w B es) (hG : ∀ b, G b → Firm w b) (a : Addr) (n : Nat) (hx : act.eval x = keyV a n) (ha : G a)
    (hK : ∀ ok k, (es.size = 0 → ok = false) → wpList Tryd.prog ops Q rest (act.put o.dst (.tuple #[.agg #[], .bool ok])) (w.drewN k)) : wpList Tryd.prog ops Q (o :: rest) act w := by
  refine wpList_plain hg fun K' hK' => ?_
  obtain ⟨ok, k, h0, hrun⟩ := lookup_any w B es h hG a n ha
  unfold Oper.wp
  simp [execOp, hop, hm, hx, hrun, Result.andThen]
  exact hK' _ _ (hK ok k h0)
set_option maxRecDepth 100000 in
theorem wpList_update_any {G : Addr → Prop} (w : World) {ops : Array Oper} {rest : List Oper} {o : Oper} {act : Act} {Q : Exit → Act → World → Prop} (hg : o.guard = none) (m x v : Operand) (hop : o.op = Op.mapUpdate MT m x v)
    (B : Nat) (hm : act.eval m = .map (some B)) (es : Array MapEntry) (h : MapG G w B es) (hG : ∀ b, G b → Firm w b) (a : Addr) (n : Nat) (hx : act.eval x = keyV a n) (hv : act.eval v = .agg #[]) (ha : G a)
    (hK : ∀ w' es', MapG G w' B es' → w.grownBy w' (some B) → wpList Tryd.prog ops Q rest (act.put o.dst undef) w') : wpList Tryd.prog ops Q (o :: rest) act w := by
  refine wpList_plain hg fun K' hK' => ?_
  obtain ⟨w', es', hrun, h1, h2⟩ := update_any w B es h hG a n ha
  unfold Oper.wp
  simp [execOp, hop, hm, hx, hv, hrun, Result.andThen]
  exact hK' _ _ (hK w' es' h1 h2)
end Go.Proofs.YtpdlnpllhjcejaaDoor
