/- Parts of the proof: TrB TrCb GFine GIs KN. -/
import Derived.Test.YtmpcmpeloebnhaaGreatDoorKP07
import Derived.Test.YtmpcmpeloebnhaaGreatDoorKP00
import Derived.Test.YtmpcmpeloebnhaaGreatDoorRows
import Derived.Test.YtmpcmpeloebnhaaGreatDoorKP05
import Derived.Test.YtmpcmpeloebnhaaGreatDoorKP08
import Derived.Test.YtmpcmpeloebnhaaGreatDoorKP06
import Derived.Test.YtmpcmpeloebnhaaGreatDoorKP01
import Derived.Test.YtmpcmpeloebnhaaGreatDoorKP04
import Derived.Maps.OwnSet
import Derived.WalkKit
import Derived.WalkLawsBesides
import Derived.WalkSpells
import Derived.ProofKit
import Derived.Outline
import Derived.Deep.QuietTactic
import Derived.BigQuiet
import Derived.Deep.Light
import Derived.Deep.CutBlock
import Derived.Deep.DeepCutAuto
import Derived.Deep.DeepFit
import Derived.Deep.LoopGhost
import Derived.Lib.Hide
import Derived.Lib.OthersKept
import Derived.IntWalk
import Derived.StillTailTactics
import Derived.Maps.OwnOps
import Derived.Deep.RegionHeld3
import Derived.OrdersHeld
namespace Go.Proofs.YtmpcmpeloebnhaaGreatDoor
open Go.RowKit
def Firm (w : World) (a : Addr) : Prop := (∃ c t fr, w.heap[a.block]? = some (.cells c t fr)) ∧ w.frozen? a = false
theorem Firm.drewN {w : World} {a : Addr} (h : Firm w a) (n : Nat) : Firm (w.drewN n) a := h
theorem sameAddr_any (P : Program) (w : World) (a b : Addr) (ha : Firm w a) (hb : Firm w b) : ∃ r k, (sameAddr a b).run P w = .ok r (w.drewN k) := by
 by_cases hbl : a.block = b.block
 ·exact ⟨a == b, 0, by simp [sameAddr, hbl]; rfl⟩
 ·obtain ⟨⟨ca, ta, fa, hca⟩, hfa⟩ := ha
  obtain ⟨⟨cb, tb, fb, hcb⟩, hfb⟩ := hb
  have hm : ∃ mb, (mayBeOne a b).run P w = .ok mb w := by
   simp [mayBeOne, stringish, hfa, hfb, hca, hcb, World.shape?]
  obtain ⟨mb, hm⟩ := hm
  cases mb with
  | false => exact ⟨false, 0, by simp [sameAddr, hbl, hfa, hfb, hca, hcb, noView, viewAt, World.shape?, hm]; rfl⟩
  | true =>
   refine ⟨(Question.extern "sameAddr.stringBytes" 2).cut (w.tape w.drawn (Question.extern "sameAddr.stringBytes" 2)) == 1, 1, ?_⟩
   simp [sameAddr, hbl, hfa, hfb, hca, hcb, noView, viewAt, World.shape?, hm, choose, Sem.run, Question.forced]
   rfl
abbrev keyV (a : Addr) (n : Nat) : Value := .agg #[.pointer (some a), .int .i64 n]
abbrev LT : TypeId := 156
theorem keyEq_any (w : World) (a b : Addr) (n m : Nat) (ha : Firm w a) (hb : Firm w b) : ∃ r k, (Op.equal LT (keyV a n) (keyV b m)).run Tryz.prog w = .ok r (w.drewN k) := by
 obtain ⟨r, k, hr⟩ := sameAddr_any Tryz.prog w a b ha hb
 have hS : Tryz.prog.underlying LT = some (.struct (Tryz.prog.fieldsOf LT)) := by kernel_rfl
 have hp : Tryz.prog.stoodInHeld LT = false := by kernel_rfl
 unfold Op.equal Op.maxDepth
 rw [show (10000 : Nat) = 9999 + 1 from rfl, run_equalIn_agg w 9999 LT _ _ hS hp]
 have u73 := Tryz.underlying154
 have a73 := Tryz.isAgg154
 have z73 := Tryz.sizeOf154
 have u3 := Tryz.underlying3
 have a3 := Tryz.isAgg3
 have z3 := Tryz.sizeOf3
 have z37 := Tryz.sizeOf26
 simp only [Program.fieldsOf, Tryz.underlying156]
 have he : (Op.equalIn 9999 154 (.pointer (some a)) (.pointer (some b))).run Tryz.prog w = .ok r (w.drewN k) := by
  rw [show (9999 : Nat) = 9998 + 1 from rfl, Op.equalIn]
  simp [run_underlying u73, z37, hr]
 go_simp
 cases r with
 | false => exact .inl ⟨k, by simp⟩
 | true =>
  by_cases hnm : (n : Int) = (m : Int)
  ·exact .inr ⟨k, by simp [hnm]⟩
  ·exact .inl ⟨k, by simp [hnm]⟩
def EntG (G : Addr → Prop) (e : MapEntry) : Prop := e.val = .agg #[] ∧ ∃ a n, e.key = keyV a n ∧ G a
theorem findAsking_any {G : Addr → Prop} (a : Addr) (n : Nat) : ∀ (es : List MapEntry) (i : Nat) (w : World), (∀ b, G b → Firm w b) → Firm w a → (∀ e ∈ es, EntG G e) →
  ∃ k, (Instr.findAsking LT (keyV a n) es i).run Tryz.prog w = .ok none (w.drewN k) ∨ ∃ j, (Instr.findAsking LT (keyV a n) es i).run Tryz.prog w = .ok (some (i + j, .agg #[])) (w.drewN k) ∧ j < es.length
 | [], i, w, _, _, _ => ⟨0, .inl (by simp [Instr.findAsking]; rfl)⟩
 | e :: es, i, w, hG, ha, hall => by
  obtain ⟨hv, b, m, hk, hb⟩ := hall e (by simp)
  obtain ⟨r, k, hr⟩ := keyEq_any w a b n m ha (hG b hb)
  cases r
  ·obtain ⟨k2, h2⟩ := findAsking_any a n es (i + 1) (w.drewN k) (fun b hb => (hG b hb).drewN k) (ha.drewN k) (fun y hy => hall y (by simp [hy]))
   rcases h2 with h2 | ⟨j, h2, hj⟩
   ·exact ⟨k + k2, .inl (by simp [Instr.findAsking, hk, hr, h2])⟩
   ·exact ⟨k + k2, .inr ⟨j + 1, by simp [Instr.findAsking, hk, hr, h2, Nat.add_assoc, Nat.add_comm 1 j], by simp; omega⟩⟩
  ·exact ⟨k, .inr ⟨0, by simp [Instr.findAsking, hk, hr, hv], by simp⟩⟩
theorem findKey_any {G : Addr → Prop} (a : Addr) (n : Nat) (es : List MapEntry) (w : World) (hG : ∀ b, G b → Firm w b) (ha : Firm w a) (hall : ∀ e ∈ es, EntG G e) :
  ∃ k, ((Instr.findKey LT (keyV a n) es).run Tryz.prog w = .ok none (w.drewN k)) ∨ ∃ j, (Instr.findKey LT (keyV a n) es).run Tryz.prog w = .ok (some (j, .agg #[])) (w.drewN k) ∧ j < es.length := by
 have hu := Tryz.underlying156
 cases es with
 | nil => exact ⟨0, .inl (by simp [Instr.findKey, run_underlying hu, Instr.findNow]; rfl)⟩
 | cons e es =>
  have h := findAsking_any a n (e :: es) 0 w hG ha hall
  have he : (Instr.findKey LT (keyV a n) (e :: es)).run Tryz.prog w = (Instr.findAsking LT (keyV a n) (e :: es) 0).run Tryz.prog w := by
   simp [Instr.findKey, run_underlying hu, Instr.findNow, Instr.sameNow]
  obtain ⟨k, h⟩ := h
  refine ⟨k, ?_⟩
  rw [he]
  rcases h with h | ⟨j, h, hj⟩
  ·exact .inl h
  ·exact .inr ⟨j, by rw [h, Nat.zero_add], hj⟩
theorem check_any (w : World) (em : Bool) (a : Addr) (n : Nat) : (Instr.checkKey em 10000 LT (keyV a n)).run Tryz.prog w = .ok () w := by
 have u73 := Tryz.underlying154
 have a73 := Tryz.isAgg154
 have z73 := Tryz.sizeOf154
 have u3 := Tryz.underlying3
 have a3 := Tryz.isAgg3
 have z3 := Tryz.sizeOf3
 have hu := Tryz.underlying156
 have c1 : ∀ (w : World) (x : Addr), (Instr.checkKey em 9999 154 (.pointer (some x))).run Tryz.prog w = .ok () w := by
  intro w x
  rw [show (9999 : Nat) = 9998 + 1 from rfl, Instr.checkKey]
  simp [run_underlying u73]
 have c2 : ∀ (w : World) (x : Int), (Instr.checkKey em 9999 3 (.int .i64 x)).run Tryz.prog w = .ok () w := by
  intro w x
  rw [show (9999 : Nat) = 9998 + 1 from rfl, Instr.checkKey]
  simp [run_underlying u3]
 rw [show (10000 : Nat) = 9999 + 1 from rfl, Instr.checkKey]
 simp only [Sem.run_bind, run_underlying hu, Result.andThen_ok]
 go_simp
abbrev MT : TypeId := 153
def MapG (G : Addr → Prop) (w : World) (B : Nat) (es : Array MapEntry) : Prop := (∃ clock, w.heap[B]? = some (.map es clock)) ∧ ∀ e ∈ es.toList, EntG G e
theorem lookup_any {G : Addr → Prop} (w : World) (B : Nat) (es : Array MapEntry) (h : MapG G w B es) (hG : ∀ b, G b → Firm w b) (a : Addr) (n : Nat) (ha : G a) :
  ∃ ok k, (es.size = 0 → ok = false) ∧ (Instr.lookup MT (.map (some B)) (keyV a n) true).run Tryz.prog w = .ok (.tuple #[.agg #[], .bool ok]) (w.drewN k) := by
 obtain ⟨⟨clock, hb⟩, hall⟩ := h
 obtain ⟨k, hk⟩ := findKey_any a n es.toList w hG (hG a ha) hall
 have ht := Tryz.underlying153
 rcases hk with hk | ⟨j, hk, hj⟩
 ·refine ⟨false, k, fun _ => rfl, ?_⟩
  simp [Instr.lookup, run_underlying ht, MapKept.run_getObj_map hb, check_any, hk, Result.andThen]
 ·refine ⟨true, k, fun h0 => by simp at hj; omega, ?_⟩
  simp [Instr.lookup, run_underlying ht, MapKept.run_getObj_map hb, check_any, hk, Result.andThen]
theorem stays_any (P : Program) (w : World) (x y : Value) : ∃ z k, (Instr.keyThatStays x y).run P w = .ok z (w.drewN k) ∧ (z = x ∨ z = y) := by
 unfold Instr.keyThatStays
 by_cases h : Instr.sameBits 10000 x y = true
 ·exact ⟨y, 0, by simp [h]; rfl, .inr rfl⟩
 ·have hq : ∀ v : Nat, ∃ z, (if v = 0 then y else x) = z ∧ (z = x ∨ z = y) := by
   intro v
   by_cases hv : v = 0
   ·exact ⟨y, by rw [if_pos hv], .inr rfl⟩
   ·exact ⟨x, by rw [if_neg hv], .inl rfl⟩
  obtain ⟨z, hz, hz2⟩ := hq ((Question.extern "map.whichKeyStays" 2).cut (w.tape w.drawn (Question.extern "map.whichKeyStays" 2)))
  refine ⟨z, 1, ?_, hz2⟩
  simp [h, choose, Sem.run, Question.forced]
  exact ⟨hz, rfl⟩
theorem update_any {G : Addr → Prop} (w : World) (B : Nat) (es : Array MapEntry) (h : MapG G w B es) (hG : ∀ b, G b → Firm w b) (a : Addr) (n : Nat) (ha : G a) :
  ∃ w' es', (Instr.mapUpdate MT (.map (some B)) (keyV a n) (.agg #[])).run Tryz.prog w = .ok () w' ∧ MapG G w' B es' ∧ w.grownBy w' (some B) := by
 obtain ⟨⟨clock, hb⟩, hall⟩ := h
 obtain ⟨k, hk⟩ := findKey_any a n es.toList w hG (hG a ha) hall
 have ht := Tryz.underlying153
 have hbk : ∀ k, (w.drewN k).heap[B]? = some (.map es clock) := fun _ => hb
 have hgrow : ∀ k o, w.grownBy (Go.ChangeMaps.setBlock (w.drewN k) B o) (some B) := fun k o => ⟨rfl, rfl, rfl, by simp [Go.ChangeMaps.setBlock], fun i _ hi => Go.ChangeMaps.heap_setBlock_other (hbk k) _ (fun e => hi (by rw [e]))⟩
 rcases hk with hk | ⟨j, hk, hj⟩
 ·refine ⟨Go.ChangeMaps.setBlock (w.drewN k) B (.map (es.push { key := keyV a n, val := .agg #[], born := clock }) (clock + 1)), es.push { key := keyV a n, val := .agg #[], born := clock }, ?_, ⟨⟨clock + 1, Go.ChangeMaps.heap_setBlock_same (hbk k) _⟩, ?_⟩, hgrow k _⟩
  ·simp [Instr.mapUpdate, run_underlying ht, MapKept.run_getObj_map hb, check_any, hk, Result.andThen, MapKept.run_setObj_map _ (hbk k)]
   rfl
  ·intro e he
   simp only [Array.toList_push, List.mem_append, List.mem_singleton] at he
   rcases he with he | rfl
   ·exact hall e he
   ·exact ⟨rfl, a, n, rfl, ha⟩
 ·have hj' : j < es.size := by simpa using hj
  obtain ⟨z, k2, hz, hz2⟩ := stays_any Tryz.prog (w.drewN k) (es[j]'hj').key (keyV a n)
  have hbk2 := hbk (k + k2)
  refine ⟨Go.ChangeMaps.setBlock (w.drewN (k + k2)) B (.map (es.modify j fun e => { e with key := z, val := .agg #[] }) clock), es.modify j fun e => { e with key := z, val := .agg #[] }, ?_, ⟨⟨clock, Go.ChangeMaps.heap_setBlock_same hbk2 _⟩, ?_⟩, hgrow _ _⟩
  ·have hset := fun o => MapKept.run_setObj_map (P := Tryz.prog) o hbk2
   simp [Instr.mapUpdate, run_underlying ht, MapKept.run_getObj_map hb, check_any, hk, Result.andThen, hj', hz, hset]
   rfl
  ·intro e he
   obtain ⟨i, hi, rfl⟩ := List.mem_iff_getElem.1 he
   have hi' : i < es.size := by simpa using hi
   simp only [Array.getElem_toList]
   rw [Array.getElem_modify]
   split
   ·rename_i hji
    subst hji
    refine ⟨rfl, ?_⟩
    rcases hz2 with rfl | rfl
    ·exact (hall (es[j]'hj') (by simp)).2
    ·exact ⟨a, n, rfl, ha⟩
   ·exact hall _ (by simp)
theorem MapG.other {G : Addr → Prop} {w w' : World} {B : Nat} {es : Array MapEntry} (h : MapG G w B es) (hB : w'.heap[B]? = w.heap[B]?) : MapG G w' B es := ⟨by rw [hB]; exact h.1, h.2⟩
theorem MapG.new (G : Addr → Prop) (w : World) : MapG G (w.alloc (.map #[] 0)) w.heap.size #[] := ⟨⟨0, new_at _ _⟩, by simp⟩
theorem Firm.below {w w' : World} (hb : Below w.heap.size w w') {a : Addr} (h : Firm w a) : Firm w' a := by
 obtain ⟨⟨c, t, fr, hc⟩, hf⟩ := h
 have hl : a.block < w.heap.size := (Array.getElem?_eq_some_iff.1 hc).1
 refine ⟨⟨c, t, fr, by rw [hb.block _ hl]; exact hc⟩, ?_⟩
 rw [hb.frozen hl]; exact hf
set_option maxRecDepth 100000 in
theorem wpList_lookup_any {G : Addr → Prop} (w : World) {ops : Array Oper} {rest : List Oper} {o : Oper} {act : Act} {Q : Exit → Act → World → Prop} (hg : o.guard = none) (m x : Operand) (hop : o.op = Op.lookup MT m x true)
  (B : Nat) (hm : act.eval m = .map (some B)) (es : Array MapEntry) (h : MapG G w B es) (hG : ∀ b, G b → Firm w b) (a : Addr) (n : Nat) (hx : act.eval x = keyV a n) (ha : G a)
  (hK : ∀ ok k, (es.size = 0 → ok = false) → wpList Tryz.prog ops Q rest (act.put o.dst (.tuple #[.agg #[], .bool ok])) (w.drewN k)) : wpList Tryz.prog ops Q (o :: rest) act w := by
 refine wpList_plain hg fun K' hK' => ?_
 obtain ⟨ok, k, h0, hrun⟩ := lookup_any w B es h hG a n ha
 unfold Oper.wp
 simp [execOp, hop, hm, hx, hrun, Result.andThen]
 exact hK' _ _ (hK ok k h0)
set_option maxRecDepth 100000 in
theorem wpList_update_any {G : Addr → Prop} (w : World) {ops : Array Oper} {rest : List Oper} {o : Oper} {act : Act} {Q : Exit → Act → World → Prop} (hg : o.guard = none) (m x v : Operand) (hop : o.op = Op.mapUpdate MT m x v)
  (B : Nat) (hm : act.eval m = .map (some B)) (es : Array MapEntry) (h : MapG G w B es) (hG : ∀ b, G b → Firm w b) (a : Addr) (n : Nat) (hx : act.eval x = keyV a n) (hv : act.eval v = .agg #[]) (ha : G a)
  (hK : ∀ w' es', MapG G w' B es' → w.grownBy w' (some B) → wpList Tryz.prog ops Q rest (act.put o.dst undef) w') : wpList Tryz.prog ops Q (o :: rest) act w := by
 refine wpList_plain hg fun K' hK' => ?_
 obtain ⟨w', es', hrun, h1, h2⟩ := update_any w B es h hG a n ha
 unfold Oper.wp
 simp [execOp, hop, hm, hx, hv, hrun, Result.andThen]
 exact hK' _ _ (hK w' es' h1 h2)
end Go.Proofs.YtmpcmpeloebnhaaGreatDoor
namespace Go.Proofs.YtmpcmpeloebnhaaGreatDoor
open Go.RowKit
structure Rw where
 b : Nat
 o : Nat
 cap : Nat
 F : Fo
def Rw.val (r : Rw) : Value := .slice (some ⟨r.b, r.o, none⟩) r.F.len r.cap
def Rw.In (w : World) (r : Rw) : Prop := r.F.In w r.b r.o ∧ r.F.len ≤ 140737488351232 ∧ 0 < r.F.len ∧ w.frozen? ⟨r.b, r.o, none⟩ = false
theorem Rw.In.below {w w' : World} (hb : Below w.heap.size w w') {r : Rw} (h : r.In w) : r.In w' :=
 ⟨h.1.below hb, h.2.1, h.2.2.1, by rw [hb.frozen (h.1.lt h.2.2.1)]; exact h.2.2.2⟩
theorem Fo.In.firm {w : World} {F : Fo} {b o : Nat} (h : F.In w b o) (h0 : 0 < F.len) (hf : w.frozen? ⟨b, o, none⟩ = false) : Firm w ⟨b, o, none⟩ := by
 cases F with
 | nil => cases h0
 | cons op name n pos a cap kids rest =>
  refine ⟨?_, hf⟩
  have := h.1.1
  unfold World.cell? at this
  split at this
  ·rename_i c t fr hc; exact ⟨c, t, fr, hc⟩
  ·cases this
def Fo.kidOf (r : Rw) : Fo → Prop
 | .nil => False
 | .cons _ _ _ _ a cap kids rest => (kids = r.F ∧ a = some ⟨r.b, r.o, none⟩ ∧ cap = r.cap) ∨ Fo.kidOf r rest
def Fo.leaf : Fo → Prop
 | .nil => True
 | .cons _ _ _ _ _ _ kids rest => kids = .nil ∧ Fo.leaf rest
def total : List Rw → Nat
 | [] => 0
 | r :: rs => r.F.size + total rs
def LevelIn (w : World) (v : Value) (rs : List Rw) : Prop :=
 ∃ a cap, v = .slice a rs.length cap ∧ (∀ i r, rs[i]? = some r → ∃ bl ol, a = some ⟨bl, ol, none⟩ ∧ w.cell? ⟨bl, ol + i, none⟩ = some r.val) ∧ ∀ r ∈ rs, r.In w
structure Next (rs rs' : List Rw) : Prop where
 kid : ∀ r' ∈ rs', ∃ r ∈ rs, r.F.kidOf r'
 none : rs' = [] ↔ ∀ r ∈ rs, r.F.leaf
 size : total rs' + rs'.length ≤ total rs
def BelowC (rs : List Rw) (w : World) (e : Ending) (w' : World) : Prop := ∃ v rs', e = .returned v ∧ LevelIn w' v rs' ∧ Next rs rs' ∧ Below w.heap.size w w'
set_option maxRecDepth 100000 in
set_option maxHeartbeats 4000000 in
theorem listOf_any (b o n cap : Nat) (w : World) (h0 : 0 < n) (hn : n ≤ 140737488351232) :
  Calls Tryz.prog 153 #[.slice (some ⟨b, o, none⟩) n cap] w fun e w' => e = .returned (keyV ⟨b, o, none⟩ n) ∧ Below w.heap.size w w' := by
 have h1 : (0 : Int) < n := by omega
 have hc5 := cellsNode
 go_enter Tryz.func153, Tryz.ntmps153
 go_wp2
 exact bodyPost_ret (v := keyV ⟨b, o, none⟩ n) (by simp [results, Tryz.results153, go_sem]) rfl ⟨rfl, (Below.refl _ _).alloc (Nat.le_refl _) _⟩
structure Got (w : World) (rs rs' : List Rw) (left : Nat) : Prop where
 kid : ∀ r' ∈ rs', r'.In w ∧ ∃ r ∈ rs, r.F.kidOf r'
 size : total rs' + rs'.length + left ≤ total rs
theorem total_append (a b : List Rw) : total (a ++ b) = total a + total b := by
 induction a with
 | nil => simp [total]
 | cons r a ih => simp only [List.cons_append, total, ih]; omega
def valsR (rs : List Rw) : List Value := rs.map Rw.val
structure Have (w wr : World) (v : Value) (rs' : List Rw) (es : Array MapEntry) : Prop where
 own : wr.ownsRow (w.heap.size + 1) 24 1 v rs'.length (valsR rs')
 map : MapG (fun a => Firm w a) wr w.heap.size es
 empty : rs' = [] → es.size = 0
 rest : Below w.heap.size w wr
 room : w.heap.size < wr.heap.size
theorem Have.alloc {w wr : World} {v : Value} {rs' : List Rw} {es : Array MapEntry} (h : Have w wr v rs' es) (ob : Obj) : Have w (wr.alloc ob) v rs' es :=
 ⟨h.own.alloc _, h.map.other (Below.heap_alloc wr ob _ h.room), h.empty, h.rest.alloc h.rest.size _, by rw [alloc_size]; have := h.room; omega⟩
theorem Have.drewN {w wr : World} {v : Value} {rs' : List Rw} {es : Array MapEntry} (h : Have w wr v rs' es) (n : Nat) : Have w (wr.drewN n) v rs' es :=
 ⟨h.own, h.map, h.empty, below_drewN h.rest n, h.room⟩
theorem Have.below {w wr w2 : World} {v : Value} {rs' : List Rw} {es : Array MapEntry} (h : Have w wr v rs' es) (hb : Below wr.heap.size wr w2) : Have w w2 v rs' es :=
 ⟨own_below h.own hb, h.map.other (hb.block _ h.room), h.empty, h.rest.trans (hb.mono h.rest.size), Nat.lt_of_lt_of_le h.room hb.size⟩
theorem Have.free {w wr : World} {v : Value} {rs' : List Rw} {es : Array MapEntry} (h : Have w wr v rs' es) : v.ownBlock = none ∨ v.ownBlock ≠ some w.heap.size := by
 rcases h.own.2 with ⟨rfl, _⟩ | ⟨g, cap, cur, rfl, hg, _⟩
 ·exact .inl rfl
 ·refine .inr fun h => ?_
  have : g = w.heap.size := by simpa [Value.ownBlock] using h
  omega
theorem Have.marked {w wr w2 : World} {v : Value} {rs' : List Rw} {es es2 : Array MapEntry} (h : Have w wr v rs' es) (_ : MapG (fun a => Firm w a) w2 w.heap.size es2) (hg : wr.grownBy w2 (some w.heap.size)) :
  w2.ownsRow (w.heap.size + 1) 24 1 v rs'.length (valsR rs') ∧ Below w.heap.size w w2 ∧ w.heap.size < w2.heap.size :=
 ⟨h.own.kept hg h.free, h.rest.grown hg h.rest.size (by rintro k hk; cases hk; exact Nat.le_refl _), Nat.lt_of_lt_of_le h.room hg.size⟩
structure Rest (w : World) (r : Rw) (R : Fo) (k : Nat) : Prop where
 lies : R.In w r.b (r.o + k * 5)
 len : k + R.len = r.F.len
 kid : ∀ r', R.kidOf r' → r.F.kidOf r'
theorem Rest.start {w : World} {r : Rw} (h : r.In w) : Rest w r r.F 0 := ⟨by rw [Nat.zero_mul, Nat.add_zero]; exact h.1, by omega, fun _ h => h⟩
theorem Rest.next {w : World} {r : Rw} {op name : ByteArray} {n pos : Int} {a : Option Addr} {cap : Nat} {kids rest : Fo} {k : Nat} (h : Rest w r (.cons op name n pos a cap kids rest) k) :
  NodeAt w r.b (r.o + k * 5) op name n pos a kids.len cap ∧ k < r.F.len ∧ Rest w r rest (k + 1) ∧ (kids = .nil ∨ ∃ b' o', a = some ⟨b', o', none⟩ ∧ (Rw.mk b' o' cap kids).In w ∧ r.F.kidOf ⟨b', o', cap, kids⟩) := by
 obtain ⟨⟨h1, h2, h3⟩, h4, h5⟩ := h
 have h6 : (Fo.cons op name n pos a cap kids rest).len = rest.len + 1 := rfl
 rw [h6] at h4
 refine ⟨h1, by omega, ⟨?_, by omega, fun r' hr => h5 r' (.inr hr)⟩, ?_⟩
 ·rw [show r.o + (k + 1) * 5 = r.o + k * 5 + 5 by omega]; exact h3
 ·rcases h2 with h2 | ⟨b', o', h2, hl, ⟨h0, hf⟩, h7⟩
  ·exact .inl h2
  ·exact .inr ⟨b', o', h2, ⟨h7, hl, h0, hf⟩, h5 _ (.inl ⟨rfl, h2, rfl⟩)⟩
theorem cell_one_new (w : World) (a : Value) (t : TypeId) : ∀ j u, [a][j]? = some u → (w.alloc (.cells #[a] t)).cell? ((⟨w.heap.size, 0, none⟩ : Addr).add j) = some u := by
 intro j u h
 cases j with
 | zero =>
  obtain rfl : a = u := by simpa using h
  show (w.alloc _).cell? ⟨w.heap.size, 0, none⟩ = _
  rw [cell_of_row _ w.heap.size 0 _ _ _ (new_at _ _)]
  rfl
 | succ j => simp at h
theorem Tryz.infoKids : (Tryz.prog.info? 24).map (fun i => (i.zero, i.size, i.bytes)) = some (some (.slice none 0 0), 1, 24) := by kernel_rfl
theorem leaf_kid : ∀ {F : Fo} {r : Rw}, F.leaf → F.kidOf r → r.F = .nil := by
 intro F
 induction F with
 | nil => intro r _ h; exact h.elim
 | cons op name n pos a cap kids rest ihk ihr =>
  intro r h1 h2
  rcases h2 with ⟨h2, _⟩ | h2
  ·rw [← h2]; exact h1.1
  ·exact ihr h1.2 h2
theorem level_of {w wr : World} {v : Value} {rs' : List Rw} {es : Array MapEntry} (h : Have w wr v rs' es) (hin : ∀ r ∈ rs', r.In w) : LevelIn wr v rs' := by
 have hi : ∀ r ∈ rs', r.In wr := fun r hr => (hin r hr).below h.rest
 have hown := h.own
 rcases h.own.2 with ⟨rfl, h0⟩ | ⟨g, cap, cur, rfl, _⟩
 ·have hn : rs' = [] := List.eq_nil_of_length_eq_zero h0
  subst hn
  exact ⟨none, 0, rfl, fun i r hr => by simp at hr, hi⟩
 ·refine ⟨_, cap, rfl, fun i r hr => ⟨g, 0, rfl, ?_⟩, hi⟩
  have hl := (List.getElem?_eq_some_iff.1 hr).1
  rw [Nat.zero_add, hown.cellAt i (by omega)]
  unfold valsR
  rw [List.getElem?_map, hr]
  rfl
theorem len_size (F : Fo) : F.len ≤ F.size := by
 induction F with
 | nil => exact Nat.le_refl _
 | cons op name n pos a cap kids rest ihk ihr => show rest.len + 1 ≤ kids.size + 1 + rest.size; omega
theorem len_total : ∀ rs : List Rw, (∀ r ∈ rs, 0 < r.F.len) → rs.length ≤ total rs := by
 intro rs
 induction rs with
 | nil => intro _; exact Nat.le_refl _
 | cons r rs ih =>
  intro h
  have h1 := h r (List.mem_cons_self ..)
  have h2 := ih fun x hx => h x (List.mem_cons_of_mem _ hx)
  have h3 := len_size r.F
  show rs.length + 1 ≤ r.F.size + total rs
  omega
theorem total_drop (rs : List Rw) (j : Nat) (r : Rw) (h : rs[j]? = some r) : total (rs.drop j) = r.F.size + total (rs.drop (j + 1)) := by
 have hj : j < rs.length := (List.getElem?_eq_some_iff.1 h).1
 have hr : rs[j] = r := (List.getElem?_eq_some_iff.1 h).2
 rw [List.drop_eq_getElem_cons hj, hr]
 rfl
set_option maxRecDepth 100000 in
set_option maxHeartbeats 8000000 in
theorem below_any (rs : List Rw) (v : Value) (w : World) (hL : LevelIn w v rs) (ht : total rs ≤ 3000) : Calls Tryz.prog 145 #[v] w (BelowC rs w) := by
 obtain ⟨a0, cap0, rfl, hcells, hins⟩ := hL
 obtain ⟨i0, hi, hz0, hz1, hz2⟩ := info_parts Tryz.infoKids
 have hc5 := cellsNode
 have hmk : ∀ W : World, (Instr.makeMap MT none).run Tryz.prog W = .ok (.map (some W.heap.size)) (W.alloc (.map #[] 0)) := fun W => RowKit.run_makeMap MT W
 have hlr : rs.length ≤ 3000 := Nat.le_trans (len_total rs fun r hr => (hins r hr).2.2.1) ht
 have HC := Lib.hid hcells
 have HI := Lib.hid hins
 unfold BelowC
 clear hcells hins
 go_enter Tryz.func145, Tryz.ntmps145
 go_wp2
 go_loopw [3, 15] (fun nx i wr => ∃ (j : Nat) (rs' : List Rw) (es : Array MapEntry), i = .int .i64 j ∧ j ≤ rs.length ∧ RowKit.Hid (Have w wr nx rs' es) ∧ RowKit.Hid (Got w rs rs' (total (rs.drop j))) ∧ RowKit.Hid (rs' = [] → ∀ x ∈ rs.take j, x.F.leaf)) (fun _ i _ => rs.length - (intOf i).toNat)
 case atStart =>
  exact ⟨0, [], #[], rfl, Nat.zero_le _, Lib.hid ⟨World.ownsRow_nil _ _ _ _, MapG.new _ w, fun _ => rfl, (Below.refl _ _).alloc (Nat.le_refl _) _, by rw [alloc_size]; omega⟩, Lib.hid ⟨fun r hr => by simp at hr, by simp [total]⟩, Lib.hid fun _ x hx => by simp at hx⟩
 case round =>
  obtain ⟨j, rs', es, rfl, hj, HH, HG, HL⟩ := hrel
  by_cases hjl : j < rs.length
  ·obtain ⟨bl, ol, rfl, hcell⟩ := HC.out j (rs[j]'hjl) (List.getElem?_eq_getElem hjl)
   have hrin := HI.out (rs[j]'hjl) (List.getElem_mem _)
   have hcw := cell_below HH.out.rest hcell
   have hjl2 : (j : Int) < rs.length := by omega
   have HE : RowKit.Hid (rs[j]? = some (rs[j]'hjl)) := Lib.hid (List.getElem?_eq_getElem hjl)
   generalize (rs[j]'hjl) = r at hcw hcell hrin HE
   unfold Rw.val at hcw
   have HR := Lib.hid hrin
   clear hcell hrin
   have hrl : r.F.len ≤ 140737488351232 := HR.out.2.1
   go_wp2
   go_loopw [3, 21] (fun nx i wr => ∃ (k : Nat) (R : Fo) (rs' : List Rw) (es : Array MapEntry), i = .int .i64 k ∧ RowKit.Hid (Rest w r R k) ∧ RowKit.Hid (Have w wr nx rs' es) ∧ RowKit.Hid (Got w rs rs' (R.size + total (rs.drop (j + 1)))) ∧ RowKit.Hid (rs' = [] → (∀ x ∈ rs.take j, x.F.leaf) ∧ (R.leaf → r.F.leaf))) (fun _ i _ => r.F.len - (intOf i).toNat)
   case atStart =>
    refine ⟨0, r.F, rs', es, rfl, Lib.hid (Rest.start HR.out), HH, Lib.hid ?_, Lib.hid fun h => ⟨HL.out h, fun h => h⟩⟩
    have := HG.out
    rw [total_drop rs j r HE.out] at this
    exact this
   case round =>
    obtain ⟨k, R, rs2, es2, rfl, HT, HH2, HG2, HL2⟩ := hrel
    cases R with
    | nil =>
     have hkl : k = r.F.len := by have := HT.out.len; simpa [Fo.len] using this
     subst hkl
     go_wp2
     go_roundw
     case rel =>
      refine ⟨j + 1, rs2, es2, by go_num, by omega, HH2, Lib.hid ?_, Lib.hid fun h => ?_⟩
      ·have := HG2.out
       have hz : Fo.nil.size + total (rs.drop (j + 1)) = total (rs.drop (j + 1)) := Nat.zero_add _
       rw [hz] at this
       exact this
      ·obtain ⟨h1, h2⟩ := HL2.out h
       rw [List.take_add_one, HE.out]
       intro x hx
       rcases List.mem_append.1 hx with hx | hx
       ·exact h1 x hx
       ·obtain rfl : x = r := by simpa using hx
        exact h2 trivial
     case measure => (try simp [intOf]); omega
    | cons op1 name1 n1 pos1 a1 cap1 kids1 rest =>
     obtain ⟨hnode, hkl, hnext, hkids⟩ := HT.out.next
     have hkl2 : (k : Int) < r.F.len := by omega
     obtain ⟨c0, c1, c2, c3, c4⟩ := hnode.below HH2.out.rest
     have HN := Lib.hid hnext
     have HK := Lib.hid hkids
     clear hnext hnode hkids HT
     by_cases hk0 : kids1 = .nil
     ·subst hk0
      have c4 : _ = some (Value.slice a1 0 cap1) := c4
      go_wp2
      go_roundw
      case rel =>
       refine ⟨k + 1, rest, rs2, es2, by go_num, HN, Lib.hid (HH2.out.alloc _), Lib.hid ⟨HG2.out.kid, ?_⟩, Lib.hid fun h => ⟨(HL2.out h).1, fun hl => (HL2.out h).2 ⟨rfl, hl⟩⟩⟩
       have h1 := HG2.out.size
       have h2 : (Fo.cons op1 name1 n1 pos1 a1 cap1 Fo.nil rest).size = 0 + 1 + rest.size := rfl
       omega
      case measure => (try simp [intOf]); omega
     ·rcases HK.out with h | ⟨b2, o2, rfl, hin2, hkid2⟩
      ·exact absurd h hk0
      have h0 : 0 < kids1.len := hin2.2.2.1
      have hlim2 : kids1.len ≤ 140737488351232 := hin2.2.1
      have hfirm : Firm w ⟨b2, o2, none⟩ := hin2.1.firm h0 hin2.2.2.2
      have hnz : ((kids1.len : Int) == 0) = false := by simp; omega
      have hnd : decide ((kids1.len : Int) = 0) = false := by simp; omega
      have hne : ¬ (kids1.len : Int) = 0 := by omega
      have HI2 := Lib.hid hin2
      have HK2 := Lib.hid hkid2
      have HF := Lib.hid hfirm
      have HH3 := Lib.hid (HH2.out.alloc (boxOf op1 name1 n1 pos1 (some ⟨b2, o2, none⟩) kids1.len cap1))
      have HB := Lib.hid (box_cell wr op1 name1 n1 pos1 (some ⟨b2, o2, none⟩) kids1.len cap1)
      clear hin2 hkid2 hfirm HK
      go_wp2_with fail
      refine (listOf_any b2 o2 kids1.len cap1 _ h0 hlim2).mono ?_
      rintro e w2 ⟨rfl, hb2⟩
      have hbx := cell_below hb2 HB.out
      have hh2 := HH3.out.below hb2
      have HH4 := Lib.hid hh2
      have HR2 := HH2.out.room
      clear hb2 HB HH3 hh2 HH2
      have hcnt : rs2.length ≤ 3000 := by have := HG2.out.size; omega
      have hroom := HR2
      go_wp2_with (first
       | (at_lookup; refine wpList_lookup_any _ rfl _ _ rfl w.heap.size rfl es2 (HH4.out.alloc _).map (fun b hb => hb.below (HH4.out.alloc _).rest) ⟨b2, o2, none⟩ kids1.len rfl HF.out ?_; intro ok kk hok)
       | (at_mapUpdate; refine wpList_update_any _ rfl _ _ _ rfl w.heap.size rfl es2 (((HH4.out.alloc _).drewN _).alloc _).map (fun b hb => hb.below (((HH4.out.alloc _).drewN _).alloc _).rest) ⟨b2, o2, none⟩ kids1.len rfl rfl HF.out ?_; intro w3 es3 hm3 hg3; obtain ⟨hown3, hb3, hroom3⟩ := Have.marked (((HH4.out.alloc _).drewN _).alloc _) hm3 hg3; have hbx3 : w3.cell? ⟨wr.heap.size, 4, none⟩ = some (.slice (some ⟨b2, o2, none⟩) kids1.len cap1) := hg3.cell (cell_below ((below_drewN ((Below.refl _ _).alloc (Nat.le_refl _) _) _).alloc (by simp) _) hbx) (by intro h; have := Option.some.inj h; simp at this; omega))
       | (at_builtin; refine wpList_append_own _ rfl _ _ 142 rfl (w.heap.size + 1) 24 i0 (.slice none 0 0) 1 24 Tryz.underlying142 hi hz0 hz1 hz2 rfl (by decide) _ _ _ rfl (hown3.alloc _) ⟨w3.heap.size, 0, none⟩ 1 1 [.slice (some ⟨b2, o2, none⟩) kids1.len cap1] rfl rfl (cell_one_new _ _ _) (fun x hx => by simp at hx; rcases hx with rfl; rfl) (by unfold maxLen; omega) (by omega) (by simp; omega) ?_; intro v4 w4 hown4 hg4 hnil4))
      ·have hb4 : Below w.heap.size w w4 := Below.grown (hb3.alloc hb3.size _) hg4 (by have := hb3.size; simp; omega) (fun q hq => by have := (hown3.lt _ hq).1; omega)
       have hfree := HH4.out.free
       have hm4 : w4.heap[w.heap.size]? = w3.heap[w.heap.size]? := by
        have hg5 : World.grownBy _ w4 (Value.ownBlock u3) := hg4
        rw [hg5.block _ (by rw [alloc_size]; omega) (by
         rcases hfree with h | h
         ·rw [h]; exact fun h => by cases h
         ·exact fun h2 => h h2.symm)]
        exact Below.heap_alloc w3 _ _ hroom3
       have hsz4 := hg4.size
       have hlen1 : (rs2 ++ [Rw.mk b2 o2 cap1 kids1]).length = rs2.length + 1 := by simp
       have hH5 : Have w w4 v4 (rs2 ++ [Rw.mk b2 o2 cap1 kids1]) es3 := ⟨by rw [hlen1]; unfold valsR; rw [List.map_append]; exact hown4, hm3.other hm4, fun h => by simp at h, hb4, by rw [alloc_size] at hsz4; omega⟩
       have hG5 : Got w rs (rs2 ++ [Rw.mk b2 o2 cap1 kids1]) (rest.size + total (rs.drop (j + 1))) := by
        refine ⟨fun r' hr' => ?_, ?_⟩
        ·rcases List.mem_append.1 hr' with h | h
         ·exact HG2.out.kid r' h
         ·obtain rfl : r' = Rw.mk b2 o2 cap1 kids1 := by simpa using h
          exact ⟨HI2.out, r, List.mem_of_getElem? HE.out, HK2.out⟩
        ·have h1 := HG2.out.size
         have h2 : (Fo.cons op1 name1 n1 pos1 (some ⟨b2, o2, none⟩) cap1 kids1 rest).size = kids1.size + 1 + rest.size := rfl
         have h3 : total [Rw.mk b2 o2 cap1 kids1] = kids1.size + 0 := rfl
         rw [total_append, h3, hlen1]
         omega
       have HH5 := Lib.hid hH5
       have HG5 := Lib.hid hG5
       clear hH5 hG5 hown4 hg4 hnil4 hown3 hm3 hg3 hm4 hfree
       go_roundw
       case rel => exact ⟨k + 1, rest, rs2 ++ [Rw.mk b2 o2 cap1 kids1], es3, by go_num, HN, HH5, HG5, Lib.hid fun h => by simp at h⟩
       case measure => (try simp [intOf]); omega
      ·have HH5 := Lib.hid (((HH4.out.alloc (.cells #[.pointer (some ⟨b2, o2, none⟩), .int .i64 kids1.len] LT)).drewN kk).alloc (.cells #[] 115))
       have hG5 : Got w rs rs2 (rest.size + total (rs.drop (j + 1))) := by
        refine ⟨HG2.out.kid, ?_⟩
        have h1 := HG2.out.size
        have h2 : (Fo.cons op1 name1 n1 pos1 (some ⟨b2, o2, none⟩) cap1 kids1 rest).size = kids1.size + 1 + rest.size := rfl
        omega
       have HG5 := Lib.hid hG5
       have hnn : rs2 ≠ [] := fun h => by
        have := hok (HH4.out.empty h)
        simp_all
       have HNN := Lib.hid hnn
       clear hG5 hnn
       go_roundw
       case rel => exact ⟨k + 1, rest, rs2, es2, by go_num, HN, HH5, HG5, Lib.hid fun h => absurd h HNN.out⟩
       case measure => (try simp [intOf]); omega
  ·obtain rfl : j = rs.length := by omega
   go_wp2
   go_ret
   refine ⟨u3, rs', rfl, level_of HH.out fun r hr => (HG.out.kid r hr).1, ⟨fun r hr => (HG.out.kid r hr).2, ⟨fun h => ?_, fun h => ?_⟩, ?_⟩, HH.out.rest⟩
   ·have := HL.out h
    rw [List.take_length] at this
    exact this
   ·cases rs' with
    | nil => rfl
    | cons r' rs' =>
     obtain ⟨h1, r, hr, hk⟩ := HG.out.kid r' (List.mem_cons_self ..)
     have h2 := leaf_kid (h r hr) hk
     have h3 := h1.2.2.1
     rw [h2] at h3
     exact absurd h3 (Nat.lt_irrefl 0)
   ·have := HG.out.size
    omega
end Go.Proofs.YtmpcmpeloebnhaaGreatDoor
namespace Go.Proofs.YtmpcmpeloebnhaaGreatDoor
open Go.RowKit
def dl : List Rw → Nat
 | [] => 0
 | r :: rs => max r.F.deep (dl rs)
theorem dl_mem {rs : List Rw} {r : Rw} (h : r ∈ rs) : r.F.deep ≤ dl rs := by
 induction rs with
 | nil => cases h
 | cons x rs ih =>
  show r.F.deep ≤ max x.F.deep (dl rs)
  rcases List.mem_cons.1 h with rfl | h
  ·omega
  ·have := ih h; omega
theorem dl_le {rs : List Rw} {m : Nat} (h : ∀ r ∈ rs, r.F.deep ≤ m) : dl rs ≤ m := by
 induction rs with
 | nil => exact Nat.zero_le _
 | cons x rs ih =>
  have h1 := h x (List.mem_cons_self ..)
  have h2 := ih fun r hr => h r (List.mem_cons_of_mem _ hr)
  show max x.F.deep (dl rs) ≤ m
  omega
theorem kid_deep : ∀ {F : Fo} {r : Rw}, F.kidOf r → r.F.deep + 1 ≤ F.deep := by
 intro F
 induction F with
 | nil => intro r h; exact h.elim
 | cons op name n pos a cap kids rest ihk ihr =>
  intro r h
  show r.F.deep + 1 ≤ max (kids.deep + 1) rest.deep
  rcases h with ⟨h, _⟩ | h
  ·rw [h]; omega
  ·have := ihr h; omega
theorem Next.deep {rs rs' : List Rw} (h : Next rs rs') (hne : rs' ≠ []) : dl rs' + 1 ≤ dl rs := by
 have h1 : 1 ≤ dl rs := by
  cases rs' with
  | nil => exact absurd rfl hne
  | cons r' rs' =>
   obtain ⟨r, hr, hk⟩ := h.kid r' (List.mem_cons_self ..)
   have := kid_deep hk
   have := dl_mem hr
   omega
 have h2 : dl rs' ≤ dl rs - 1 := dl_le fun r' hr' => by
  obtain ⟨r, hr, hk⟩ := h.kid r' hr'
  have := kid_deep hk
  have := dl_mem hr
  omega
 omega
def Fo.line : Fo → Prop
 | .nil => True
 | .cons _ _ _ _ _ _ kids rest => rest = .nil ∧ Fo.line kids
def Nd.line (T : Nd) : Prop := T.kids.line
def lineL (rs : List Rw) : Prop := rs.length ≤ 1 ∧ ∀ r ∈ rs, r.F.line ∧ 0 < r.F.len
theorem size_pos {F : Fo} (h : 0 < F.len) : 0 < F.size := Nat.lt_of_lt_of_le h (len_size F)
theorem Next.line {rs rs' : List Rw} (h : Next rs rs') (hl : lineL rs) (hne : rs ≠ []) (hin : ∀ r ∈ rs', 0 < r.F.len) : lineL rs' ∧ dl rs' + 1 = dl rs := by
 obtain ⟨r, rfl⟩ : ∃ r, rs = [r] := by
  cases rs with
  | nil => exact absurd rfl hne
  | cons r rs =>
   cases rs with
   | nil => exact ⟨r, rfl⟩
   | cons x rs => have := hl.1; simp at this
 obtain ⟨hline, hlen⟩ := hl.2 r (List.mem_cons_self ..)
 obtain ⟨rb, ro, rc, RF⟩ := r
 cases RF with
 | nil => exact absurd hlen (Nat.lt_irrefl 0)
 | cons op name n pos a cap kids rest =>
  obtain ⟨hrest, hkl⟩ := hline
  obtain rfl : rest = .nil := hrest
  have hd : dl [Rw.mk rb ro rc (.cons op name n pos a cap kids .nil)] = kids.deep + 1 := by
   show max (max (kids.deep + 1) 0) 0 = _
   omega
  have hkid : ∀ r' ∈ rs', r'.F = kids := by
   intro r' hr'
   obtain ⟨r, hr, hk⟩ := h.kid r' hr'
   obtain rfl : r = _ := by simpa using hr
   rcases hk with ⟨hk, _⟩ | hk
   ·exact hk.symm
   ·exact hk.elim
  have hsz := h.size
  have ht : total [Rw.mk rb ro rc (.cons op name n pos a cap kids .nil)] = kids.size + 1 + 0 + 0 := rfl
  rw [ht] at hsz
  rw [hd]
  cases rs' with
  | nil =>
   have hlf := h.none.1 rfl _ (List.mem_cons_self ..)
   obtain rfl : kids = .nil := hlf.1
   exact ⟨⟨Nat.zero_le _, fun r hr => by simp at hr⟩, rfl⟩
  | cons r1 rs1 =>
   have hk1 := hkid r1 (List.mem_cons_self ..)
   have hp1 := hin r1 (List.mem_cons_self ..)
   rw [hk1] at hp1
   have hsp := size_pos hp1
   cases rs1 with
   | nil =>
    refine ⟨⟨Nat.le_refl _, fun r hr => ?_⟩, ?_⟩
    ·obtain rfl : r = r1 := by simpa using hr
     rw [hk1]; exact ⟨hkl, hp1⟩
    ·show max r1.F.deep 0 + 1 = _
     rw [hk1]; omega
   | cons r2 rs2 =>
    have hk2 := hkid r2 (by simp)
    have h3 : total (r1 :: r2 :: rs2) = r1.F.size + (r2.F.size + total rs2) := rfl
    rw [h3, hk1, hk2] at hsz
    simp at hsz
    omega
def DepthOut (T : Nd) (d : Int) : Prop := 1 ≤ d ∧ d ≤ 31 ∧ d ≤ T.deep ∧ (T.line → d = min (T.deep : Int) 31)
theorem level_one (w : World) (op name : ByteArray) (n pos : Int) (a : Option Addr) (cap : Nat) (kids : Fo) (hT : Nd.In w ⟨op, name, n, pos, a, cap, kids⟩) :
  LevelIn (((w.alloc (boxOf op name n pos a kids.len cap)).alloc (boxOf op name n pos a kids.len cap)).alloc (.cells #[.slice (some ⟨w.heap.size + 1, 0, none⟩) 1 1] 24)) (.slice (some ⟨w.heap.size + 1 + 1, 0, none⟩) 1 1) [⟨w.heap.size + 1, 0, 1, .cons op name n pos a cap kids .nil⟩] := by
 have hb : ∀ o1 o2 o3 : Obj, Below w.heap.size w (((w.alloc o1).alloc o2).alloc o3) := fun o1 o2 o3 => (((Below.refl _ _).alloc (Nat.le_refl _) _).alloc (by simp) _).alloc (by simp; omega) _
 have hs2 : ((w.alloc (boxOf op name n pos a kids.len cap)).alloc (boxOf op name n pos a kids.len cap)).heap.size = w.heap.size + 1 + 1 := by simp
 have hh1 : (((w.alloc (boxOf op name n pos a kids.len cap)).alloc (boxOf op name n pos a kids.len cap)).alloc (.cells #[.slice (some ⟨w.heap.size + 1, 0, none⟩) 1 1] 24)).heap[w.heap.size + 1]? = some (boxOf op name n pos a kids.len cap) := by
  rw [Below.heap_alloc _ _ _ (by simp)]
  have := new_at (w.alloc (boxOf op name n pos a kids.len cap)) (boxOf op name n pos a kids.len cap)
  rw [alloc_size] at this
  exact this
 have hh2 : (((w.alloc (boxOf op name n pos a kids.len cap)).alloc (boxOf op name n pos a kids.len cap)).alloc (.cells #[.slice (some ⟨w.heap.size + 1, 0, none⟩) 1 1] 24)).heap[w.heap.size + 1 + 1]? = some (.cells #[.slice (some ⟨w.heap.size + 1, 0, none⟩) 1 1] 24) := by
  rw [← hs2]; exact new_at _ _
 have hT2 := hT.below (hb (boxOf op name n pos a kids.len cap) (boxOf op name n pos a kids.len cap) (.cells #[.slice (some ⟨w.heap.size + 1, 0, none⟩) 1 1] 24))
 generalize (((w.alloc (boxOf op name n pos a kids.len cap)).alloc (boxOf op name n pos a kids.len cap)).alloc (.cells #[.slice (some ⟨w.heap.size + 1, 0, none⟩) 1 1] 24)) = W at hh1 hh2 hT2
 refine ⟨some ⟨w.heap.size + 1 + 1, 0, none⟩, 1, rfl, fun i r hr => ⟨w.heap.size + 1 + 1, 0, rfl, ?_⟩, fun r hr => ?_⟩
 ·cases i with
  | zero =>
   obtain rfl : _ = r := by simpa using hr
   rw [cell_of_row _ _ _ _ _ _ hh2]
   rfl
  | succ i => simp at hr
 ·obtain rfl : r = _ := by simpa using hr
  refine ⟨⟨⟨?_, ?_, ?_, ?_, ?_⟩, hT2, trivial⟩, by show 1 ≤ _; omega, Nat.lt_succ_self 0, ?_⟩
  ·show W.cell? ⟨w.heap.size + 1, 0, none⟩ = _
   rw [cell_of_row _ _ _ _ _ _ hh1]; rfl
  ·show W.cell? ⟨w.heap.size + 1, 1, none⟩ = _
   rw [cell_of_row _ _ _ _ _ _ hh1]; rfl
  ·show W.cell? ⟨w.heap.size + 1, 2, none⟩ = _
   rw [cell_of_row _ _ _ _ _ _ hh1]; rfl
  ·show W.cell? ⟨w.heap.size + 1, 3, none⟩ = _
   rw [cell_of_row _ _ _ _ _ _ hh1]; rfl
  ·show W.cell? ⟨w.heap.size + 1, 4, none⟩ = _
   rw [cell_of_row _ _ _ _ _ _ hh1]; rfl
  ·show W.frozen? ⟨w.heap.size + 1, 0, none⟩ = false
   unfold World.frozen?
   simp only [hh1]
   rfl
structure Down (T : Nd) (d : Nat) (rs : List Rw) : Prop where
 most : d + dl rs ≤ T.deep
 line : T.line → lineL rs ∧ d + dl rs = T.deep
 room : total rs ≤ 3000
theorem Down.next {T : Nd} {d : Nat} {rs rs' : List Rw} (h : Down T d rs) (hn : Next rs rs') (hne : rs ≠ []) (hin : ∀ r ∈ rs, 0 < r.F.len) (hin' : ∀ r ∈ rs', 0 < r.F.len) : Down T (d + 1) rs' := by
 have h1 : 1 ≤ dl rs := by
  cases rs with
  | nil => exact absurd rfl hne
  | cons r rs =>
   have h2 := hin r (List.mem_cons_self ..)
   have h3 := dl_mem (List.mem_cons_self (a := r) (l := rs))
   have h4 : 1 ≤ r.F.deep := by
    obtain ⟨rb, ro, rc, RF⟩ := r
    cases RF with
    | nil => exact absurd h2 (Nat.lt_irrefl 0)
    | cons op name n pos a cap kids rest => show 1 ≤ max (kids.deep + 1) rest.deep; omega
   omega
 refine ⟨?_, fun hl => ?_, ?_⟩
 ·have := h.most
  by_cases hz : rs' = []
  ·subst hz; show d + 1 + 0 ≤ _; omega
  ·have := hn.deep hz; omega
 ·obtain ⟨h2, h3⟩ := h.line hl
  obtain ⟨h4, h5⟩ := hn.line h2 hne hin'
  exact ⟨h4, by omega⟩
 ·have := hn.size; have := h.room; omega
theorem Down.out {T : Nd} {d : Nat} {rs : List Rw} (h : Down T d rs) (h1 : 1 ≤ d) (h2 : d ≤ 31) (h3 : rs = [] ∨ d = 31) : DepthOut T d := by
 have h4 := h.most
 refine ⟨by omega, by omega, by omega, fun hl => ?_⟩
 have h5 := (h.line hl).2
 rcases h3 with rfl | rfl
 ·have h6 : dl [] = 0 := rfl
  omega
 ·omega
theorem Down.first (T : Nd) (b : Nat) (hs : T.size ≤ 3000) : Down T 0 [⟨b, 0, 1, .cons T.op T.name T.n T.pos T.a T.cap T.kids .nil⟩] := by
 have hd : dl [⟨b, 0, 1, .cons T.op T.name T.n T.pos T.a T.cap T.kids .nil⟩] = T.deep := by
  show max (max (T.kids.deep + 1) 0) 0 = T.kids.deep + 1
  omega
 refine ⟨by omega, fun hl => ⟨⟨Nat.le_refl _, fun r hr => ?_⟩, by omega⟩, ?_⟩
 ·obtain rfl : r = _ := by simpa using hr
  exact ⟨⟨rfl, hl⟩, Nat.lt_succ_self 0⟩
 ·show (T.kids.size + 1 + 0) + 0 ≤ 3000
  have : T.size = T.kids.size + 1 := rfl
  omega
set_option maxRecDepth 100000 in
set_option maxHeartbeats 8000000 in
theorem depth_any (T : Nd) (w : World) (hT : T.In w) (hs : T.size ≤ 3000) : Calls Tryz.prog 125 #[T.val] w fun e w' => (∃ d, e = .returned (.int .i64 d) ∧ DepthOut T d) ∧ Below w.heap.size w w' := by
 obtain ⟨op, name, n, pos, a, cap, kids⟩ := T
 have hc5 := cellsNode
 rw [Nd.val_def]
 have HT := Lib.hid hT
 have HS := Lib.hid hs
 clear hT hs
 show Calls _ _ #[.agg #[.string op, .string name, .int .i64 n, .int .i64 pos, .slice a kids.len cap]] w _
 go_enter Tryz.func125, Tryz.ntmps125
 go_wp2_with fail
 have hlev := level_one w op name n pos a cap kids HT.out
 refine (below_any _ _ _ hlev (by have := HS.out; show (kids.size + 1 + 0) + 0 ≤ 3000; have h : (Nd.mk op name n pos a cap kids).size = kids.size + 1 := rfl; omega)).mono ?_
 rintro e w1 ⟨v1, rs1, rfl, hl1, hn1, hb1⟩
 obtain ⟨a1, cap1, rfl, hl2⟩ := hl1
 have hl1 : LevelIn w1 (.slice a1 rs1.length cap1) rs1 := ⟨a1, cap1, rfl, hl2⟩
 have HL1 := Lib.hid hl1
 have HN1 := Lib.hid hn1
 have hbb : Below w.heap.size w w1 := ((((Below.refl _ _).alloc (Nat.le_refl _) _).alloc (by simp) _).alloc (by simp; omega) _).trans (hb1.mono (by simp; omega))
 have hins1 : ∀ r ∈ rs1, 0 < r.F.len := fun r hr => (hl2.2 r hr).2.2.1
 have hD := (Down.first ⟨op, name, n, pos, a, cap, kids⟩ (w.heap.size + 1) HS.out).next hn1 (by simp) (by intro r hr; rw [List.mem_singleton] at hr; subst hr; exact Nat.lt_succ_self 0) hins1
 have HD := Lib.hid hD
 clear hl1 hn1 hl2 hb1 hlev hD hins1
 go_wp2_with fail
 go_loopw [3, 4] (fun dv lv wr => ∃ (d : Nat) (rs : List Rw) (a' : Option Addr) (cap' : Nat), dv = .int .i64 d ∧ lv = .slice a' rs.length cap' ∧ 1 ≤ d ∧ d ≤ 31 ∧ RowKit.Hid (LevelIn wr (.slice a' rs.length cap') rs) ∧ RowKit.Hid (Down ⟨op, name, n, pos, a, cap, kids⟩ d rs) ∧ Below w.heap.size w wr) (fun dv _ _ => 31 - (intOf dv).toNat)
 case atStart => exact ⟨1, rs1, a1, cap1, rfl, rfl, by omega, by omega, HL1, HD, hbb⟩
 case round =>
  obtain ⟨d, rs, a', cap', rfl, rfl, hd1, hd2, HL, HD2, hbx⟩ := hrel
  by_cases hz : rs = []
  ·have hout := HD2.out.out hd1 hd2 (.inl hz)
   subst hz
   have HO := Lib.hid hout
   clear hout HD2 HL HD HL1 HN1 HT HS
   go_wp2_with fail
   go_ret
   exact ⟨⟨d, rfl, HO.out⟩, hbx⟩
  ·have hlen : 0 < rs.length := List.length_pos_iff.2 hz
   have HZ := Lib.hid hz
   clear hz
   have hl0 : (0 : Int) < rs.length := by omega
   by_cases h31 : d = 31
   ·have hout := HD2.out.out hd1 hd2 (.inr h31)
    have HO := Lib.hid hout
    have h30 : ¬ (d : Int) ≤ 30 := by omega
    clear hout HD2 HL HD HL1 HN1 HT HS h31
    go_wp2_with fail
    go_ret
    exact ⟨⟨d, rfl, HO.out⟩, hbx⟩
   ·have h30 : (d : Int) ≤ 30 := by omega
    clear h31
    go_wp2_with fail
    refine (below_any _ _ _ HL.out HD2.out.room).mono ?_
    rintro e w2 ⟨v2, rs2, rfl, hl2, hn2, hb2⟩
    have hins : ∀ r ∈ rs, 0 < r.F.len := by obtain ⟨_, _, _, _, h⟩ := HL.out; exact fun r hr => (h r hr).2.2.1
    obtain ⟨a2, cap2, rfl, hl3⟩ := hl2
    have hins2 : ∀ r ∈ rs2, 0 < r.F.len := fun r hr => (hl3.2 r hr).2.2.1
    have HL2 := Lib.hid (show LevelIn w2 (.slice a2 rs2.length cap2) rs2 from ⟨a2, cap2, rfl, hl3⟩)
    have HD3 := Lib.hid (HD2.out.next hn2 HZ.out hins hins2)
    have hbx2 := hbx.trans (hb2.mono hbx.size)
    clear hl3 hn2 hb2 hins hins2 HD2 HL HZ
    go_wp2
    go_roundw
    case rel => exact ⟨d + 1, rs2, a2, cap2, by go_num, rfl, by omega, by omega, HL2, HD3, hbx2⟩
    case measure => (try simp [intOf]); omega
end Go.Proofs.YtmpcmpeloebnhaaGreatDoor
namespace Go.Proofs.YtmpcmpeloebnhaaGreatDoor
open Go.RowKit
set_option maxRecDepth 100000 in
set_option maxHeartbeats 4000000 in
theorem inBounds_any (T : Nd) (w : World) (hT : T.In w) (hs : T.size ≤ 2000) : Calls Tryz.prog 91 #[T.val] w fun e w' => (∃ d, DepthOut T d ∧ e = .returned (.bool (decide (d ≤ 30)))) ∧ Below w.heap.size w w' := by
 obtain ⟨op, name, n, pos, a, cap, kids⟩ := T
 have hsv : min (((Nd.mk op name n pos a cap kids).size : Nat) : Int) 2001 = (Nd.mk op name n pos a cap kids).size := by omega
 have hc1 := tsize_any ⟨op, name, n, pos, a, cap, kids⟩ (w.alloc (boxOf op name n pos a kids.len cap)) (hT.below (below_box _ _))
 rw [hsv] at hc1
 have hs2 : (((Nd.mk op name n pos a cap kids).size : Nat) : Int) ≤ 2000 := by omega
 have HC1 := Lib.hid hc1
 have HT := Lib.hid hT
 have HS := Lib.hid hs
 have HB := Lib.hid (new_at w (boxOf op name n pos a kids.len cap))
 have hc5 := cellsNode
 have hsz1 := alloc_size w (boxOf op name n pos a kids.len cap)
 have HZ := Lib.hid hsz1
 clear hc1 hT hsv hs hsz1
 generalize (((Nd.mk op name n pos a cap kids).size : Nat) : Int) = z at HC1 hs2
 rw [Nd.val_def]
 go_enter Tryz.func91, Tryz.ntmps91
 go_wp2_with fail
 refine HC1.out.mono ?_
 rintro e w2 ⟨rfl, hb2⟩
 have hblk : w2.heap[w.heap.size]? = some (boxOf op name n pos a kids.len cap) := by
  rw [hb2.block _ (by have := HZ.out; omega)]; exact HB.out
 have b0 : w2.cell? ⟨w.heap.size, 0, none⟩ = some (.string op) := by rw [cell_of_row _ _ _ _ _ _ hblk]; rfl
 have b1 : w2.cell? ⟨w.heap.size, 1, none⟩ = some (.string name) := by rw [cell_of_row _ _ _ _ _ _ hblk]; rfl
 have b2 : w2.cell? ⟨w.heap.size, 2, none⟩ = some (.int .i64 n) := by rw [cell_of_row _ _ _ _ _ _ hblk]; rfl
 have b3 : w2.cell? ⟨w.heap.size, 3, none⟩ = some (.int .i64 pos) := by rw [cell_of_row _ _ _ _ _ _ hblk]; rfl
 have b4 : w2.cell? ⟨w.heap.size, 4, none⟩ = some (.slice a kids.len cap) := by rw [cell_of_row _ _ _ _ _ _ hblk]; rfl
 have hbb := box_then hb2
 have hc2 := depth_any ⟨op, name, n, pos, a, cap, kids⟩ w2 (HT.out.below hbb) (by have := HS.out; omega)
 have HC2 := Lib.hid hc2
 clear hc2 hb2 hblk HC1
 go_wp2_with fail
 refine HC2.out.mono ?_
 rintro e w3 ⟨⟨d, rfl, hd⟩, hb3⟩
 have HD := Lib.hid hd
 clear hd
 go_wp2
 go_ret
 exact ⟨⟨d, HD.out, rfl⟩, hbb.trans (hb3.mono hbb.size)⟩
end Go.Proofs.YtmpcmpeloebnhaaGreatDoor
namespace Go.Proofs.YtmpcmpeloebnhaaGreatDoor
open Go.RowKit
set_option maxRecDepth 100000 in
set_option maxHeartbeats 8000000 in
theorem isFormula_fine (T : Nd) (w : World) (hU : LTabs w) (hT : T.In w) (hsz : T.sized) (hd : T.deep ≤ 30) (hs : T.size ≤ 2000) : Calls Tryz.prog 81 #[T.val] w fun e w' => e = .returned (.bool T.okF) ∧ Below w.heap.size w w' := by
 have hf := fun W h1 h2 => formulas_all T W h1 h2 hsz
 have hb := fun W h => inBounds_any T W h hs
 obtain ⟨op, name, n, pos, a, cap, kids⟩ := T
 generalize (Nd.mk op name n pos a cap kids).okF = q at hf
 have HI := Lib.hid hT
 have HU := Lib.hid hU
 have HF := Lib.hid hf
 have HC := Lib.hid (hb (w.alloc (boxOf op name n pos a kids.len cap)) (hT.below (below_box _ _)))
 have HB := Lib.hid (new_at w (boxOf op name n pos a kids.len cap))
 have HZ := Lib.hid (lt_heap HB.out)
 have HD := Lib.hid (And.intro hd hs)
 have hc5 := cellsNode
 clear hf hb hT hU hd hs hsz
 rw [Nd.val_def]
 go_enter Tryz.func81, Tryz.ntmps81
 go_wp2_with fail
 refine HC.out.mono ?_
 rintro e w2 ⟨⟨d, hd, rfl⟩, hb2⟩
 have hdl : d ≤ 30 := by have h1 := hd.2.2.1; have h2 := HD.out.1; omega
 rw [decide_eq_true hdl]
 clear hd hdl
 have hbb := box_then hb2
 obtain ⟨b0, b1, b2, b3, b4⟩ := box_cells (show w2.heap[w.heap.size]? = _ from (hb2.block _ HZ.out).trans HB.out)
 have hcall := HF.out w2 (HU.out.below hbb) (HI.out.below hbb)
 rw [Nd.val_def] at hcall
 have HC2 := Lib.hid hcall
 clear hb2 HC hcall
 go_wp2_with fail
 refine HC2.out.mono ?_
 rintro e w3 ⟨rfl, hb3⟩
 have hb4 := hbb.trans (hb3.mono hbb.size)
 clear hb3 HC2
 go_wp2_with fail
 go_ret
 exact ⟨rfl, hb4⟩
set_option maxRecDepth 100000 in
set_option maxHeartbeats 8000000 in
theorem isTerm_fine (T : Nd) (w : World) (hU : LTabs w) (hT : T.In w) (hsz : T.sized) (hd : T.deep ≤ 30) (hs : T.size ≤ 2000) : Calls Tryz.prog 54 #[T.val] w fun e w' => e = .returned (.bool T.okT) ∧ Below w.heap.size w w' := by
 have hf := fun W h1 h2 => (terms_all T).1 W h1 h2 hsz
 have hb := fun W h => inBounds_any T W h hs
 obtain ⟨op, name, n, pos, a, cap, kids⟩ := T
 generalize (Nd.mk op name n pos a cap kids).okT = q at hf
 have HI := Lib.hid hT
 have HU := Lib.hid hU
 have HF := Lib.hid hf
 have HC := Lib.hid (hb (w.alloc (boxOf op name n pos a kids.len cap)) (hT.below (below_box _ _)))
 have HB := Lib.hid (new_at w (boxOf op name n pos a kids.len cap))
 have HZ := Lib.hid (lt_heap HB.out)
 have HD := Lib.hid (And.intro hd hs)
 have hc5 := cellsNode
 clear hf hb hT hU hd hs hsz
 rw [Nd.val_def]
 go_enter Tryz.func54, Tryz.ntmps54
 go_wp2_with fail
 refine HC.out.mono ?_
 rintro e w2 ⟨⟨d, hd, rfl⟩, hb2⟩
 have hdl : d ≤ 30 := by have h1 := hd.2.2.1; have h2 := HD.out.1; omega
 rw [decide_eq_true hdl]
 clear hd hdl
 have hbb := box_then hb2
 obtain ⟨b0, b1, b2, b3, b4⟩ := box_cells (show w2.heap[w.heap.size]? = _ from (hb2.block _ HZ.out).trans HB.out)
 have hcall := HF.out w2 (HU.out.below hbb) (HI.out.below hbb)
 rw [Nd.val_def] at hcall
 have HC2 := Lib.hid hcall
 clear hb2 HC hcall
 go_wp2_with fail
 refine HC2.out.mono ?_
 rintro e w3 ⟨rfl, hb3⟩
 have hb4 := hbb.trans (hb3.mono hbb.size)
 clear hb3 HC2
 go_wp2_with fail
 go_ret
 exact ⟨rfl, hb4⟩
end Go.Proofs.YtmpcmpeloebnhaaGreatDoor
namespace Go.Proofs.YtmpcmpeloebnhaaGreatDoor
open Go.RowKit
set_option maxRecDepth 100000 in
set_option maxHeartbeats 16000000 in
theorem mayBeDecls_any (l : List Dc) (a : Option Addr) (cap : Nat) (w : World) (hT : LTabs w) (h : DcsIn w a l) : Calls Tryz.prog 80 #[.slice a l.length cap] w fun e w' => e = .returned (.bool (l.all Dc.ok)) ∧ Below w.heap.size w w' := by
 have hc3 := cellsDecl
 have HT := Lib.hid hT
 clear hT
 rcases h with rfl | ⟨b, o, rfl, hlim, hat, hsz⟩
 ·show Calls _ _ #[.slice a 0 cap] w _
  go_enter Tryz.func80, Tryz.ntmps80
  go_wp2_with fail
  go_loopw [7] (fun i wr => i = .int .i64 0 ∧ Below w.heap.size w wr) (fun _ _ => 0)
  case atStart => exact ⟨rfl, Below.refl _ _⟩
  case round =>
   obtain ⟨rfl, hbx⟩ := hrel
   go_wp2_with fail
   go_ret
   exact ⟨rfl, hbx⟩
 ·have HA := Lib.hid hat
  have HS := Lib.hid hsz
  clear hat hsz
  go_enter Tryz.func80, Tryz.ntmps80
  go_wp2_with fail
  go_loopw [7] (fun i wr => ∃ k : Nat, i = .int .i64 k ∧ k ≤ l.length ∧ RowKit.Hid (l.all Dc.ok = (l.drop k).all Dc.ok) ∧ Below w.heap.size w wr) (fun i _ => l.length - (intOf i).toNat)
  case atStart => exact ⟨0, rfl, by omega, Lib.hid rfl, Below.refl _ _⟩
  case round =>
   obtain ⟨k, rfl, hk, HL, hbx⟩ := hrel
   by_cases hkl : k < l.length
   ·have hkl2 : (k : Int) < l.length := by omega
    have hg := List.getElem?_eq_getElem hkl
    obtain ⟨c0, c1, c2⟩ := (HA.out k (l[k]'hkl) hg).below hbx
    have hns := HS.out (l[k]'hkl) (List.getElem_mem _)
    have HD : RowKit.Hid (l.drop k = (l[k]'hkl) :: l.drop (k + 1)) := Lib.hid (List.drop_eq_getElem_cons hkl)
    clear hg
    generalize (l[k]'hkl) = d at c0 c1 c2 hns HD
    obtain ⟨nm, od, po⟩ := d
    simp only [] at c0 c1 c2 hns
    have HC := Lib.hid (mayBeName_any nm (wr.alloc (.cells #[.string nm, .int .i64 od, .int .i64 po] 109)) hns (HT.out.below (hbx.alloc hbx.size _)))
    have HB := Lib.hid (new_at wr (.cells #[.string nm, .int .i64 od, .int .i64 po] 109))
    go_wp2_with fail
    refine HC.out.mono ?_
    rintro e w2 ⟨rfl, hb2⟩
    have hblk := (hb2.block _ (lt_heap HB.out)).trans HB.out
    have d1 : w2.cell? ⟨wr.heap.size, 1, none⟩ = some (.int .i64 od) := by rw [cell_of_row _ _ _ _ _ _ hblk]; rfl
    have hbx2 := hbx.trans ((box_then hb2).mono hbx.size)
    clear hb2 hblk HC c0 c1 c2 HB
    by_cases hn : nameB nm = true
    ·rw [hn]
     by_cases h0 : 0 ≤ od
     ·by_cases h2 : od ≤ 2
      ·have HL2 := Lib.hid (show l.all Dc.ok = (l.drop (k + 1)).all Dc.ok from by rw [HL.out, HD.out, List.all_cons]; unfold Dc.ok; rw [hn, decide_eq_true h0, decide_eq_true h2]; rfl)
       clear hn
       go_wp2_with fail
       go_roundw
       case rel => exact ⟨k + 1, by go_num, by omega, HL2, hbx2⟩
       case measure => (try simp [intOf]); omega
      ·have HL2 := Lib.hid (show l.all Dc.ok = false from by rw [HL.out, HD.out, List.all_cons]; unfold Dc.ok; rw [decide_eq_false h2]; simp)
       clear hn
       go_wp2_with fail
       go_ret
       exact ⟨by rw [HL2.out]; rfl, hbx2⟩
     ·have HL2 := Lib.hid (show l.all Dc.ok = false from by rw [HL.out, HD.out, List.all_cons]; unfold Dc.ok; rw [decide_eq_false h0]; simp)
      clear hn
      go_wp2_with fail
      go_ret
      exact ⟨by rw [HL2.out]; rfl, hbx2⟩
    ·have hn2 : nameB nm = false := by simpa using hn
     have HL2 := Lib.hid (show l.all Dc.ok = false from by rw [HL.out, HD.out, List.all_cons]; unfold Dc.ok; rw [hn2]; simp)
     rw [hn2]
     clear hn hn2
     go_wp2_with fail
     go_ret
     exact ⟨by rw [HL2.out]; rfl, hbx2⟩
   ·obtain rfl : k = l.length := by omega
    have HL2 := Lib.hid (show l.all Dc.ok = true from by rw [HL.out, List.drop_length]; rfl)
    go_wp2_with fail
    go_ret
    exact ⟨by rw [HL2.out]; rfl, hbx⟩
set_option maxRecDepth 100000 in
set_option maxHeartbeats 16000000 in
theorem is_any (ds : List Dc) (da : Option Addr) (dc : Nat) (ps : List Pd) (pa : Option Addr) (pc : Nat) (T : Nd) (w : World) (hT : LTabs w) (hd : DcsIn w da ds) (hp : PdsIn w pa ps) (hm : T.In w) (hms : T.sized) (hmd : T.deep ≤ 30) (hmz : T.size ≤ 2000) :
  Calls Tryz.prog 44 #[.agg #[.slice da ds.length dc, .slice pa ps.length pc, .string T.op, .string T.name, .int .i64 T.n, .int .i64 T.pos, .slice T.a T.kids.len T.cap]] w fun e w' => e = .returned (.bool (ps.all Pd.ok && ds.all Dc.ok && T.okF)) ∧ Below w.heap.size w w' := by
 have hc5 := cellsNode
 have hc8 := cellsPred
 have HT := Lib.hid hT
 have HDS := Lib.hid hd
 have HPS := Lib.hid hp.2
 have HM := Lib.hid (fun W (hb : Below w.heap.size w W) => isFormula_fine T W (hT.below hb) (hm.below hb) hms hmd hmz)
 obtain ⟨op, name, n, pos, a, cap, kids⟩ := T
 generalize (Nd.mk op name n pos a cap kids).okF = q at HM ⊢
 have HB := Lib.hid (new_at w (.cells (pgCells da ds.length dc pa ps.length pc op name n pos a kids.len cap) 28))
 have HPI := Lib.hid hp.1
 clear hT hd hp hm hms hmd hmz
 show Calls _ _ #[.agg #[.slice da ds.length dc, .slice pa ps.length pc, .string op, .string name, .int .i64 n, .int .i64 pos, .slice a kids.len cap]] w _
 go_enter Tryz.func44, Tryz.ntmps44
 go_wp2_with fail
 go_loopw [8] (fun i wr => ∃ k : Nat, i = .int .i64 k ∧ k ≤ ps.length ∧ RowKit.Hid (ps.all Pd.ok = (ps.drop k).all Pd.ok) ∧ RowKit.Hid (wr.heap[w.heap.size]? = some (.cells (pgCells da ds.length dc pa ps.length pc op name n pos a kids.len cap) 28)) ∧ Below w.heap.size w wr) (fun i _ => ps.length - (intOf i).toNat)
 case atStart => exact ⟨0, rfl, by omega, Lib.hid rfl, HB, below_box _ _⟩
 case round =>
  obtain ⟨k, rfl, hk, HL, HX, hbx⟩ := hrel
  by_cases hkl : k < ps.length
  ·have hkl2 : (k : Int) < ps.length := by omega
   have hg := List.getElem?_eq_getElem hkl
   obtain ⟨pb, po, hpa, hplim, hpat⟩ : ∃ b o, pa = some ⟨b, o, none⟩ ∧ ps.length ≤ 140737488351232 ∧ ∀ i p, ps[i]? = some p → PdAt w b (o + i * 8) p := by
    rcases HPI.out with h | h
    ·rw [h] at hkl; exact absurd hkl (Nat.not_lt_zero _)
    ·exact h
   subst hpa
   obtain ⟨c0, c1, c2, c3, c4, c5, c6, c7⟩ := (hpat k (ps[k]'hkl) hg).below hbx
   have HF := Lib.hid (HPS.out (ps[k]'hkl) (List.getElem_mem _))
   have HD : RowKit.Hid (ps.drop k = (ps[k]'hkl) :: ps.drop (k + 1)) := Lib.hid (List.drop_eq_getElem_cons hkl)
   clear hg hpat
   generalize (ps[k]'hkl) = p at c0 c1 c2 c3 c4 c5 c6 c7 HF HD
   obtain ⟨nm, prs, ppa, ppc, ⟨bop, bname, bn, bpos, ba, bcap, bkids⟩, ppos⟩ := p
   simp only [] at c0 c1 c2 c3 c4 c5 c6 c7
   have HS1 := Lib.hid (new_at wr (.cells (pdCells nm ppa prs.length ppc bop bname bn bpos ba bkids.len bcap ppos) 64))
   have HC := Lib.hid (mayBeName_any nm (wr.alloc (.cells (pdCells nm ppa prs.length ppc bop bname bn bpos ba bkids.len bcap ppos) 64)) HF.out.name (HT.out.below (hbx.alloc hbx.size _)))
   have HP : RowKit.Hid (ps.all Pd.ok = ((nameB nm && decide ((prs.length : Int) ≤ 6) && prs.all Dc.ok && (Nd.mk bop bname bn bpos ba bcap bkids).okF) && (ps.drop (k + 1)).all Pd.ok)) := Lib.hid (by rw [HL.out, HD.out, List.all_cons]; rfl)
   have HBF := Lib.hid (fun W (hb : Below w.heap.size w W) => isFormula_fine ⟨bop, bname, bn, bpos, ba, bcap, bkids⟩ W (HT.out.below hb) (HF.out.body.below hb) HF.out.sized HF.out.deep HF.out.size)
   generalize (Nd.mk bop bname bn bpos ba bcap bkids).okF = bq at HP HBF
   go_wp2_with fail
   refine HC.out.mono ?_
   rintro e w2 ⟨rfl, hb2⟩
   have hbx2 := hbx.trans ((box_then hb2).mono hbx.size)
   have HS2 := Lib.hid ((hb2.block _ (lt_heap HS1.out)).trans HS1.out)
   obtain ⟨s0, s1, s2, s3, s4, s5, s6⟩ := pd_cells HS2.out
   have HX2 := Lib.hid (((box_then hb2).block _ (lt_heap HX.out)).trans HX.out)
   clear hb2 HC c0 c1 c2 c3 c4 c5 c6 c7 HS1
   generalize nameB nm = qn at HP ⊢
   cases qn with
   | false =>
    go_wp2_with fail
    go_ret
    exact ⟨by rw [HP.out]; rfl, hbx2⟩
   | true =>
    by_cases h6 : (prs.length : Int) ≤ 6
    case neg =>
     have HP2 := Lib.hid (show ps.all Pd.ok = false from by rw [HP.out, decide_eq_false h6]; rfl)
     go_wp2_with fail
     go_ret
     exact ⟨by rw [HP2.out]; rfl, hbx2⟩
    have HP2 := Lib.hid (show ps.all Pd.ok = ((prs.all Dc.ok && bq) && (ps.drop (k + 1)).all Pd.ok) from by rw [HP.out, decide_eq_true h6]; rfl)
    have HC3 := Lib.hid (mayBeDecls_any prs ppa ppc w2 (HT.out.below hbx2) (HF.out.params.below hbx2))
    go_wp2_with fail
    refine HC3.out.mono ?_
    rintro e w3 ⟨rfl, hb3⟩
    have hbx3 := hbx2.trans (hb3.mono hbx2.size)
    clear s0 s1 s2 s3 s4 s5 s6
    have HS3 := Lib.hid ((hb3.block _ (lt_heap HS2.out)).trans HS2.out)
    obtain ⟨s0, s1, s2, s3, s4, s5, s6⟩ := pd_cells HS3.out
    have HX3 := Lib.hid ((hb3.block _ (lt_heap HX2.out)).trans HX2.out)
    clear hb3 HC3
    generalize prs.all Dc.ok = qd at HP2 ⊢
    cases qd with
    | false =>
     go_wp2_with fail
     go_ret
     exact ⟨by rw [HP2.out]; rfl, hbx3⟩
    | true =>
     have hcall := HBF.out w3 hbx3
     rw [Nd.val_def] at hcall
     have HC4 := Lib.hid hcall
     clear hcall
     go_wp2_with fail
     refine HC4.out.mono ?_
     rintro e w4 ⟨rfl, hb4⟩
     have hbx4 := hbx3.trans (hb4.mono hbx3.size)
     have HX4 := Lib.hid ((hb4.block _ (lt_heap HX3.out)).trans HX3.out)
     clear hb4 HC4 s0 s1 s2 s3 s4 s5 s6
     cases bq with
     | false =>
      go_wp2_with fail
      go_ret
      exact ⟨by rw [HP2.out]; rfl, hbx4⟩
     | true =>
      have HL4 := Lib.hid (show ps.all Pd.ok = (ps.drop (k + 1)).all Pd.ok from by rw [HP2.out]; rfl)
      go_wp2_with fail
      go_roundw
      case rel => exact ⟨k + 1, by go_num, by omega, HL4, HX4, hbx4⟩
      case measure => (try simp [intOf]); omega
  ·obtain rfl : k = ps.length := by omega
   have HL2 := Lib.hid (show ps.all Pd.ok = true from by rw [HL.out, List.drop_length]; rfl)
   obtain ⟨b0, b1, b2, b3, b4, b5, b6⟩ := pg_cells HX.out
   have HC := Lib.hid (mayBeDecls_any ds da dc wr (HT.out.below hbx) (HDS.out.below hbx))
   go_wp2_with fail
   refine HC.out.mono ?_
   rintro e w2 ⟨rfl, hb2⟩
   have hbx2 := hbx.trans (hb2.mono hbx.size)
   clear b0 b1 b2 b3 b4 b5 b6
   obtain ⟨b0, b1, b2, b3, b4, b5, b6⟩ := pg_cells ((hb2.block _ (lt_heap HX.out)).trans HX.out)
   generalize hdd : ds.all Dc.ok = dd
   have HDD := Lib.hid hdd
   clear hdd hb2 HC
   cases dd with
   | false =>
    go_wp2_with fail
    go_ret
    exact ⟨by rw [HL2.out, HDD.out]; rfl, hbx2⟩
   | true =>
    have hcall := HM.out w2 hbx2
    rw [Nd.val_def] at hcall
    have HC2 := Lib.hid hcall
    clear hcall
    go_wp2_with fail
    refine HC2.out.mono ?_
    rintro e w3 ⟨rfl, hb3⟩
    have hb4 := hbx2.trans (hb3.mono hbx2.size)
    clear hb3 HC2
    go_wp2_with fail
    go_ret
    exact ⟨by rw [HL2.out, HDD.out]; rfl, hb4⟩
end Go.Proofs.YtmpcmpeloebnhaaGreatDoor
namespace Go.Proofs.YtmpcmpeloebnhaaGreatDoor
open Go.RowKit
open Go.Maps
def predsR : List Pd → List Pd → Int × Int
 | _, [] => (0, 0)
 | ahead, p :: r => if (predR (predsK ahead) p).2 = 0 then predsR (ahead ++ [p]) r else predR (predsK ahead) p
def checkR (ds : List Dc) (ps : List Pd) (T : Nd) : Int × Int :=
 if (ps.all Pd.ok && ds.all Dc.ok && T.okF) = true then (if (onceR ds).2 = 0 then (if (predsR [] ps).2 = 0 then T.fk (predsK ps) (ordD ds) else predsR [] ps) else onceR ds) else (0, 1)
theorem predsK_snoc (l : List Pd) (p : Pd) (h : predsK l p.name = none) (y : ByteArray) : predsK (l ++ [p]) y = if y = p.name then some p.params else predsK l y := by
 unfold predsK at h ⊢
 rw [List.find?_append]
 by_cases hy : y = p.name
 ·subst hy
  rw [if_pos rfl]
  have h2 : (l.find? fun q => decide (q.name = p.name)) = none := by
   cases hq : l.find? (fun q => decide (q.name = p.name)) with
   | none => rfl
   | some x => rw [hq] at h; cases h
  rw [h2]
  simp
 ·rw [if_neg hy]
  have h3 : ([p].find? fun q => decide (q.name = y)) = none := by
   simp
   exact fun e => hy e.symm
  rw [h3, Option.or_none]
theorem predR_some {Q : ByteArray → Option (List Dc)} {p : Pd} (h : (predR Q p).2 = 0) : Q p.name = none := by
 unfold predR at h
 cases hq : Q p.name with
 | none => rfl
 | some x => rw [hq, if_pos (show (some x).isSome = true from rfl)] at h; cases h
theorem zeroPrd {w : World} {N m : Nat} (h : SMap Tryz.prog 9 w N m (fun _ => none)) : PrdQ w N m (predsK []) := ⟨_, h, fun _ => .inl ⟨rfl, rfl⟩⟩
theorem cellsProg7 : Tryz.prog.cellsOf 28 = 7 := by kernel_rfl
abbrev pgB (da : Option Addr) (dl dc : Nat) (pa : Option Addr) (pl pc : Nat) (T : Nd) : Obj := .cells (pgCells da dl dc pa pl pc T.op T.name T.n T.pos T.a T.kids.len T.cap) 28
set_option maxRecDepth 100000 in
set_option maxHeartbeats 16000000 in
theorem kcheck_any (ds : List Dc) (da : Option Addr) (dc : Nat) (ps : List Pd) (pa : Option Addr) (pc : Nat) (T : Nd) (w : World) (hT : LTabs w) (hd : DcsIn w da ds) (hp : PdsIn w pa ps) (hm : T.In w) (hms : T.sized) (hmd : T.deep ≤ 30) (hmz : T.size ≤ 2000) (hdl : ds.length ≤ 1000000) (hpl : ps.length ≤ 1000000) :
  Calls Tryz.prog 17 #[.agg #[.slice da ds.length dc, .slice pa ps.length pc, .string T.op, .string T.name, .int .i64 T.n, .int .i64 T.pos, .slice T.a T.kids.len T.cap]] w fun e w' => e = .returned (.tuple #[.int .i64 (checkR ds ps T).1, .int .i64 (checkR ds ps T).2]) ∧ Below w.heap.size w w' := by
 obtain ⟨q0, hq0⟩ : ∃ q0, q0 = checkR ds ps T := ⟨_, rfl⟩
 rw [← hq0]
 have hc7 := cellsProg7
 have hc8 := cellsPred
 have hc5 := cellsNode
 have hmm := @run_makeMap Tryz.prog
 have HW := Lib.hid (below_box w (pgB da ds.length dc pa ps.length pc T))
 have HB := Lib.hid (new_at w (pgB da ds.length dc pa ps.length pc T))
 have HC1 := Lib.hid (is_any ds da dc ps pa pc T (w.alloc (pgB da ds.length dc pa ps.length pc T)) (hT.below HW.out) (hd.below HW.out) ⟨by rcases hp.1 with h | ⟨b, o, h1, h2, h3⟩; exact .inl h; exact .inr ⟨b, o, h1, h2, fun i p hi => (h3 i p hi).below HW.out⟩, fun p hi => (hp.2 p hi).below HW.out⟩ (hm.below HW.out) hms hmd hmz)
 obtain ⟨p0, p1, p2, p3, p4, p5, p6⟩ := pg_cells HB.out
 have hqc : q0 = checkR ds ps T := hq0
 unfold checkR at hqc
 rcases bool_two (ps.all Pd.ok && ds.all Dc.ok && T.okF) with hok | hok
 ·rw [if_pos hok] at hqc
  rw [hok] at HC1
  rw [Bool.and_eq_true, Bool.and_eq_true] at hok
  have HO1 := Lib.hid (fun W (hW : Below w.heap.size w W) => konce_any ds da dc W hdl (hd.below hW))
  have HQC := Lib.hid hqc
  have HPO := Lib.hid (List.all_eq_true.1 hok.1.1)
  have HFQ := Lib.hid (fun W M nM N m (ho : OrdIs W M nM (ordD ds)) (hM : N ≠ M) (hn : nM ≤ ds.length) (hW : Below w.heap.size w W) (hpq : PrdQ W N m (predsK ps)) => kformula_all T W M nM (.map (some N)) (ordD ds) (predsK ps) ho (hpq.is hM) (hm.below hW) hms hok.2 (by omega))
  have HSC := Lib.hid (fun W N (hW : Below w.heap.size w W) => kscope_any ds da dc (some N) W hdl (hd.below hW))
  have HPF := Lib.hid hp.2
  have HPI := Lib.hid hp.1
  clear hq0 hqc hok hT hd hp hm hms hmd hmz
  rw [Nd.val_def] at HFQ
  go_enter Tryz.func17, Tryz.ntmps17
  go_wp2_with fail
  refine HC1.out.mono ?_
  rintro e w2 ⟨rfl, hb2⟩
  have HW2 := Lib.hid (HW.out.trans (hb2.mono HW.out.size))
  have HB2 := Lib.hid ((hb2.block _ (lt_heap HB.out)).trans HB.out)
  have HC2 := Lib.hid (HO1.out w2 HW2.out)
  clear hb2 HC1 HB HW p0 p1 p2 p3 p4 p5 p6
  obtain ⟨p0, p1, p2, p3, p4, p5, p6⟩ := pg_cells HB2.out
  go_wp2_with fail
  refine HC2.out.mono ?_
  rintro e w3 ⟨rfl, hb3⟩
  have HW3 := Lib.hid (HW2.out.trans (hb3.mono HW2.out.size))
  have HB3 := Lib.hid ((hb3.block _ (lt_heap HB2.out)).trans HB2.out)
  clear hb3 HC2 HB2 HW2 p0 p1 p2 p3 p4 p5 p6 HO1
  obtain ⟨p0, p1, p2, p3, p4, p5, p6⟩ := pg_cells HB3.out
  have hqc := HQC.out
  generalize onceR ds = o at hqc ⊢
  obtain ⟨o1, oe⟩ := o
  simp only [] at hqc
  by_cases hoe : oe = 0
  ·subst hoe
   rw [if_pos rfl] at hqc
   obtain ⟨qp, hqp⟩ : ∃ qp, qp = predsR [] ps := ⟨_, rfl⟩
   rw [← hqp] at hqc
   have HQP := Lib.hid hqp
   have HQ2 := Lib.hid hqc
   have HM0 := Lib.hid (zeroPrd (SMap.made Tryz.prog 9 w3))
   have HB4 := Lib.hid ((Below.heap_alloc w3 (.map #[] 0) _ (lt_heap HB3.out)).trans HB3.out)
   have HW4 := Lib.hid (HW3.out.alloc HW3.out.size (.map #[] 0))
   have hz3 := lt_heap HB3.out
   replace p0 := cell_below (below_box w3 (.map #[] 0)) p0
   replace p1 := cell_below (below_box w3 (.map #[] 0)) p1
   clear hqc hqp HQC HB3 HW3 p2 p3 p4 p5 p6
   rcases HPI.out with hnil | ⟨b, o, hab, hlim, hat⟩
   ·subst hnil
    have hz0 : ((([] : List Pd).length : Nat) : Int) = 0 := rfl
    have hq2 : q0 = T.fk (predsK []) (ordD ds) := by rw [HQ2.out, HQP.out]; rfl
    go_wp2_with fail
    go_loopw [28] (fun i wr => i = .int .i64 0 ∧ RowKit.Hid (wr.heap[w.heap.size]? = some (pgB da ds.length dc pa 0 pc T)) ∧ RowKit.Hid (PrdQ wr w3.heap.size 0 (predsK [])) ∧ Below w.heap.size w wr) (fun _ _ => 0)
    case atStart => exact ⟨rfl, HB4, HM0, HW4.out⟩
    case round =>
     obtain ⟨rfl, HX, HPQ, hbx⟩ := hrel
     have HQX := Lib.hid hq2
     clear p0 p1
     obtain ⟨p0, p1, p2, p3, p4, p5, p6⟩ := pg_cells HX.out
     have HBX := Lib.hid hbx
     have hwsz : w.heap.size < wr.heap.size := lt_heap HX.out
     have hNl2 := HPQ.out.lt
     have HC3 := Lib.hid (HSC.out wr.drew w3.heap.size hbx.drew)
     have HB2 := Lib.hid (Below.refl wr.heap.size wr).drew
     clear hbx HX
     go_wp2_with fail
     go_region_held3 (fun wz => wz.cell? ⟨w.heap.size, 0, none⟩ = some (.slice da ds.length dc) ∧ wz.cell? ⟨w.heap.size, 2, none⟩ = some (.string T.op) ∧ wz.cell? ⟨w.heap.size, 3, none⟩ = some (.string T.name) ∧ wz.cell? ⟨w.heap.size, 4, none⟩ = some (.int .i64 T.n) ∧ wz.cell? ⟨w.heap.size, 5, none⟩ = some (.int .i64 T.pos) ∧ wz.cell? ⟨w.heap.size, 6, none⟩ = some (.slice T.a T.kids.len T.cap)) (go_keep) (first | (go_at_call 47; refine HC3.out.mono ?_; rintro e w4 ⟨M, nM, rfl, hM1, hM2, ho4, hb4⟩; replace p0 := cell_below (HB2.out.trans (hb4.mono HB2.out.size)) p0; replace p2 := cell_below (HB2.out.trans (hb4.mono HB2.out.size)) p2; replace p3 := cell_below (HB2.out.trans (hb4.mono HB2.out.size)) p3; replace p4 := cell_below (HB2.out.trans (hb4.mono HB2.out.size)) p4; replace p5 := cell_below (HB2.out.trans (hb4.mono HB2.out.size)) p5; replace p6 := cell_below (HB2.out.trans (hb4.mono HB2.out.size)) p6; have HW5 := Lib.hid (HBX.out.trans ((HB2.out.trans (hb4.mono HB2.out.size)).mono HBX.out.size)); have HC5 := Lib.hid (HFQ.out w4 M nM w3.heap.size _ ho4 (Nat.ne_of_lt (Nat.lt_of_lt_of_le hNl2 hM1)) hM2 HW5.out (HPQ.out.below (HB2.out.trans (hb4.mono HB2.out.size)))); have hM3 : w.heap.size ≤ M := Nat.le_trans (Nat.le_of_lt hwsz) hM1; have HCW := Lib.hid (fun w5 (h : Kp M w4 w5) => ho4.cl h); clear ho4 hb4) | (go_at_call 48; refine HC5.out.mono ?_; rintro e w5 ⟨rfl, hk5, m5, hm5, ho5⟩; have HW6 := Lib.hid (below_kpK HW5.out hk5 hM3); replace p0 := (HCW.out w5 hk5).cell _ _ p0; replace p2 := (HCW.out w5 hk5).cell _ _ p2; replace p3 := (HCW.out w5 hk5).cell _ _ p3; replace p4 := (HCW.out w5 hk5).cell _ _ p4; replace p5 := (HCW.out w5 hk5).cell _ _ p5; replace p6 := (HCW.out w5 hk5).cell _ _ p6; clear hk5 ho5))
     clear HCW HC5 HC3 HW5 HB2 HFQ HSC HBX p0 p2 p3 p4 p5 p6
     go_wp2_with fail
     go_ret2
     exact ⟨by rw [HQX.out]; rfl, HW6.out⟩
   ·subst hab
    have HA := Lib.hid hat
    clear hat
    go_wp2_with fail
    go_loopw [28] (fun i wr => ∃ k : Nat, i = .int .i64 k ∧ k ≤ ps.length ∧ RowKit.Hid (qp = predsR (ps.take k) (ps.drop k)) ∧ RowKit.Hid (wr.heap[w.heap.size]? = some (pgB da ds.length dc (some ⟨b, o, none⟩) ps.length pc T)) ∧ RowKit.Hid (PrdQ wr w3.heap.size k (predsK (ps.take k))) ∧ Below w.heap.size w wr) (fun i _ => ps.length - (intOf i).toNat)
    case atStart => exact ⟨0, rfl, by omega, HQP, HB4, HM0, HW4.out⟩
    case round =>
     obtain ⟨k, rfl, hk, HL, HX, HPQ, hbx⟩ := hrel
     by_cases hkl : k < ps.length
     ·have hkl2 : (k : Int) < ps.length := by omega
      have hg := List.getElem?_eq_getElem hkl
      have hpa := (HA.out k (ps[k]'hkl) hg).below hbx
      have hfi := (HPF.out (ps[k]'hkl) (List.getElem_mem _)).below hbx
      have hokp := HPO.out (ps[k]'hkl) (List.getElem_mem _)
      have hdr : ps.drop k = (ps[k]'hkl) :: ps.drop (k + 1) := List.drop_eq_getElem_cons hkl
      have htk : ps.take (k + 1) = ps.take k ++ [ps[k]'hkl] := by rw [List.take_add_one, hg]; rfl
      clear hg
      generalize (ps[k]'hkl) = P at hpa hfi hokp hdr htk
      have hokb : P.body.okF = true ∧ P.params.length ≤ 6 := by
       unfold Pd.ok at hokp
       simp only [Bool.and_eq_true, decide_eq_true_eq] at hokp
       exact ⟨hokp.2, by omega⟩
      have hqq : qp = (if (predR (predsK (ps.take k)) P).2 = 0 then predsR (ps.take k ++ [P]) (ps.drop (k + 1)) else predR (predsK (ps.take k)) P) := by rw [HL.out, hdr]; rfl
      have hcall := kpred_any P (wr.alloc (pdBox P)) w3.heap.size k (predsK (ps.take k)) (HPQ.out.below (below_box _ _)) (by omega) (hfi.params.below (below_box _ _)) (hfi.body.below (below_box _ _)) hfi.sized hfi.name hokb.1 hfi.size
      have hsome := @predR_some (predsK (ps.take k)) P
      have hsn := predsK_snoc (ps.take k) P
      generalize predR (predsK (ps.take k)) P = qr at hqq hcall hsome
      obtain ⟨qr1, qre⟩ := qr
      simp only [] at hqq hcall hsome
      have HCL := Lib.hid hcall
      obtain ⟨c0, c1, c2, c3, c4, c5, c6, c7⟩ := hpa
      obtain ⟨x0, x1, x2, x3, x4, x5, x6, x7⟩ := pdb_cells (new_at wr (pdBox P))
      have HNB := Lib.hid (new_at wr (pdBox P))
      have hnm : P.name.size ≤ maxLen := by have := hfi.name; unfold maxLen; omega
      have HFI := Lib.hid hfi
      have HTK := Lib.hid htk
      have HSN := Lib.hid hsn
      have HSO := Lib.hid hsome
      have hNl := HPQ.out.lt
      clear hcall hfi hokp hokb htk hsn hsome hdr HL
      by_cases hre : qre = 0
      ·have HL2 := Lib.hid (show qp = predsR (ps.take k ++ [P]) (ps.drop (k + 1)) from by rw [hqq, if_pos hre])
       have hnone := HSO.out hre
       clear hqq
       subst hre
       go_wp2_with fail
       refine HCL.out.mono ?_
       rintro e w5 ⟨rfl, hb5⟩
       have hbb5 := box_then hb5
       have HBW := Lib.hid (hbx.trans (hbb5.mono hbx.size))
       have HX5 := Lib.hid ((hbb5.block _ (lt_heap HX.out)).trans HX.out)
       have HP5 := Lib.hid (HPQ.out.below hbb5)
       have HNB5 := Lib.hid ((hb5.block _ (lt_heap HNB.out)).trans HNB.out)
       have HDI5 := Lib.hid (HFI.out.params.below hbb5)
       have HN0 := Lib.hid hnone
       clear hb5 hbb5 HCL c0 c1 c2 c3 c4 c5 c6 c7 x0 x1 x2 x3 x4 x5 x6 x7 HX HPQ HNB HFI HSO hnone
       obtain ⟨x0, x1, x2, x3, x4, x5, x6, x7⟩ := pdb_cells HNB5.out
       obtain ⟨f5, hsm5, hf5⟩ := HP5.out
       have HSM5 := Lib.hid hsm5
       have HF5 := Lib.hid hf5
       clear hsm5 hf5 x2 x3 x4 x5 x6 x7
       go_wp2_with (at_mapUpdate; refine wpList_update_smap _ rfl _ _ _ 79 rfl 9 22 Tryz.underlying9 Tryz.underlying79 w3.heap.size k f5 rfl HSM5.out (by unfold maxLen; omega) P.name (.slice P.pa P.params.length P.pcap) rfl rfl hnm ?_; intro w9 hm9 hg9 hz9)
       have hw3l : w.heap.size ≤ w3.heap.size := by omega
       have hbx9 : Below w.heap.size w w9 := below_kpK HBW.out hg9 hw3l
       have hcl9 : Cl w5 w9 := by
        obtain ⟨D, ⟨es, clock, hb, _⟩, _⟩ := HSM5.out
        exact Cl.of_kp hb hg9
       have HX9 := Lib.hid ((hg9.block w.heap.size (by have := lt_heap HX5.out; omega) (fun e => by have := Option.some.inj e; omega)).trans HX5.out)
       have HP9 : RowKit.Hid (PrdQ w9 w3.heap.size (k + 1) (predsK (ps.take (k + 1)))) := Lib.hid (by
        rw [HTK.out]
        refine ⟨_, hm9, fun s => ?_⟩
        rw [HSN.out HN0.out s]
        by_cases hs : s = P.name
        ·rw [if_pos hs, if_pos hs]
         exact .inr ⟨P.pa, P.pcap, P.params, rfl, rfl, HDI5.out.cl hcl9⟩
        ·rw [if_neg hs, if_neg hs]
         rcases HF5.out s with h | ⟨a', c', ds', g1, g2, g3⟩
         ·exact .inl h
         ·exact .inr ⟨a', c', ds', g1, g2, g3.cl hcl9⟩)
       clear hg9 hm9 hz9 hcl9 HSM5 HF5 HX5 HP5 HNB5 HDI5 HBW x0 x1 hbx
       go_wp2_with fail
       go_roundw
       case rel => exact ⟨k + 1, by go_num, by omega, Lib.hid (by rw [HTK.out]; exact HL2.out), HX9, HP9, hbx9⟩
       case measure => (try simp [intOf]); omega
      ·have hz : q0 = (qr1, qre) := by rw [HQ2.out, hqq, if_neg hre, if_neg hre]
       have heb : (qre != 0) = true := by simp [hre]
       clear hqq hre
       subst hz
       go_wp2_with fail
       refine HCL.out.mono ?_
       rintro e w5 ⟨rfl, hb5⟩
       have hbx5 := hbx.trans ((box_then hb5).mono hbx.size)
       clear hb5 HCL c0 c1 c2 c3 c4 c5 c6 c7 x0 x1 x2 x3 x4 x5 x6 x7
       go_wp2_with fail
       go_ret2
       exact ⟨rfl, hbx5⟩
     ·obtain rfl : k = ps.length := by omega
      have hq2 : q0 = T.fk (predsK ps) (ordD ds) := by rw [HQ2.out, HL.out, List.drop_length]; rfl
      have hPQ := HPQ.out
      rw [List.take_length] at hPQ
      replace HPQ := Lib.hid hPQ
      clear hPQ
      have HQX := Lib.hid hq2
      clear p0 p1
      obtain ⟨p0, p1, p2, p3, p4, p5, p6⟩ := pg_cells HX.out
      have HBX := Lib.hid hbx
      have hwsz : w.heap.size < wr.heap.size := lt_heap HX.out
      have hNl2 := HPQ.out.lt
      have HC3 := Lib.hid (HSC.out wr.drew w3.heap.size hbx.drew)
      have HB2 := Lib.hid (Below.refl wr.heap.size wr).drew
      clear hbx HX
      go_wp2_with fail
      go_region_held3 (fun wz => wz.cell? ⟨w.heap.size, 0, none⟩ = some (.slice da ds.length dc) ∧ wz.cell? ⟨w.heap.size, 2, none⟩ = some (.string T.op) ∧ wz.cell? ⟨w.heap.size, 3, none⟩ = some (.string T.name) ∧ wz.cell? ⟨w.heap.size, 4, none⟩ = some (.int .i64 T.n) ∧ wz.cell? ⟨w.heap.size, 5, none⟩ = some (.int .i64 T.pos) ∧ wz.cell? ⟨w.heap.size, 6, none⟩ = some (.slice T.a T.kids.len T.cap)) (go_keep) (first | (go_at_call 47; refine HC3.out.mono ?_; rintro e w4 ⟨M, nM, rfl, hM1, hM2, ho4, hb4⟩; replace p0 := cell_below (HB2.out.trans (hb4.mono HB2.out.size)) p0; replace p2 := cell_below (HB2.out.trans (hb4.mono HB2.out.size)) p2; replace p3 := cell_below (HB2.out.trans (hb4.mono HB2.out.size)) p3; replace p4 := cell_below (HB2.out.trans (hb4.mono HB2.out.size)) p4; replace p5 := cell_below (HB2.out.trans (hb4.mono HB2.out.size)) p5; replace p6 := cell_below (HB2.out.trans (hb4.mono HB2.out.size)) p6; have HW5 := Lib.hid (HBX.out.trans ((HB2.out.trans (hb4.mono HB2.out.size)).mono HBX.out.size)); have HC5 := Lib.hid (HFQ.out w4 M nM w3.heap.size _ ho4 (Nat.ne_of_lt (Nat.lt_of_lt_of_le hNl2 hM1)) hM2 HW5.out (HPQ.out.below (HB2.out.trans (hb4.mono HB2.out.size)))); have hM3 : w.heap.size ≤ M := Nat.le_trans (Nat.le_of_lt hwsz) hM1; have HCW := Lib.hid (fun w5 (h : Kp M w4 w5) => ho4.cl h); clear ho4 hb4) | (go_at_call 48; refine HC5.out.mono ?_; rintro e w5 ⟨rfl, hk5, m5, hm5, ho5⟩; have HW6 := Lib.hid (below_kpK HW5.out hk5 hM3); replace p0 := (HCW.out w5 hk5).cell _ _ p0; replace p2 := (HCW.out w5 hk5).cell _ _ p2; replace p3 := (HCW.out w5 hk5).cell _ _ p3; replace p4 := (HCW.out w5 hk5).cell _ _ p4; replace p5 := (HCW.out w5 hk5).cell _ _ p5; replace p6 := (HCW.out w5 hk5).cell _ _ p6; clear hk5 ho5))
      clear HCW HC5 HC3 HW5 HB2 HFQ HSC HBX p0 p2 p3 p4 p5 p6
      go_wp2_with fail
      go_ret2
      exact ⟨by rw [HQX.out]; rfl, HW6.out⟩
  ·rw [if_neg hoe] at hqc
   have hob : (oe != 0) = true := by simp [hoe]
   subst hqc
   clear hoe HQC
   go_wp2_with fail
   go_ret2
   exact ⟨rfl, HW3.out⟩
 ·rw [if_neg (by rw [hok]; decide)] at hqc
  rw [hok] at HC1
  clear hq0 hok
  subst hqc
  go_enter Tryz.func17, Tryz.ntmps17
  go_wp2_with fail
  refine HC1.out.mono ?_
  rintro e w2 ⟨rfl, hb2⟩
  have hbb := HW.out.trans (hb2.mono HW.out.size)
  clear hb2 HC1
  go_wp2_with fail
  go_ret2
  exact ⟨rfl, hbb⟩
end Go.Proofs.YtmpcmpeloebnhaaGreatDoor
