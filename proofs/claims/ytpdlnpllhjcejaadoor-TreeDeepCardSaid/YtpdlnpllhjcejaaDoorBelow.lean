/- tree.below, for every level. -/
import Derived.Test.YtpdlnpllhjcejaaDoorRDeep
import Derived.Test.YtpdlnpllhjcejaaDoorMapKey
import Derived.Test.YtpdlnpllhjcejaaDoorLexPure2
import Derived.Test.YtpdlnpllhjcejaaDoorRows
import Derived.WalkKit
import Derived.WalkLawsBesides
import Derived.WalkSpells
import Derived.ProofKit
import Derived.Outline
import Derived.Deep.QuietTactic
import Derived.BigQuiet
import Derived.Deep.Light
import Derived.Deep.CutBlock
import Derived.Deep.DeepCutAuto
import Derived.Deep.DeepFit
import Derived.Deep.LoopGhost
import Derived.Lib.Hide
import Derived.Lib.OthersKept
import Derived.IntWalk
import Derived.StillTailTactics
namespace Go.Proofs.YtpdlnpllhjcejaaDoor
open Go.RowKit
/-! tree.below: the rows of kids that the nodes of some rows have. -/
/-- A row of nodes by its slice. -/
structure Rw where
  b : Nat
  o : Nat
  cap : Nat
  F : Fo
def Rw.val (r : Rw) : Value := .slice (some ⟨r.b, r.o, none⟩) r.F.len r.cap
def Rw.In (w : World) (r : Rw) : Prop := r.F.In w r.b r.o ∧ r.F.len ≤ 140737488351232 ∧ 0 < r.F.len ∧ w.frozen? ⟨r.b, r.o, none⟩ = false
theorem Rw.In.below {w w' : World} (hb : Below w.heap.size w w') {r : Rw} (h : r.In w) : r.In w' :=
  ⟨h.1.below hb, h.2.1, h.2.2.1, by rw [hb.frozen (h.1.lt h.2.2.1)]; exact h.2.2.2⟩
theorem Fo.In.firm {w : World} {F : Fo} {b o : Nat} (h : F.In w b o) (h0 : 0 < F.len) (hf : w.frozen? ⟨b, o, none⟩ = false) : Firm w ⟨b, o, none⟩ := by
  cases F with
  | nil => cases h0
  | cons op name n pos a cap kids rest =>
    refine ⟨?_, hf⟩
    have := h.1.1
    unfold World.cell? at this
    split at this
    · rename_i c t fr hc; exact ⟨c, t, fr, hc⟩
    · cases this
/-- A row is that of the kids of some node of a row. -/
def Fo.kidOf (r : Rw) : Fo → Prop
  | .nil => False
  | .cons _ _ _ _ a cap kids rest => (kids = r.F ∧ a = some ⟨r.b, r.o, none⟩ ∧ cap = r.cap) ∨ Fo.kidOf r rest
/-- No node of a row has kids. -/
def Fo.leaf : Fo → Prop
  | .nil => True
  | .cons _ _ _ _ _ _ kids rest => kids = .nil ∧ Fo.leaf rest
def total : List Rw → Nat
  | [] => 0
  | r :: rs => r.F.size + total rs
/-- A level's rows lie in memory. -/
def LevelIn (w : World) (v : Value) (rs : List Rw) : Prop :=
  ∃ a cap, v = .slice a rs.length cap ∧ (∀ i r, rs[i]? = some r → ∃ bl ol, a = some ⟨bl, ol, none⟩ ∧ w.cell? ⟨bl, ol + i, none⟩ = some r.val) ∧ ∀ r ∈ rs, r.In w
structure Next (rs rs' : List Rw) : Prop where
  kid : ∀ r' ∈ rs', ∃ r ∈ rs, r.F.kidOf r'
  none : rs' = [] ↔ ∀ r ∈ rs, r.F.leaf
  size : total rs' + rs'.length ≤ total rs
def BelowC (rs : List Rw) (w : World) (e : Ending) (w' : World) : Prop := ∃ v rs', e = .returned v ∧ LevelIn w' v rs' ∧ Next rs rs' ∧ Below w.heap.size w w'
/-! listOf -/
set_option maxRecDepth 100000 in
set_option maxHeartbeats 4000000 in
theorem listOf_any (b o n cap : Nat) (w : World) (h0 : 0 < n) (hn : n ≤ 140737488351232) :
    Calls Tryd.prog 51 #[.slice (some ⟨b, o, none⟩) n cap] w fun e w' => e = .returned (keyV ⟨b, o, none⟩ n) ∧ Below w.heap.size w w' := by
  have h1 : (0 : Int) < n := by omega
  have hc5 := cellsNode
  go_enter Tryd.func51, Tryd.ntmps51
  go_wp2
  exact bodyPost_ret (v := keyV ⟨b, o, none⟩ n) (by simp [results, Tryd.results51, go_sem]) rfl ⟨rfl, (Below.refl _ _).alloc (Nat.le_refl _) _⟩

/-! what has been gathered when some rows, and the beginning of one more, have been gone through -/
/-- The rows gathered so far. -/
structure Got (w : World) (rs rs' : List Rw) (left : Nat) : Prop where
  kid : ∀ r' ∈ rs', r'.In w ∧ ∃ r ∈ rs, r.F.kidOf r'
  size : total rs' + rs'.length + left ≤ total rs
theorem total_append (a b : List Rw) : total (a ++ b) = total a + total b := by
  induction a with
  | nil => simp [total]
  | cons r a ih => simp only [List.cons_append, total, ih]; omega
def valsR (rs : List Rw) : List Value := rs.map Rw.val
/-- The inner loop's and the outer loop's common facts. -/
structure Have (w wr : World) (v : Value) (rs' : List Rw) (es : Array MapEntry) : Prop where
  own : wr.ownsRow (w.heap.size + 1) 35 1 v rs'.length (valsR rs')
  map : MapG (fun a => Firm w a) wr w.heap.size es
  empty : rs' = [] → es.size = 0
  rest : Below w.heap.size w wr
  room : w.heap.size < wr.heap.size
theorem Have.alloc {w wr : World} {v : Value} {rs' : List Rw} {es : Array MapEntry} (h : Have w wr v rs' es) (ob : Obj) : Have w (wr.alloc ob) v rs' es :=
  ⟨h.own.alloc _, h.map.other (Below.heap_alloc wr ob _ h.room), h.empty, h.rest.alloc h.rest.size _, by rw [alloc_size]; have := h.room; omega⟩
theorem Have.drewN {w wr : World} {v : Value} {rs' : List Rw} {es : Array MapEntry} (h : Have w wr v rs' es) (n : Nat) : Have w (wr.drewN n) v rs' es :=
  ⟨h.own, h.map, h.empty, below_drewN h.rest n, h.room⟩
theorem Have.below {w wr w2 : World} {v : Value} {rs' : List Rw} {es : Array MapEntry} (h : Have w wr v rs' es) (hb : Below wr.heap.size wr w2) : Have w w2 v rs' es :=
  ⟨own_below h.own hb, h.map.other (hb.block _ h.room), h.empty, h.rest.trans (hb.mono h.rest.size), Nat.lt_of_lt_of_le h.room hb.size⟩
theorem Have.free {w wr : World} {v : Value} {rs' : List Rw} {es : Array MapEntry} (h : Have w wr v rs' es) : v.ownBlock = none ∨ v.ownBlock ≠ some w.heap.size := by
  rcases h.own.2 with ⟨rfl, _⟩ | ⟨g, cap, cur, rfl, hg, _⟩
  · exact .inl rfl
  · refine .inr fun h => ?_
    have : g = w.heap.size := by simpa [Value.ownBlock] using h
    omega
/-- The key is laid down. -/
theorem Have.marked {w wr w2 : World} {v : Value} {rs' : List Rw} {es es2 : Array MapEntry} (h : Have w wr v rs' es) (_ : MapG (fun a => Firm w a) w2 w.heap.size es2) (hg : wr.grownBy w2 (some w.heap.size)) :
    w2.ownsRow (w.heap.size + 1) 35 1 v rs'.length (valsR rs') ∧ Below w.heap.size w w2 ∧ w.heap.size < w2.heap.size :=
  ⟨h.own.kept hg h.free, h.rest.grown hg h.rest.size (by rintro k hk; cases hk; exact Nat.le_refl _), Nat.lt_of_lt_of_le h.room hg.size⟩
/-- The rest of a row, as the inner loop goes. -/
structure Rest (w : World) (r : Rw) (R : Fo) (k : Nat) : Prop where
  lies : R.In w r.b (r.o + k * 5)
  len : k + R.len = r.F.len
  kid : ∀ r', R.kidOf r' → r.F.kidOf r'
theorem Rest.start {w : World} {r : Rw} (h : r.In w) : Rest w r r.F 0 := ⟨by rw [Nat.zero_mul, Nat.add_zero]; exact h.1, by omega, fun _ h => h⟩
theorem Rest.next {w : World} {r : Rw} {op name : ByteArray} {n pos : Int} {a : Option Addr} {cap : Nat} {kids rest : Fo} {k : Nat} (h : Rest w r (.cons op name n pos a cap kids rest) k) :
    NodeAt w r.b (r.o + k * 5) op name n pos a kids.len cap ∧ k < r.F.len ∧ Rest w r rest (k + 1) ∧ (kids = .nil ∨ ∃ b' o', a = some ⟨b', o', none⟩ ∧ (Rw.mk b' o' cap kids).In w ∧ r.F.kidOf ⟨b', o', cap, kids⟩) := by
  obtain ⟨⟨h1, h2, h3⟩, h4, h5⟩ := h
  have h6 : (Fo.cons op name n pos a cap kids rest).len = rest.len + 1 := rfl
  rw [h6] at h4
  refine ⟨h1, by omega, ⟨?_, by omega, fun r' hr => h5 r' (.inr hr)⟩, ?_⟩
  · rw [show r.o + (k + 1) * 5 = r.o + k * 5 + 5 by omega]; exact h3
  · rcases h2 with h2 | ⟨b', o', h2, hl, ⟨h0, hf⟩, h7⟩
    · exact .inl h2
    · exact .inr ⟨b', o', h2, ⟨h7, hl, h0, hf⟩, h5 _ (.inl ⟨rfl, h2, rfl⟩)⟩
theorem cell_one_new (w : World) (a : Value) (t : TypeId) : ∀ j u, [a][j]? = some u → (w.alloc (.cells #[a] t)).cell? ((⟨w.heap.size, 0, none⟩ : Addr).add j) = some u := by
  intro j u h
  cases j with
  | zero =>
    obtain rfl : a = u := by simpa using h
    show (w.alloc _).cell? ⟨w.heap.size, 0, none⟩ = _
    rw [cell_of_row _ w.heap.size 0 _ _ _ (new_at _ _)]
    rfl
  | succ j => simp at h
theorem Tryd.infoKids : (Tryd.prog.info? 35).map (fun i => (i.zero, i.size, i.bytes)) = some (some (.slice none 0 0), 1, 24) := by kernel_rfl
theorem leaf_kid : ∀ {F : Fo} {r : Rw}, F.leaf → F.kidOf r → r.F = .nil := by
  intro F
  induction F with
  | nil => intro r _ h; exact h.elim
  | cons op name n pos a cap kids rest ihk ihr =>
    intro r h1 h2
    rcases h2 with ⟨h2, _⟩ | h2
    · rw [← h2]; exact h1.1
    · exact ihr h1.2 h2
theorem level_of {w wr : World} {v : Value} {rs' : List Rw} {es : Array MapEntry} (h : Have w wr v rs' es) (hin : ∀ r ∈ rs', r.In w) : LevelIn wr v rs' := by
  have hi : ∀ r ∈ rs', r.In wr := fun r hr => (hin r hr).below h.rest
  have hown := h.own
  rcases h.own.2 with ⟨rfl, h0⟩ | ⟨g, cap, cur, rfl, _⟩
  · have hn : rs' = [] := List.eq_nil_of_length_eq_zero h0
    subst hn
    exact ⟨none, 0, rfl, fun i r hr => by simp at hr, hi⟩
  · refine ⟨_, cap, rfl, fun i r hr => ⟨g, 0, rfl, ?_⟩, hi⟩
    have hl := (List.getElem?_eq_some_iff.1 hr).1
    rw [Nat.zero_add, hown.cellAt i (by omega)]
    unfold valsR
    rw [List.getElem?_map, hr]
    rfl
theorem len_size (F : Fo) : F.len ≤ F.size := by
  induction F with
  | nil => exact Nat.le_refl _
  | cons op name n pos a cap kids rest ihk ihr => show rest.len + 1 ≤ kids.size + 1 + rest.size; omega
theorem len_total : ∀ rs : List Rw, (∀ r ∈ rs, 0 < r.F.len) → rs.length ≤ total rs := by
  intro rs
  induction rs with
  | nil => intro _; exact Nat.le_refl _
  | cons r rs ih =>
    intro h
    have h1 := h r (List.mem_cons_self ..)
    have h2 := ih fun x hx => h x (List.mem_cons_of_mem _ hx)
    have h3 := len_size r.F
    show rs.length + 1 ≤ r.F.size + total rs
    omega
theorem total_drop (rs : List Rw) (j : Nat) (r : Rw) (h : rs[j]? = some r) : total (rs.drop j) = r.F.size + total (rs.drop (j + 1)) := by
  have hj : j < rs.length := (List.getElem?_eq_some_iff.1 h).1
  have hr : rs[j] = r := (List.getElem?_eq_some_iff.1 h).2
  rw [List.drop_eq_getElem_cons hj, hr]
  rfl
set_option maxRecDepth 100000 in
set_option maxHeartbeats 8000000 in
theorem below_any (rs : List Rw) (v : Value) (w : World) (hL : LevelIn w v rs) (ht : total rs ≤ 3000) : Calls Tryd.prog 44 #[v] w (BelowC rs w) := by
  obtain ⟨a0, cap0, rfl, hcells, hins⟩ := hL
  obtain ⟨i0, hi, hz0, hz1, hz2⟩ := info_parts Tryd.infoKids
  have hc5 := cellsNode
  have hmk : ∀ W : World, (Instr.makeMap MT none).run Tryd.prog W = .ok (.map (some W.heap.size)) (W.alloc (.map #[] 0)) := fun W => RowKit.run_makeMap MT W
  have hlr : rs.length ≤ 3000 := Nat.le_trans (len_total rs fun r hr => (hins r hr).2.2.1) ht
  have HC := Lib.hid hcells
  have HI := Lib.hid hins
  unfold BelowC
  clear hcells hins
  go_enter Tryd.func44, Tryd.ntmps44
  go_wp2
  go_loopw [3, 15] (fun nx i wr => ∃ (j : Nat) (rs' : List Rw) (es : Array MapEntry), i = .int .i64 j ∧ j ≤ rs.length ∧ RowKit.Hid (Have w wr nx rs' es) ∧ RowKit.Hid (Got w rs rs' (total (rs.drop j))) ∧ RowKit.Hid (rs' = [] → ∀ x ∈ rs.take j, x.F.leaf)) (fun _ i _ => rs.length - (intOf i).toNat)
  case atStart =>
    exact ⟨0, [], #[], rfl, Nat.zero_le _, Lib.hid ⟨World.ownsRow_nil _ _ _ _, MapG.new _ w, fun _ => rfl, (Below.refl _ _).alloc (Nat.le_refl _) _, by rw [alloc_size]; omega⟩, Lib.hid ⟨fun r hr => by simp at hr, by simp [total]⟩, Lib.hid fun _ x hx => by simp at hx⟩
  case round =>
    obtain ⟨j, rs', es, rfl, hj, HH, HG, HL⟩ := hrel
    by_cases hjl : j < rs.length
    · obtain ⟨bl, ol, rfl, hcell⟩ := HC.out j (rs[j]'hjl) (List.getElem?_eq_getElem hjl)
      have hrin := HI.out (rs[j]'hjl) (List.getElem_mem _)
      have hcw := cell_below HH.out.rest hcell
      have hjl2 : (j : Int) < rs.length := by omega
      have HE : RowKit.Hid (rs[j]? = some (rs[j]'hjl)) := Lib.hid (List.getElem?_eq_getElem hjl)
      generalize (rs[j]'hjl) = r at hcw hcell hrin HE
      unfold Rw.val at hcw
      have HR := Lib.hid hrin
      clear hcell hrin
      have hrl : r.F.len ≤ 140737488351232 := HR.out.2.1
      go_wp2
      go_loopw [3, 21] (fun nx i wr => ∃ (k : Nat) (R : Fo) (rs' : List Rw) (es : Array MapEntry), i = .int .i64 k ∧ RowKit.Hid (Rest w r R k) ∧ RowKit.Hid (Have w wr nx rs' es) ∧ RowKit.Hid (Got w rs rs' (R.size + total (rs.drop (j + 1)))) ∧ RowKit.Hid (rs' = [] → (∀ x ∈ rs.take j, x.F.leaf) ∧ (R.leaf → r.F.leaf))) (fun _ i _ => r.F.len - (intOf i).toNat)
      case atStart =>
        refine ⟨0, r.F, rs', es, rfl, Lib.hid (Rest.start HR.out), HH, Lib.hid ?_, Lib.hid fun h => ⟨HL.out h, fun h => h⟩⟩
        have := HG.out
        rw [total_drop rs j r HE.out] at this
        exact this
      case round =>
        obtain ⟨k, R, rs2, es2, rfl, HT, HH2, HG2, HL2⟩ := hrel
        cases R with
        | nil =>
          have hkl : k = r.F.len := by have := HT.out.len; simpa [Fo.len] using this
          subst hkl
          go_wp2
          go_roundw
          case rel =>
            refine ⟨j + 1, rs2, es2, by go_num, by omega, HH2, Lib.hid ?_, Lib.hid fun h => ?_⟩
            · have := HG2.out
              have hz : Fo.nil.size + total (rs.drop (j + 1)) = total (rs.drop (j + 1)) := Nat.zero_add _
              rw [hz] at this
              exact this
            · obtain ⟨h1, h2⟩ := HL2.out h
              rw [List.take_add_one, HE.out]
              intro x hx
              rcases List.mem_append.1 hx with hx | hx
              · exact h1 x hx
              · obtain rfl : x = r := by simpa using hx
                exact h2 trivial
          case measure => (try simp [intOf]); omega
        | cons op1 name1 n1 pos1 a1 cap1 kids1 rest =>
          obtain ⟨hnode, hkl, hnext, hkids⟩ := HT.out.next
          have hkl2 : (k : Int) < r.F.len := by omega
          obtain ⟨c0, c1, c2, c3, c4⟩ := hnode.below HH2.out.rest
          have HN := Lib.hid hnext
          have HK := Lib.hid hkids
          clear hnext hnode hkids HT
          by_cases hk0 : kids1 = .nil
          · subst hk0
            have c4 : _ = some (Value.slice a1 0 cap1) := c4
            go_wp2
            go_roundw
            case rel =>
              refine ⟨k + 1, rest, rs2, es2, by go_num, HN, Lib.hid (HH2.out.alloc _), Lib.hid ⟨HG2.out.kid, ?_⟩, Lib.hid fun h => ⟨(HL2.out h).1, fun hl => (HL2.out h).2 ⟨rfl, hl⟩⟩⟩
              have h1 := HG2.out.size
              have h2 : (Fo.cons op1 name1 n1 pos1 a1 cap1 Fo.nil rest).size = 0 + 1 + rest.size := rfl
              omega
            case measure => (try simp [intOf]); omega
          · rcases HK.out with h | ⟨b2, o2, rfl, hin2, hkid2⟩
            · exact absurd h hk0
            have h0 : 0 < kids1.len := hin2.2.2.1
            have hlim2 : kids1.len ≤ 140737488351232 := hin2.2.1
            have hfirm : Firm w ⟨b2, o2, none⟩ := hin2.1.firm h0 hin2.2.2.2
            have hnz : ((kids1.len : Int) == 0) = false := by simp; omega
            have hnd : decide ((kids1.len : Int) = 0) = false := by simp; omega
            have hne : ¬ (kids1.len : Int) = 0 := by omega
            have HI2 := Lib.hid hin2
            have HK2 := Lib.hid hkid2
            have HF := Lib.hid hfirm
            have HH3 := Lib.hid (HH2.out.alloc (boxOf op1 name1 n1 pos1 (some ⟨b2, o2, none⟩) kids1.len cap1))
            have HB := Lib.hid (box_cell wr op1 name1 n1 pos1 (some ⟨b2, o2, none⟩) kids1.len cap1)
            clear hin2 hkid2 hfirm HK
            go_wp2_with fail
            refine (listOf_any b2 o2 kids1.len cap1 _ h0 hlim2).mono ?_
            rintro e w2 ⟨rfl, hb2⟩
            have hbx := cell_below hb2 HB.out
            have hh2 := HH3.out.below hb2
            have HH4 := Lib.hid hh2
            have HR2 := HH2.out.room
            clear hb2 HB HH3 hh2 HH2
            have hcnt : rs2.length ≤ 3000 := by have := HG2.out.size; omega
            have hroom := HR2
            go_wp2_with (first
              | (at_lookup; refine wpList_lookup_any _ rfl _ _ rfl w.heap.size rfl es2 (HH4.out.alloc _).map (fun b hb => hb.below (HH4.out.alloc _).rest) ⟨b2, o2, none⟩ kids1.len rfl HF.out ?_; intro ok kk hok)
              | (at_mapUpdate; refine wpList_update_any _ rfl _ _ _ rfl w.heap.size rfl es2 (((HH4.out.alloc _).drewN _).alloc _).map (fun b hb => hb.below (((HH4.out.alloc _).drewN _).alloc _).rest) ⟨b2, o2, none⟩ kids1.len rfl rfl HF.out ?_; intro w3 es3 hm3 hg3; obtain ⟨hown3, hb3, hroom3⟩ := Have.marked (((HH4.out.alloc _).drewN _).alloc _) hm3 hg3; have hbx3 : w3.cell? ⟨wr.heap.size, 4, none⟩ = some (.slice (some ⟨b2, o2, none⟩) kids1.len cap1) := hg3.cell (cell_below ((below_drewN ((Below.refl _ _).alloc (Nat.le_refl _) _) _).alloc (by simp) _) hbx) (by intro h; have := Option.some.inj h; simp at this; omega))
              | (at_builtin; refine wpList_append_own _ rfl _ _ 65 rfl (w.heap.size + 1) 35 i0 (.slice none 0 0) 1 24 Tryd.underlying65 hi hz0 hz1 hz2 rfl (by decide) _ _ _ rfl (hown3.alloc _) ⟨w3.heap.size, 0, none⟩ 1 1 [.slice (some ⟨b2, o2, none⟩) kids1.len cap1] rfl rfl (cell_one_new _ _ _) (fun x hx => by simp at hx; rcases hx with rfl; rfl) (by unfold maxLen; omega) (by omega) (by simp; omega) ?_; intro v4 w4 hown4 hg4 hnil4))
            · have hb4 : Below w.heap.size w w4 := Below.grown (hb3.alloc hb3.size _) hg4 (by have := hb3.size; simp; omega) (fun q hq => by have := (hown3.lt _ hq).1; omega)
              have hfree := HH4.out.free
              have hm4 : w4.heap[w.heap.size]? = w3.heap[w.heap.size]? := by
                have hg5 : World.grownBy _ w4 (Value.ownBlock u3) := hg4
                rw [hg5.block _ (by rw [alloc_size]; omega) (by
                  rcases hfree with h | h
                  · rw [h]; exact fun h => by cases h
                  · exact fun h2 => h h2.symm)]
                exact Below.heap_alloc w3 _ _ hroom3
              have hsz4 := hg4.size
              have hlen1 : (rs2 ++ [Rw.mk b2 o2 cap1 kids1]).length = rs2.length + 1 := by simp
              have hH5 : Have w w4 v4 (rs2 ++ [Rw.mk b2 o2 cap1 kids1]) es3 := ⟨by rw [hlen1]; unfold valsR; rw [List.map_append]; exact hown4, hm3.other hm4, fun h => by simp at h, hb4, by rw [alloc_size] at hsz4; omega⟩
              have hG5 : Got w rs (rs2 ++ [Rw.mk b2 o2 cap1 kids1]) (rest.size + total (rs.drop (j + 1))) := by
                refine ⟨fun r' hr' => ?_, ?_⟩
                · rcases List.mem_append.1 hr' with h | h
                  · exact HG2.out.kid r' h
                  · obtain rfl : r' = Rw.mk b2 o2 cap1 kids1 := by simpa using h
                    exact ⟨HI2.out, r, List.mem_of_getElem? HE.out, HK2.out⟩
                · have h1 := HG2.out.size
                  have h2 : (Fo.cons op1 name1 n1 pos1 (some ⟨b2, o2, none⟩) cap1 kids1 rest).size = kids1.size + 1 + rest.size := rfl
                  have h3 : total [Rw.mk b2 o2 cap1 kids1] = kids1.size + 0 := rfl
                  rw [total_append, h3, hlen1]
                  omega
              have HH5 := Lib.hid hH5
              have HG5 := Lib.hid hG5
              clear hH5 hG5 hown4 hg4 hnil4 hown3 hm3 hg3 hm4 hfree
              go_roundw
              case rel => exact ⟨k + 1, rest, rs2 ++ [Rw.mk b2 o2 cap1 kids1], es3, by go_num, HN, HH5, HG5, Lib.hid fun h => by simp at h⟩
              case measure => (try simp [intOf]); omega
            · have HH5 := Lib.hid (((HH4.out.alloc (.cells #[.pointer (some ⟨b2, o2, none⟩), .int .i64 kids1.len] LT)).drewN kk).alloc (.cells #[] 78))
              have hG5 : Got w rs rs2 (rest.size + total (rs.drop (j + 1))) := by
                refine ⟨HG2.out.kid, ?_⟩
                have h1 := HG2.out.size
                have h2 : (Fo.cons op1 name1 n1 pos1 (some ⟨b2, o2, none⟩) cap1 kids1 rest).size = kids1.size + 1 + rest.size := rfl
                omega
              have HG5 := Lib.hid hG5
              have hnn : rs2 ≠ [] := fun h => by
                have := hok (HH4.out.empty h)
                simp_all
              have HNN := Lib.hid hnn
              clear hG5 hnn
              go_roundw
              case rel => exact ⟨k + 1, rest, rs2, es2, by go_num, HN, HH5, HG5, Lib.hid fun h => absurd h HNN.out⟩
              case measure => (try simp [intOf]); omega
    · obtain rfl : j = rs.length := by omega
      go_wp2
      go_ret
      refine ⟨u3, rs', rfl, level_of HH.out fun r hr => (HG.out.kid r hr).1, ⟨fun r hr => (HG.out.kid r hr).2, ⟨fun h => ?_, fun h => ?_⟩, ?_⟩, HH.out.rest⟩
      · have := HL.out h
        rw [List.take_length] at this
        exact this
      · cases rs' with
        | nil => rfl
        | cons r' rs' =>
          obtain ⟨h1, r, hr, hk⟩ := HG.out.kid r' (List.mem_cons_self ..)
          have h2 := leaf_kid (h r hr) hk
          have h3 := h1.2.2.1
          rw [h2] at h3
          exact absurd h3 (Nat.lt_irrefl 0)
      · have := HG.out.size
        omega
end Go.Proofs.YtpdlnpllhjcejaaDoor
