/- Parts of the proof: PPartR PPart2R PListR RpE RpF. -/
import Derived.Test.YtmpcmpeloebnhaaGreatDoorKP02
import Derived.Test.YtmpcmpeloebnhaaGreatDoorKP00
import Derived.Test.YtmpcmpeloebnhaaGreatDoorRows
import Derived.Test.YtmpcmpeloebnhaaGreatDoorKP10
import Derived.WalkKit
import Derived.WalkLawsBesides
import Derived.WalkSpells
import Derived.ProofKit
import Derived.Outline
import Derived.Deep.QuietTactic
import Derived.BigQuiet
import Derived.Deep.Light
import Derived.Deep.CutBlock
import Derived.Deep.DeepCutAuto
import Derived.Deep.DeepFit
import Derived.Deep.LoopGhost
import Derived.Lib.Hide
import Derived.Lib.OthersKept
import Derived.IntWalk
import Derived.StillTailTactics
import Derived.Deep.RegionHeld3
import Derived.Maps.AppendAt
namespace Go.Proofs.YtmpcmpeloebnhaaGreatDoor
open Go.RowKit
theorem new_sets (w : World) (ob : Obj) (B : Nat) (a b c d e : Value) : ((((((w.setCell ⟨B, 0, none⟩ a).setCell ⟨B, 1, none⟩ b).setCell ⟨B, 2, none⟩ c).setCell ⟨B, 3, none⟩ d).setCell ⟨B, 4, none⟩ e).alloc ob).heap[w.heap.size]? = some ob := by
 have h := new_at (((((w.setCell ⟨B, 0, none⟩ a).setCell ⟨B, 1, none⟩ b).setCell ⟨B, 2, none⟩ c).setCell ⟨B, 3, none⟩ d).setCell ⟨B, 4, none⟩ e) ob
 rw [set5_size] at h
 exact h
end Go.Proofs.YtmpcmpeloebnhaaGreatDoor
namespace Go.Proofs.YtmpcmpeloebnhaaGreatDoor
open Go.RowKit
theorem set5_from {S : Nat → Prop} (w : World) {B : Nat} (hB : ¬ S B) (a b c d e : Value) : From S w (((((w.setCell ⟨B, 0, none⟩ a).setCell ⟨B, 1, none⟩ b).setCell ⟨B, 2, none⟩ c).setCell ⟨B, 3, none⟩ d).setCell ⟨B, 4, none⟩ e) :=
 (((((From.set _ hB _).trans (From.set _ hB _)).trans (From.set _ hB _)).trans (From.set _ hB _)).trans (From.set _ hB _))
end Go.Proofs.YtmpcmpeloebnhaaGreatDoor
namespace Go.Proofs.YtmpcmpeloebnhaaGreatDoor
open Go.RowKit
def flatF : Fo → List Value
 | .nil => []
 | .cons op name n pos a cap kids rest => .string op :: .string name :: .int .i64 n :: .int .i64 pos :: .slice a kids.len cap :: flatF rest
theorem flatF_len (F : Fo) : (flatF F).length = F.len * 5 := by
 induction F with
 | nil => rfl
 | cons op name n pos a cap kids rest ihk ihr => show (flatF rest).length + 1 + 1 + 1 + 1 + 1 = (rest.len + 1) * 5; rw [ihr]; omega
def Fo.snoc : Fo → Nd → Fo
 | .nil, T => .cons T.op T.name T.n T.pos T.a T.cap T.kids .nil
 | .cons op name n pos a cap kids rest, T => .cons op name n pos a cap kids (rest.snoc T)
theorem snoc_len (F : Fo) (T : Nd) : (F.snoc T).len = F.len + 1 := by
 induction F with
 | nil => rfl
 | cons op name n pos a cap kids rest ihk ihr => show (rest.snoc T).len + 1 = _; rw [ihr]; rfl
theorem flatF_snoc (F : Fo) (T : Nd) : flatF (F.snoc T) = flatF F ++ [.string T.op, .string T.name, .int .i64 T.n, .int .i64 T.pos, .slice T.a T.kids.len T.cap] := by
 induction F with
 | nil => rfl
 | cons op name n pos a cap kids rest ihk ihr => show _ :: _ :: _ :: _ :: _ :: flatF (rest.snoc T) = _; rw [ihr]; rfl
theorem ofL_snoc (l : List Nd) (T : Nd) (F : Fo) (h : F.strip = Fo.ofL l) : (F.snoc T).strip = Fo.ofL (l ++ [T.strip]) := by
 induction F generalizing l with
 | nil =>
  cases l with
  | nil => rfl
  | cons a r => cases h
 | cons op name n pos a cap kids rest ihk ihr =>
  cases l with
  | nil => cases h
  | cons b r =>
   obtain ⟨h1, h2, h3, h4, h5, h6, h7⟩ : op = b.op ∧ name = b.name ∧ n = b.n ∧ pos = b.pos ∧ none = (none : Option Addr) ∧ kids.strip = b.kids ∧ rest.strip = Fo.ofL r := by
    have h' : Fo.cons op name n pos none 0 kids.strip rest.strip = Fo.cons b.op b.name b.n b.pos none 0 b.kids (Fo.ofL r) := h
    simp only [Fo.cons.injEq] at h'
    exact ⟨h'.1, h'.2.1, h'.2.2.1, h'.2.2.2.1, rfl, h'.2.2.2.2.2.2.1, h'.2.2.2.2.2.2.2⟩
   show Fo.cons op name n pos none 0 kids.strip (rest.snoc T).strip = Fo.cons b.op b.name b.n b.pos none 0 b.kids (Fo.ofL (r ++ [T.strip]))
   rw [ihr r h7, h1, h2, h3, h4, h6]
theorem ofL_len (l : List Nd) : (Fo.ofL l).len = l.length := by
 induction l with
 | nil => rfl
 | cons a r ih => show (Fo.ofL r).len + 1 = _; rw [ih]; rfl
theorem strip_len (F : Fo) : F.strip.len = F.len := by
 induction F with
 | nil => rfl
 | cons op name n pos a cap kids rest ihk ihr => show rest.strip.len + 1 = _; rw [ihr]; rfl
def Fo.Kids (S : Nat → Prop) (w : World) : Fo → Prop
 | .nil => True
 | .cons op name n pos a cap kids rest => Nd.Good S w ⟨op, name, n, pos, a, cap, kids⟩ ∧ rest.Kids S w
theorem Fo.Kids.from {S : Nat → Prop} {w w' : World} (hg : From S w w') : ∀ {F : Fo}, F.Kids S w → F.Kids S w' := by
 intro F
 induction F with
 | nil => intro _; trivial
 | cons op name n pos a cap kids rest ihk ihr => exact fun h => ⟨h.1.from hg, ihr h.2⟩
theorem Fo.Kids.lt {S : Nat → Prop} {w : World} : ∀ {F : Fo}, F.Kids S w → F.Kids (fun i => S i ∧ i < w.heap.size) w := by
 intro F
 induction F with
 | nil => intro _; trivial
 | cons op name n pos a cap kids rest ihk ihr => exact fun h => ⟨h.1.lt, ihr h.2⟩
theorem Fo.Kids.mono {S S' : Nat → Prop} {w : World} (hl : ∀ b, S b → S' b) : ∀ {F : Fo}, F.Kids S w → F.Kids S' w := by
 intro F
 induction F with
 | nil => intro _; trivial
 | cons op name n pos a cap kids rest ihk ihr => exact fun h => ⟨h.1.mono hl, ihr h.2⟩
theorem Fo.Kids.snoc {S : Nat → Prop} {w : World} {T : Nd} (hT : T.Good S w) : ∀ {F : Fo}, F.Kids S w → (F.snoc T).Kids S w := by
 intro F
 induction F with
 | nil => intro _; exact ⟨hT, trivial⟩
 | cons op name n pos a cap kids rest ihk ihr => exact fun h => ⟨h.1, ihr h.2⟩
theorem Fo.Kids.above {S : Nat → Prop} {w : World} : ∀ {F : Fo}, F.Kids S w → F.above S := by
 intro F
 induction F with
 | nil => intro _; trivial
 | cons op name n pos a cap kids rest ihk ihr => exact fun h => ⟨h.1.above.1, h.1.above.2, ihr h.2⟩
theorem Fo.Kids.lies {S : Nat → Prop} {w : World} {g : Nat} : ∀ {F : Fo} {o : Nat}, (∀ j v, (flatF F)[j]? = some v → w.cell? ⟨g, o + j, none⟩ = some v) → F.Kids S w → F.In w g o := by
 intro F
 induction F with
 | nil => intro o _ _; trivial
 | cons op name n pos a cap kids rest ihk ihr =>
  intro o hc hk
  refine ⟨⟨hc 0 _ rfl, hc 1 _ rfl, hc 2 _ rfl, hc 3 _ rfl, hc 4 _ rfl⟩, hk.1.lies, ihr (fun j v hj => ?_) hk.2⟩
  have := hc (j + 5) v hj
  rw [show o + (j + 5) = o + 5 + j by omega] at this
  exact this
theorem row_good {lo : Nat} {w : World} {v : Value} {F : Fo} (h : w.ownsRow lo 26 5 v F.len (flatF F)) (hk : F.Kids (fun b => lo ≤ b ∧ some b ≠ v.ownBlock) w) (hl : F.len ≤ 140737488351232) :
  ∃ a cap, v = .slice a F.len cap ∧ ∀ op name n pos cap', Nd.Good (fun b => lo ≤ b) w ⟨op, name, n, pos, a, cap', F⟩ := by
 rcases h.2 with ⟨rfl, h0⟩ | ⟨g, cap, cur, rfl, hb, hg, hrest⟩
 · have hF : F = .nil := by cases F with
   | nil => rfl
   | cons op name n pos a cap kids rest => cases h0
  subst hF
  exact ⟨none, 0, rfl, fun op name n pos cap' => Nd.Good.leaf _ _ _ _ _ _ _ _⟩
 · refine ⟨some ⟨g, 0, none⟩, cap, rfl, fun op name n pos cap' => ?_⟩
  have hc : ∀ j v, (flatF F)[j]? = some v → w.cell? ⟨g, 0 + j, none⟩ = some v := by
   intro j v hj
   rw [Nat.zero_add]
   have hjl : j < F.len * 5 := by rw [← flatF_len]; exact (List.getElem?_eq_some_iff.1 hj).1
   exact (h.cellAt j hjl).trans hj
  have hin := Fo.Kids.lies hc hk
  rcases Nat.eq_zero_or_pos F.len with h0 | h0
  · have hF : F = .nil := by cases F with
    | nil => rfl
    | cons op name n pos a cap kids rest => cases h0
   subst hF
   exact Nd.Good.leaf _ _ _ _ _ _ _ _
  · refine ⟨.inr ⟨g, 0, rfl, hl, ⟨h0, ?_⟩, hin⟩, .inr ⟨g, 0, rfl, hb⟩, (hk.mono (fun b hb => hb.1)).above⟩
   unfold World.frozen?
   simp only [hg]
   rfl
theorem own_form {w : World} {base e size n : Nat} {v : Value} {xs : List Value} (h : w.ownsRow base e size v n xs) : ∃ a cap, v = .slice a n cap := by
 rcases h.2 with ⟨rfl, h0⟩ | ⟨g, cap, cur, rfl, _⟩
 · exact ⟨none, 0, by rw [h0]⟩
 · exact ⟨_, cap, rfl⟩
theorem clo_t : clo false = (ByteArray.mk #[41]).toList := by decide +kernel
theorem clo_p : clo true = (ByteArray.mk #[125]).toList := by decide +kernel
theorem Tryz.infoNode : (Tryz.prog.info? 26).map (fun i => (i.zero, i.size, i.bytes)) = some (some (.agg #[.string ⟨#[]⟩, .string ⟨#[]⟩, .int .i64 0, .int .i64 0, .slice none 0 0]), 5, 72) := by kernel_rfl
theorem cell_five_new (w : World) (a b c d e : Value) (t : TypeId) : ∀ j u, [a, b, c, d, e][j]? = some u → (w.alloc (.cells #[a, b, c, d, e] t)).cell? ((⟨w.heap.size, 0, none⟩ : Addr).add j) = some u := by
 intro j u hj
 have hx := new_at w (.cells #[a, b, c, d, e] t)
 rw [show (⟨w.heap.size, 0, none⟩ : Addr).add j = ⟨w.heap.size, 0 + j, none⟩ from by unfold Addr.add; split <;> simp_all, cell_of_row _ _ _ _ _ _ hx, Nat.zero_add]
 simpa using hj
theorem kids_append {lo : Nat} {w w' : World} {v v' : Value} {F : Fo} {U : Nd} (hk : F.Kids (fun b => lo ≤ b ∧ some b ≠ v.ownBlock) w) (hU : U.Good (fun b => lo ≤ b ∧ some b ≠ v.ownBlock) w) (hg : w.grownBy w' v.ownBlock) (hv : v'.ownBlock = v.ownBlock ∨ v'.ownBlock = some w.heap.size) : (F.snoc U).Kids (fun b => lo ≤ b ∧ some b ≠ v'.ownBlock) w' := by
 have hf : From (fun i => (lo ≤ i ∧ some i ≠ v.ownBlock) ∧ i < w.heap.size) w w' := ⟨hg.size, fun b hb hl => hg.block b hl hb.1.2⟩
 refine Fo.Kids.mono (S := fun i => (lo ≤ i ∧ some i ≠ v.ownBlock) ∧ i < w.heap.size) (fun b hb => ⟨hb.1.1, ?_⟩) (Fo.Kids.snoc (hU.lt.from hf) (hk.lt.from hf))
 rcases hv with hv | hv
 · rw [hv]; exact hb.1.2
 · rw [hv]; intro h; have := Option.some.inj h; omega
theorem kp_append {B : Nat} {a w w' : World} {row : Option Nat} (h : Kp B a w) (hg : w.grownBy w' row) (hr : ∀ k, row = some k → a.heap.size ≤ k) : Kp B a w' :=
 ⟨hg.os.trans h.os, hg.tape.trans h.tape, hg.output.trans h.output, Nat.le_trans h.size hg.size, fun i hi hne => (hg.block i (Nat.lt_of_lt_of_le hi h.size) (fun e => by have := hr i e.symm; omega)).trans (h.block i hi hne)⟩
end Go.Proofs.YtmpcmpeloebnhaaGreatDoor
namespace Go.Proofs.YtmpcmpeloebnhaaGreatDoor
open Go.RowKit
def OutR (B : Nat) (S : Nat → Prop) (w' : World) (T : Nd) : Res Nd → Prop
 | .ok t l => PrS w' B (.good l) ∧ T.Good S w' ∧ T.strip = t
 | .bad a e => PrS w' B (.bad a e)
def PostR (B : Nat) (w : World) (r : Res Nd) (e : Ending) (w' : World) : Prop := ∃ T : Nd, e = .returned (.agg #[.string T.op, .string T.name, .int .i64 T.n, .int .i64 T.pos, .slice T.a T.kids.len T.cap]) ∧ Kp B w w' ∧ OutR B (fun b => w.heap.size ≤ b) w' T r
def OutRL (B : Nat) (S : Nat → Prop) (w' : World) (a : Option Addr) (F : Fo) : Res (List Nd) → Prop
 | .ok ts l => PrS w' B (.good l) ∧ (∀ op name n pos cap, Nd.Good S w' ⟨op, name, n, pos, a, cap, F⟩) ∧ F.strip = Fo.ofL ts
 | .bad p e => PrS w' B (.bad p e)
def PostRL (B : Nat) (w : World) (r : Res (List Nd)) (e : Ending) (w' : World) : Prop := ∃ (a : Option Addr) (F : Fo) (cap : Nat), e = .returned (.slice a F.len cap) ∧ Kp B w w' ∧ OutRL B (fun b => w.heap.size ≤ b) w' a F r
set_option maxRecDepth 100000 in
set_option maxHeartbeats 16000000 in
theorem rpart_b_true (w : World) (B : Nat) (p e : Int) (hS : PrS w B (.bad p e)) : Calls Tryz.prog 170 #[.pointer (some ⟨B, 0, none⟩), .bool true] w (PostR B w (.bad p e)) := by
 have hc5 := cellsNode
 have hc4 := cellsTok
 have hB := hS.lt
 have q3 := tok_f3
 have q0 := tok_f0
 have q2 := tok_f2
 have q1 := tok_f1
 have HS := Lib.hid hS
 clear hS
 go_enter Tryz.func170, Tryz.ntmps170
 have HC1 := Lib.hid (rnow_b (w.alloc (boxOf ⟨#[]⟩ ⟨#[]⟩ 0 0 none 0 0)) B p e (HS.out.alloc _))
 go_wp2_with fail
 refine HC1.out.mono ?_
 rintro e1 w1 ⟨rfl, hb1⟩
 have HK1 := Lib.hid (((Kp.refl B w).alloc _).below hb1)
 have HR1 := Lib.hid ((HS.out.alloc _).below hb1)
 have HBZ1 := Lib.hid ((hb1.block _ (lt_heap (new_at w (boxOf ⟨#[]⟩ ⟨#[]⟩ 0 0 none 0 0)))).trans (new_at w (boxOf ⟨#[]⟩ ⟨#[]⟩ 0 0 none 0 0)))
 have hzZ1 := lt_heap HBZ1.out
 clear hb1
 obtain ⟨⟨tT0, tT1, tT2, tT3⟩, tfT0, tfT1, tfT2, tfT3⟩ := tok_cells (new_at w1 (tokBox 4 ⟨#[]⟩ 0 0))
 have HC2 := Lib.hid (ris_b ⟨#[123]⟩ (w1.alloc (tokBox 4 ⟨#[]⟩ 0 0)) B p e (HR1.out.alloc _))
 go_wp2_with fail
 refine HC2.out.mono ?_
 rintro e2 w2 ⟨rfl, hb2⟩
 have HK2 := Lib.hid ((HK1.out.alloc _).below hb2)
 have HR2 := Lib.hid ((HR1.out.alloc _).below hb2)
 have HBZ2 := Lib.hid ((hb2.block _ (lt_heap ((Below.heap_alloc _ _ _ (lt_heap HBZ1.out)).trans HBZ1.out))).trans ((Below.heap_alloc _ _ _ (lt_heap HBZ1.out)).trans HBZ1.out))
 have hzZ2 := lt_heap HBZ2.out
 have HBT2 := Lib.hid ((hb2.block _ (lt_heap (new_at w1 (tokBox 4 ⟨#[]⟩ 0 0)))).trans (new_at w1 (tokBox 4 ⟨#[]⟩ 0 0)))
 have hzT2 := lt_heap HBT2.out
 clear hb2
 obtain ⟨⟨tT0, tT1, tT2, tT3⟩, tfT0, tfT1, tfT2, tfT3⟩ := tok_cells HBT2.out
 have HC3 := Lib.hid (rfail_b 0 2 p e w2 B HR2.out)
 go_wp2_with fail
 refine HC3.out.mono ?_
 rintro e3 w3 ⟨rfl, hk3, hr3⟩
 have HK3 := Lib.hid (HK2.out.trans hk3)
 have HR3 := Lib.hid hr3
 have HBZ3 := Lib.hid (hk3.blk HBZ2.out (by omega))
 have hzZ3 := lt_heap HBZ3.out
 have HBT3 := Lib.hid (hk3.blk HBT2.out (by omega))
 have hzT3 := lt_heap HBT3.out
 clear hk3
 obtain ⟨bZ0, bZ1, bZ2, bZ3, bZ4⟩ := box_cells HBZ3.out
 obtain ⟨fZ0, fZ1, fZ2, fZ3, fZ4⟩ := box_frozen HBZ3.out
 go_wp2_with fail
 refine ret_node (B := w.heap.size) ⟨#[]⟩ ⟨#[]⟩ 0 0 none 0 0 Tryz.results170 rfl rfl (by repeat (with_reducible first | exact node_set HBZ3.out _ _ _ _ _ _ _ | refine (Below.heap_alloc _ _ _ (by simp; omega)).trans ?_)) ⟨⟨⟨#[]⟩, ⟨#[]⟩, 0, 0, none, 0, .nil⟩, rfl, (by repeat (with_reducible first | exact HK3.out | refine Kp.alloc ?_ _ | refine Kp.set ?_ (Nat.le_refl _) _)), ?_⟩
 show PrS _ B (.bad p e)
 exact (by repeat (with_reducible first | exact HR3.out | refine PrS.alloc ?_ _ | refine PrS.set ?_ hB _))
set_option maxRecDepth 100000 in
set_option maxHeartbeats 16000000 in
theorem rpart_var (br : Bool) (l : List Tok) (w : World) (B : Nat) (hS : PrS w B (.good l)) (hk : ((hd l).kind == 1) = true) (hw : ((wrd l.tail).toList == (ByteArray.mk #[43]).toList) = false) : Calls Tryz.prog 170 #[.pointer (some ⟨B, 0, none⟩), .bool br] w (PostR B w (.ok (mkN tVarB (hd l).text 0 (hd l).pos []) l.tail)) := by
  have hk4 : ((hd l).kind == 4) = false := by have h : (hd l).kind = 1 := by simpa using hk
                                              rw [h]; rfl
  have hc5 := cellsNode
  have hc4 := cellsTok
  have hB := hS.lt
  have q3 := tok_f3
  have q0 := tok_f0
  have q2 := tok_f2
  have q1 := tok_f1
  have HS := Lib.hid hS
  clear hS
  go_enter Tryz.func170, Tryz.ntmps170
  have HC1 := Lib.hid (rnow_g l (w.alloc (boxOf ⟨#[]⟩ ⟨#[]⟩ 0 0 none 0 0)) B (HS.out.alloc _))
  go_wp2_with fail
  refine HC1.out.mono ?_
  rintro e1 w1 ⟨rfl, hb1⟩
  have HK1 := Lib.hid (((Kp.refl B w).alloc _).below hb1)
  have HR1 := Lib.hid ((HS.out.alloc _).below hb1)
  have HBZ1 := Lib.hid ((hb1.block _ (lt_heap (new_at w (boxOf ⟨#[]⟩ ⟨#[]⟩ 0 0 none 0 0)))).trans (new_at w (boxOf ⟨#[]⟩ ⟨#[]⟩ 0 0 none 0 0)))
  have hzZ1 := lt_heap HBZ1.out
  clear hb1
  obtain ⟨⟨tT0, tT1, tT2, tT3⟩, tfT0, tfT1, tfT2, tfT3⟩ := tok_cells (new_at w1 (tokBox (hd l).kind (hd l).text (hd l).n (hd l).pos))
  have HC2 := Lib.hid (rnext_g l (w1.alloc (tokBox (hd l).kind (hd l).text (hd l).n (hd l).pos)) B hk4 (HR1.out.alloc _))
  go_wp2_with fail
  refine HC2.out.mono ?_
  rintro e2 w2 ⟨rfl, hk2, hr2⟩
  have HK2 := Lib.hid ((HK1.out.alloc _).trans hk2)
  have HR2 := Lib.hid hr2
  have HBZ2 := Lib.hid (hk2.blk ((Below.heap_alloc _ _ _ (lt_heap HBZ1.out)).trans HBZ1.out) (by omega))
  have hzZ2 := lt_heap HBZ2.out
  have HBT2 := Lib.hid (hk2.blk (new_at w1 (tokBox (hd l).kind (hd l).text (hd l).n (hd l).pos)) (by omega))
  have hzT2 := lt_heap HBT2.out
  clear hk2
  obtain ⟨⟨tT0, tT1, tT2, tT3⟩, tfT0, tfT1, tfT2, tfT3⟩ := tok_cells HBT2.out
  have HC3 := Lib.hid (rtake_no l.tail ⟨#[43]⟩ (w2.alloc (boxOf tVarB (hd l).text 0 (hd l).pos none 0 0)) B hw (HR2.out.alloc _))
  go_wp2_with fail
  refine HC3.out.mono ?_
  rintro e3 w3 ⟨rfl, hk3, hr3⟩
  have HK3 := Lib.hid ((HK2.out.alloc _).trans hk3)
  have HR3 := Lib.hid hr3
  have HBZ3 := Lib.hid (hk3.blk ((Below.heap_alloc _ _ _ (lt_heap HBZ2.out)).trans HBZ2.out) (by omega))
  have hzZ3 := lt_heap HBZ3.out
  have HBT3 := Lib.hid (hk3.blk ((Below.heap_alloc _ _ _ (lt_heap HBT2.out)).trans HBT2.out) (by omega))
  have hzT3 := lt_heap HBT3.out
  have HBN3 := Lib.hid (hk3.blk (new_at w2 (boxOf tVarB (hd l).text 0 (hd l).pos none 0 0)) (by omega))
  have hzN3 := lt_heap HBN3.out
  clear hk3
  have hne1 : ¬ w.heap.size = w1.heap.size := by omega
  have hme1 : ¬ w1.heap.size = w.heap.size := by omega
  have hne2 : ¬ w.heap.size = w2.heap.size := by omega
  have hme2 : ¬ w2.heap.size = w.heap.size := by omega
  have hne3 : ¬ w1.heap.size = w2.heap.size := by omega
  have hme3 : ¬ w2.heap.size = w1.heap.size := by omega
  obtain ⟨bN0, bN1, bN2, bN3, bN4⟩ := box_cells HBN3.out
  obtain ⟨fN0, fN1, fN2, fN3, fN4⟩ := box_frozen HBN3.out
  obtain ⟨bZ0, bZ1, bZ2, bZ3, bZ4⟩ := box_cells HBZ3.out
  obtain ⟨fZ0, fZ1, fZ2, fZ3, fZ4⟩ := box_frozen HBZ3.out
  go_wp2_with fail
  refine ret_node (B := w.heap.size) tVarB (hd l).text 0 (hd l).pos none 0 0 Tryz.results170 rfl rfl (by repeat (with_reducible first | exact node_set HBZ3.out _ _ _ _ _ _ _ | refine (Below.heap_alloc _ _ _ (by simp; omega)).trans ?_)) ⟨⟨tVarB, (hd l).text, 0, (hd l).pos, none, 0, .nil⟩, rfl, (by repeat (with_reducible first | exact HK3.out | refine Kp.alloc ?_ _ | refine Kp.set ?_ (Nat.le_refl _) _)), ?_⟩
  exact ⟨(by repeat (with_reducible first | exact HR3.out | refine PrS.alloc ?_ _ | refine PrS.set ?_ hB _)), Nd.Good.leaf _ _ _ _ _ _ _ _, rfl⟩
set_option maxRecDepth 100000 in
set_option maxHeartbeats 16000000 in
theorem rpart_plus (br : Bool) (l : List Tok) (w : World) (B : Nat) (hS : PrS w B (.good l)) (hk : ((hd l).kind == 1) = true) (hw : ((wrd l.tail).toList == (ByteArray.mk #[43]).toList) = true) (hk2 : ((hd l.tail.tail).kind == 2) = true) (hn : ((hd l.tail.tail).n == 0) = false) : Calls Tryz.prog 170 #[.pointer (some ⟨B, 0, none⟩), .bool br] w (PostR B w (.ok (mkN tPlusB emp0 (hd l.tail.tail).n (hd l).pos [mkN tVarB (hd l).text 0 (hd l).pos []]) l.tail.tail.tail)) := by
  have hk24 : ((hd l.tail.tail).kind == 4) = false := by have h : (hd l.tail.tail).kind = 2 := by simpa using hk2
                                                         rw [h]; rfl
  have hk2n : ((hd l.tail.tail).kind != 2) = false := by rw [bne, hk2]; rfl
  have hk4 : ((hd l).kind == 4) = false := by have h : (hd l).kind = 1 := by simpa using hk
                                              rw [h]; rfl
  have hc5 := cellsNode
  have hc4 := cellsTok
  have hB := hS.lt
  have q3 := tok_f3
  have q0 := tok_f0
  have q2 := tok_f2
  have q1 := tok_f1
  have HS := Lib.hid hS
  clear hS
  go_enter Tryz.func170, Tryz.ntmps170
  have HC1 := Lib.hid (rnow_g l (w.alloc (boxOf ⟨#[]⟩ ⟨#[]⟩ 0 0 none 0 0)) B (HS.out.alloc _))
  go_wp2_with fail
  refine HC1.out.mono ?_
  rintro e1 w1 ⟨rfl, hb1⟩
  have HK1 := Lib.hid (((Kp.refl B w).alloc _).below hb1)
  have HR1 := Lib.hid ((HS.out.alloc _).below hb1)
  have HBZ1 := Lib.hid ((hb1.block _ (lt_heap (new_at w (boxOf ⟨#[]⟩ ⟨#[]⟩ 0 0 none 0 0)))).trans (new_at w (boxOf ⟨#[]⟩ ⟨#[]⟩ 0 0 none 0 0)))
  have hzZ1 := lt_heap HBZ1.out
  clear hb1
  obtain ⟨⟨tT0, tT1, tT2, tT3⟩, tfT0, tfT1, tfT2, tfT3⟩ := tok_cells (new_at w1 (tokBox (hd l).kind (hd l).text (hd l).n (hd l).pos))
  have HC2 := Lib.hid (rnext_g l (w1.alloc (tokBox (hd l).kind (hd l).text (hd l).n (hd l).pos)) B hk4 (HR1.out.alloc _))
  go_wp2_with fail
  refine HC2.out.mono ?_
  rintro e2 w2 ⟨rfl, hk2, hr2⟩
  have HK2 := Lib.hid ((HK1.out.alloc _).trans hk2)
  have HR2 := Lib.hid hr2
  have HBZ2 := Lib.hid (hk2.blk ((Below.heap_alloc _ _ _ (lt_heap HBZ1.out)).trans HBZ1.out) (by omega))
  have hzZ2 := lt_heap HBZ2.out
  have HBT2 := Lib.hid (hk2.blk (new_at w1 (tokBox (hd l).kind (hd l).text (hd l).n (hd l).pos)) (by omega))
  have hzT2 := lt_heap HBT2.out
  clear hk2
  obtain ⟨⟨tT0, tT1, tT2, tT3⟩, tfT0, tfT1, tfT2, tfT3⟩ := tok_cells HBT2.out
  have HC3 := Lib.hid (rtake_yes l.tail ⟨#[43]⟩ (w2.alloc (boxOf tVarB (hd l).text 0 (hd l).pos none 0 0)) B (by decide +kernel) hw (HR2.out.alloc _))
  go_wp2_with fail
  refine HC3.out.mono ?_
  rintro e3 w3 ⟨rfl, hk3, hr3⟩
  have HK3 := Lib.hid ((HK2.out.alloc _).trans hk3)
  have HR3 := Lib.hid hr3
  have HBZ3 := Lib.hid (hk3.blk ((Below.heap_alloc _ _ _ (lt_heap HBZ2.out)).trans HBZ2.out) (by omega))
  have hzZ3 := lt_heap HBZ3.out
  have HBT3 := Lib.hid (hk3.blk ((Below.heap_alloc _ _ _ (lt_heap HBT2.out)).trans HBT2.out) (by omega))
  have hzT3 := lt_heap HBT3.out
  have HBN3 := Lib.hid (hk3.blk (new_at w2 (boxOf tVarB (hd l).text 0 (hd l).pos none 0 0)) (by omega))
  have hzN3 := lt_heap HBN3.out
  clear hk3
  have HC4 := Lib.hid (rnow_g l.tail.tail w3 B HR3.out)
  go_wp2_with fail
  refine HC4.out.mono ?_
  rintro e4 w4 ⟨rfl, hb4⟩
  have HK4 := Lib.hid (HK3.out.below hb4)
  have HR4 := Lib.hid (HR3.out.below hb4)
  have HBZ4 := Lib.hid ((hb4.block _ (lt_heap HBZ3.out)).trans HBZ3.out)
  have hzZ4 := lt_heap HBZ4.out
  have HBT4 := Lib.hid ((hb4.block _ (lt_heap HBT3.out)).trans HBT3.out)
  have hzT4 := lt_heap HBT4.out
  have HBN4 := Lib.hid ((hb4.block _ (lt_heap HBN3.out)).trans HBN3.out)
  have hzN4 := lt_heap HBN4.out
  clear hb4
  obtain ⟨⟨tU0, tU1, tU2, tU3⟩, tfU0, tfU1, tfU2, tfU3⟩ := tok_cells (new_at w4 (tokBox (hd l.tail.tail).kind (hd l.tail.tail).text (hd l.tail.tail).n (hd l.tail.tail).pos))
  have HC5 := Lib.hid (rnext_g l.tail.tail (w4.alloc (tokBox (hd l.tail.tail).kind (hd l.tail.tail).text (hd l.tail.tail).n (hd l.tail.tail).pos)) B hk24 (HR4.out.alloc _))
  go_wp2_with fail
  refine HC5.out.mono ?_
  rintro e5 w5 ⟨rfl, hk5, hr5⟩
  have HK5 := Lib.hid ((HK4.out.alloc _).trans hk5)
  have HR5 := Lib.hid hr5
  have HBZ5 := Lib.hid (hk5.blk ((Below.heap_alloc _ _ _ (lt_heap HBZ4.out)).trans HBZ4.out) (by omega))
  have hzZ5 := lt_heap HBZ5.out
  have HBT5 := Lib.hid (hk5.blk ((Below.heap_alloc _ _ _ (lt_heap HBT4.out)).trans HBT4.out) (by omega))
  have hzT5 := lt_heap HBT5.out
  have HBN5 := Lib.hid (hk5.blk ((Below.heap_alloc _ _ _ (lt_heap HBN4.out)).trans HBN4.out) (by omega))
  have hzN5 := lt_heap HBN5.out
  have HBU5 := Lib.hid (hk5.blk (new_at w4 (tokBox (hd l.tail.tail).kind (hd l.tail.tail).text (hd l.tail.tail).n (hd l.tail.tail).pos)) (by omega))
  have hzU5 := lt_heap HBU5.out
  clear hk5
  have hne1 : ¬ w.heap.size = w1.heap.size := by omega
  have hme1 : ¬ w1.heap.size = w.heap.size := by omega
  have hne2 : ¬ w.heap.size = w2.heap.size := by omega
  have hme2 : ¬ w2.heap.size = w.heap.size := by omega
  have hne3 : ¬ w.heap.size = w4.heap.size := by omega
  have hme3 : ¬ w4.heap.size = w.heap.size := by omega
  have hne4 : ¬ w1.heap.size = w2.heap.size := by omega
  have hme4 : ¬ w2.heap.size = w1.heap.size := by omega
  have hne5 : ¬ w1.heap.size = w4.heap.size := by omega
  have hme5 : ¬ w4.heap.size = w1.heap.size := by omega
  have hne6 : ¬ w2.heap.size = w4.heap.size := by omega
  have hme6 : ¬ w4.heap.size = w2.heap.size := by omega
  obtain ⟨⟨tT0, tT1, tT2, tT3⟩, tfT0, tfT1, tfT2, tfT3⟩ := tok_cells HBT5.out
  obtain ⟨⟨tU0, tU1, tU2, tU3⟩, tfU0, tfU1, tfU2, tfU3⟩ := tok_cells HBU5.out
  obtain ⟨bN0, bN1, bN2, bN3, bN4⟩ := box_cells HBN5.out
  obtain ⟨fN0, fN1, fN2, fN3, fN4⟩ := box_frozen HBN5.out
  obtain ⟨bZ0, bZ1, bZ2, bZ3, bZ4⟩ := box_cells HBZ5.out
  obtain ⟨fZ0, fZ1, fZ2, fZ3, fZ4⟩ := box_frozen HBZ5.out
  go_wp2_with fail
  refine ret_node (B := w.heap.size) tPlusB ⟨#[]⟩ (hd l.tail.tail).n (hd l).pos (some ⟨w5.heap.size, 0, none⟩) 1 1 Tryz.results170 rfl rfl (by repeat (with_reducible first | exact node_set HBZ5.out _ _ _ _ _ _ _ | refine (Below.heap_alloc _ _ _ (by simp; omega)).trans ?_)) ⟨⟨tPlusB, ⟨#[]⟩, (hd l.tail.tail).n, (hd l).pos, some ⟨w5.heap.size, 0, none⟩, 1, .cons tVarB (hd l).text 0 (hd l).pos none 0 .nil .nil⟩, rfl, (by repeat (with_reducible first | exact HK5.out | refine Kp.alloc ?_ _ | refine Kp.set ?_ (Nat.le_refl _) _)), ?_⟩
  refine ⟨(by repeat (with_reducible first | exact HR5.out | refine PrS.alloc ?_ _ | refine PrS.set ?_ hB _)), ?_, rfl⟩
  exact good1 (G := w5.heap.size) (by show w.heap.size ≤ w5.heap.size; omega) (new_sets _ _ _ _ _ _ _ _) (T := ⟨tVarB, (hd l).text, 0, (hd l).pos, none, 0, .nil⟩) (Nd.Good.leaf _ _ _ _ _ _ _ _)
set_option maxRecDepth 100000 in
set_option maxHeartbeats 16000000 in
theorem rpart_kind (br : Bool) (l : List Tok) (w : World) (B : Nat) (hS : PrS w B (.good l)) (hk : ((hd l).kind == 1) = true) (hw : ((wrd l.tail).toList == (ByteArray.mk #[43]).toList) = true) (hk2 : ((hd l.tail.tail).kind == 2) = false) : Calls Tryz.prog 170 #[.pointer (some ⟨B, 0, none⟩), .bool br] w (PostR B w (.bad (hd l.tail.tail).pos 2)) := by
  have hk4 : ((hd l).kind == 4) = false := by have h : (hd l).kind = 1 := by simpa using hk
                                              rw [h]; rfl
  have hc5 := cellsNode
  have hc4 := cellsTok
  have hB := hS.lt
  have q3 := tok_f3
  have q0 := tok_f0
  have q2 := tok_f2
  have q1 := tok_f1
  have HS := Lib.hid hS
  clear hS
  go_enter Tryz.func170, Tryz.ntmps170
  have HC1 := Lib.hid (rnow_g l (w.alloc (boxOf ⟨#[]⟩ ⟨#[]⟩ 0 0 none 0 0)) B (HS.out.alloc _))
  go_wp2_with fail
  refine HC1.out.mono ?_
  rintro e1 w1 ⟨rfl, hb1⟩
  have HK1 := Lib.hid (((Kp.refl B w).alloc _).below hb1)
  have HR1 := Lib.hid ((HS.out.alloc _).below hb1)
  have HBZ1 := Lib.hid ((hb1.block _ (lt_heap (new_at w (boxOf ⟨#[]⟩ ⟨#[]⟩ 0 0 none 0 0)))).trans (new_at w (boxOf ⟨#[]⟩ ⟨#[]⟩ 0 0 none 0 0)))
  have hzZ1 := lt_heap HBZ1.out
  clear hb1
  obtain ⟨⟨tT0, tT1, tT2, tT3⟩, tfT0, tfT1, tfT2, tfT3⟩ := tok_cells (new_at w1 (tokBox (hd l).kind (hd l).text (hd l).n (hd l).pos))
  have HC2 := Lib.hid (rnext_g l (w1.alloc (tokBox (hd l).kind (hd l).text (hd l).n (hd l).pos)) B hk4 (HR1.out.alloc _))
  go_wp2_with fail
  refine HC2.out.mono ?_
  rintro e2 w2 ⟨rfl, hk2, hr2⟩
  have HK2 := Lib.hid ((HK1.out.alloc _).trans hk2)
  have HR2 := Lib.hid hr2
  have HBZ2 := Lib.hid (hk2.blk ((Below.heap_alloc _ _ _ (lt_heap HBZ1.out)).trans HBZ1.out) (by omega))
  have hzZ2 := lt_heap HBZ2.out
  have HBT2 := Lib.hid (hk2.blk (new_at w1 (tokBox (hd l).kind (hd l).text (hd l).n (hd l).pos)) (by omega))
  have hzT2 := lt_heap HBT2.out
  clear hk2
  obtain ⟨⟨tT0, tT1, tT2, tT3⟩, tfT0, tfT1, tfT2, tfT3⟩ := tok_cells HBT2.out
  have HC3 := Lib.hid (rtake_yes l.tail ⟨#[43]⟩ (w2.alloc (boxOf tVarB (hd l).text 0 (hd l).pos none 0 0)) B (by decide +kernel) hw (HR2.out.alloc _))
  go_wp2_with fail
  refine HC3.out.mono ?_
  rintro e3 w3 ⟨rfl, hk3, hr3⟩
  have HK3 := Lib.hid ((HK2.out.alloc _).trans hk3)
  have HR3 := Lib.hid hr3
  have HBZ3 := Lib.hid (hk3.blk ((Below.heap_alloc _ _ _ (lt_heap HBZ2.out)).trans HBZ2.out) (by omega))
  have hzZ3 := lt_heap HBZ3.out
  have HBT3 := Lib.hid (hk3.blk ((Below.heap_alloc _ _ _ (lt_heap HBT2.out)).trans HBT2.out) (by omega))
  have hzT3 := lt_heap HBT3.out
  have HBN3 := Lib.hid (hk3.blk (new_at w2 (boxOf tVarB (hd l).text 0 (hd l).pos none 0 0)) (by omega))
  have hzN3 := lt_heap HBN3.out
  clear hk3
  have HC4 := Lib.hid (rnow_g l.tail.tail w3 B HR3.out)
  go_wp2_with fail
  refine HC4.out.mono ?_
  rintro e4 w4 ⟨rfl, hb4⟩
  have HK4 := Lib.hid (HK3.out.below hb4)
  have HR4 := Lib.hid (HR3.out.below hb4)
  have HBZ4 := Lib.hid ((hb4.block _ (lt_heap HBZ3.out)).trans HBZ3.out)
  have hzZ4 := lt_heap HBZ4.out
  have HBT4 := Lib.hid ((hb4.block _ (lt_heap HBT3.out)).trans HBT3.out)
  have hzT4 := lt_heap HBT4.out
  have HBN4 := Lib.hid ((hb4.block _ (lt_heap HBN3.out)).trans HBN3.out)
  have hzN4 := lt_heap HBN4.out
  clear hb4
  obtain ⟨⟨tU0, tU1, tU2, tU3⟩, tfU0, tfU1, tfU2, tfU3⟩ := tok_cells (new_at w4 (tokBox (hd l.tail.tail).kind (hd l.tail.tail).text (hd l.tail.tail).n (hd l.tail.tail).pos))
  have HC5 := Lib.hid (rfail_g l.tail.tail (hd l.tail.tail).pos 2 (w4.alloc (tokBox (hd l.tail.tail).kind (hd l.tail.tail).text (hd l.tail.tail).n (hd l.tail.tail).pos)) B rfl (HR4.out.alloc _))
  go_wp2_with fail
  refine HC5.out.mono ?_
  rintro e5 w5 ⟨rfl, hk5, hr5⟩
  have HK5 := Lib.hid ((HK4.out.alloc _).trans hk5)
  have HR5 := Lib.hid hr5
  have HBZ5 := Lib.hid (hk5.blk ((Below.heap_alloc _ _ _ (lt_heap HBZ4.out)).trans HBZ4.out) (by omega))
  have hzZ5 := lt_heap HBZ5.out
  have HBT5 := Lib.hid (hk5.blk ((Below.heap_alloc _ _ _ (lt_heap HBT4.out)).trans HBT4.out) (by omega))
  have hzT5 := lt_heap HBT5.out
  have HBN5 := Lib.hid (hk5.blk ((Below.heap_alloc _ _ _ (lt_heap HBN4.out)).trans HBN4.out) (by omega))
  have hzN5 := lt_heap HBN5.out
  have HBU5 := Lib.hid (hk5.blk (new_at w4 (tokBox (hd l.tail.tail).kind (hd l.tail.tail).text (hd l.tail.tail).n (hd l.tail.tail).pos)) (by omega))
  have hzU5 := lt_heap HBU5.out
  clear hk5
  have hne1 : ¬ w.heap.size = w1.heap.size := by omega
  have hme1 : ¬ w1.heap.size = w.heap.size := by omega
  have hne2 : ¬ w.heap.size = w2.heap.size := by omega
  have hme2 : ¬ w2.heap.size = w.heap.size := by omega
  have hne3 : ¬ w.heap.size = w4.heap.size := by omega
  have hme3 : ¬ w4.heap.size = w.heap.size := by omega
  have hne4 : ¬ w1.heap.size = w2.heap.size := by omega
  have hme4 : ¬ w2.heap.size = w1.heap.size := by omega
  have hne5 : ¬ w1.heap.size = w4.heap.size := by omega
  have hme5 : ¬ w4.heap.size = w1.heap.size := by omega
  have hne6 : ¬ w2.heap.size = w4.heap.size := by omega
  have hme6 : ¬ w4.heap.size = w2.heap.size := by omega
  obtain ⟨bN0, bN1, bN2, bN3, bN4⟩ := box_cells HBN5.out
  obtain ⟨fN0, fN1, fN2, fN3, fN4⟩ := box_frozen HBN5.out
  obtain ⟨bZ0, bZ1, bZ2, bZ3, bZ4⟩ := box_cells HBZ5.out
  obtain ⟨fZ0, fZ1, fZ2, fZ3, fZ4⟩ := box_frozen HBZ5.out
  go_wp2_with fail
  refine ret_node (B := w.heap.size) tVarB (hd l).text 0 (hd l).pos none 0 0 Tryz.results170 rfl rfl (by repeat (with_reducible first | exact node_set HBZ5.out _ _ _ _ _ _ _ | refine (Below.heap_alloc _ _ _ (by simp; omega)).trans ?_)) ⟨⟨tVarB, (hd l).text, 0, (hd l).pos, none, 0, .nil⟩, rfl, (by repeat (with_reducible first | exact HK5.out | refine Kp.alloc ?_ _ | refine Kp.set ?_ (Nat.le_refl _) _)), ?_⟩
  show PrS _ B (.bad _ 2)
  exact (by repeat (with_reducible first | exact HR5.out | refine PrS.alloc ?_ _ | refine PrS.set ?_ hB _))
set_option maxRecDepth 100000 in
set_option maxHeartbeats 16000000 in
theorem rpart_zero (br : Bool) (l : List Tok) (w : World) (B : Nat) (hS : PrS w B (.good l)) (hk : ((hd l).kind == 1) = true) (hw : ((wrd l.tail).toList == (ByteArray.mk #[43]).toList) = true) (hk2 : ((hd l.tail.tail).kind == 2) = true) (hn : ((hd l.tail.tail).n == 0) = true) : Calls Tryz.prog 170 #[.pointer (some ⟨B, 0, none⟩), .bool br] w (PostR B w (.bad (hd l.tail.tail).pos 2)) := by
  have hk2n : ((hd l.tail.tail).kind != 2) = false := by rw [bne, hk2]; rfl
  have hk4 : ((hd l).kind == 4) = false := by have h : (hd l).kind = 1 := by simpa using hk
                                              rw [h]; rfl
  have hc5 := cellsNode
  have hc4 := cellsTok
  have hB := hS.lt
  have q3 := tok_f3
  have q0 := tok_f0
  have q2 := tok_f2
  have q1 := tok_f1
  have HS := Lib.hid hS
  clear hS
  go_enter Tryz.func170, Tryz.ntmps170
  have HC1 := Lib.hid (rnow_g l (w.alloc (boxOf ⟨#[]⟩ ⟨#[]⟩ 0 0 none 0 0)) B (HS.out.alloc _))
  go_wp2_with fail
  refine HC1.out.mono ?_
  rintro e1 w1 ⟨rfl, hb1⟩
  have HK1 := Lib.hid (((Kp.refl B w).alloc _).below hb1)
  have HR1 := Lib.hid ((HS.out.alloc _).below hb1)
  have HBZ1 := Lib.hid ((hb1.block _ (lt_heap (new_at w (boxOf ⟨#[]⟩ ⟨#[]⟩ 0 0 none 0 0)))).trans (new_at w (boxOf ⟨#[]⟩ ⟨#[]⟩ 0 0 none 0 0)))
  have hzZ1 := lt_heap HBZ1.out
  clear hb1
  obtain ⟨⟨tT0, tT1, tT2, tT3⟩, tfT0, tfT1, tfT2, tfT3⟩ := tok_cells (new_at w1 (tokBox (hd l).kind (hd l).text (hd l).n (hd l).pos))
  have HC2 := Lib.hid (rnext_g l (w1.alloc (tokBox (hd l).kind (hd l).text (hd l).n (hd l).pos)) B hk4 (HR1.out.alloc _))
  go_wp2_with fail
  refine HC2.out.mono ?_
  rintro e2 w2 ⟨rfl, hk2, hr2⟩
  have HK2 := Lib.hid ((HK1.out.alloc _).trans hk2)
  have HR2 := Lib.hid hr2
  have HBZ2 := Lib.hid (hk2.blk ((Below.heap_alloc _ _ _ (lt_heap HBZ1.out)).trans HBZ1.out) (by omega))
  have hzZ2 := lt_heap HBZ2.out
  have HBT2 := Lib.hid (hk2.blk (new_at w1 (tokBox (hd l).kind (hd l).text (hd l).n (hd l).pos)) (by omega))
  have hzT2 := lt_heap HBT2.out
  clear hk2
  obtain ⟨⟨tT0, tT1, tT2, tT3⟩, tfT0, tfT1, tfT2, tfT3⟩ := tok_cells HBT2.out
  have HC3 := Lib.hid (rtake_yes l.tail ⟨#[43]⟩ (w2.alloc (boxOf tVarB (hd l).text 0 (hd l).pos none 0 0)) B (by decide +kernel) hw (HR2.out.alloc _))
  go_wp2_with fail
  refine HC3.out.mono ?_
  rintro e3 w3 ⟨rfl, hk3, hr3⟩
  have HK3 := Lib.hid ((HK2.out.alloc _).trans hk3)
  have HR3 := Lib.hid hr3
  have HBZ3 := Lib.hid (hk3.blk ((Below.heap_alloc _ _ _ (lt_heap HBZ2.out)).trans HBZ2.out) (by omega))
  have hzZ3 := lt_heap HBZ3.out
  have HBT3 := Lib.hid (hk3.blk ((Below.heap_alloc _ _ _ (lt_heap HBT2.out)).trans HBT2.out) (by omega))
  have hzT3 := lt_heap HBT3.out
  have HBN3 := Lib.hid (hk3.blk (new_at w2 (boxOf tVarB (hd l).text 0 (hd l).pos none 0 0)) (by omega))
  have hzN3 := lt_heap HBN3.out
  clear hk3
  have HC4 := Lib.hid (rnow_g l.tail.tail w3 B HR3.out)
  go_wp2_with fail
  refine HC4.out.mono ?_
  rintro e4 w4 ⟨rfl, hb4⟩
  have HK4 := Lib.hid (HK3.out.below hb4)
  have HR4 := Lib.hid (HR3.out.below hb4)
  have HBZ4 := Lib.hid ((hb4.block _ (lt_heap HBZ3.out)).trans HBZ3.out)
  have hzZ4 := lt_heap HBZ4.out
  have HBT4 := Lib.hid ((hb4.block _ (lt_heap HBT3.out)).trans HBT3.out)
  have hzT4 := lt_heap HBT4.out
  have HBN4 := Lib.hid ((hb4.block _ (lt_heap HBN3.out)).trans HBN3.out)
  have hzN4 := lt_heap HBN4.out
  clear hb4
  obtain ⟨⟨tU0, tU1, tU2, tU3⟩, tfU0, tfU1, tfU2, tfU3⟩ := tok_cells (new_at w4 (tokBox (hd l.tail.tail).kind (hd l.tail.tail).text (hd l.tail.tail).n (hd l.tail.tail).pos))
  have HC5 := Lib.hid (rfail_g l.tail.tail (hd l.tail.tail).pos 2 (w4.alloc (tokBox (hd l.tail.tail).kind (hd l.tail.tail).text (hd l.tail.tail).n (hd l.tail.tail).pos)) B rfl (HR4.out.alloc _))
  go_wp2_with fail
  refine HC5.out.mono ?_
  rintro e5 w5 ⟨rfl, hk5, hr5⟩
  have HK5 := Lib.hid ((HK4.out.alloc _).trans hk5)
  have HR5 := Lib.hid hr5
  have HBZ5 := Lib.hid (hk5.blk ((Below.heap_alloc _ _ _ (lt_heap HBZ4.out)).trans HBZ4.out) (by omega))
  have hzZ5 := lt_heap HBZ5.out
  have HBT5 := Lib.hid (hk5.blk ((Below.heap_alloc _ _ _ (lt_heap HBT4.out)).trans HBT4.out) (by omega))
  have hzT5 := lt_heap HBT5.out
  have HBN5 := Lib.hid (hk5.blk ((Below.heap_alloc _ _ _ (lt_heap HBN4.out)).trans HBN4.out) (by omega))
  have hzN5 := lt_heap HBN5.out
  have HBU5 := Lib.hid (hk5.blk (new_at w4 (tokBox (hd l.tail.tail).kind (hd l.tail.tail).text (hd l.tail.tail).n (hd l.tail.tail).pos)) (by omega))
  have hzU5 := lt_heap HBU5.out
  clear hk5
  have hne1 : ¬ w.heap.size = w1.heap.size := by omega
  have hme1 : ¬ w1.heap.size = w.heap.size := by omega
  have hne2 : ¬ w.heap.size = w2.heap.size := by omega
  have hme2 : ¬ w2.heap.size = w.heap.size := by omega
  have hne3 : ¬ w.heap.size = w4.heap.size := by omega
  have hme3 : ¬ w4.heap.size = w.heap.size := by omega
  have hne4 : ¬ w1.heap.size = w2.heap.size := by omega
  have hme4 : ¬ w2.heap.size = w1.heap.size := by omega
  have hne5 : ¬ w1.heap.size = w4.heap.size := by omega
  have hme5 : ¬ w4.heap.size = w1.heap.size := by omega
  have hne6 : ¬ w2.heap.size = w4.heap.size := by omega
  have hme6 : ¬ w4.heap.size = w2.heap.size := by omega
  obtain ⟨bN0, bN1, bN2, bN3, bN4⟩ := box_cells HBN5.out
  obtain ⟨fN0, fN1, fN2, fN3, fN4⟩ := box_frozen HBN5.out
  obtain ⟨bZ0, bZ1, bZ2, bZ3, bZ4⟩ := box_cells HBZ5.out
  obtain ⟨fZ0, fZ1, fZ2, fZ3, fZ4⟩ := box_frozen HBZ5.out
  go_wp2_with fail
  refine ret_node (B := w.heap.size) tVarB (hd l).text 0 (hd l).pos none 0 0 Tryz.results170 rfl rfl (by repeat (with_reducible first | exact node_set HBZ5.out _ _ _ _ _ _ _ | refine (Below.heap_alloc _ _ _ (by simp; omega)).trans ?_)) ⟨⟨tVarB, (hd l).text, 0, (hd l).pos, none, 0, .nil⟩, rfl, (by repeat (with_reducible first | exact HK5.out | refine Kp.alloc ?_ _ | refine Kp.set ?_ (Nat.le_refl _) _)), ?_⟩
  show PrS _ B (.bad _ 2)
  exact (by repeat (with_reducible first | exact HR5.out | refine PrS.alloc ?_ _ | refine PrS.set ?_ hB _))
set_option maxRecDepth 100000 in
set_option maxHeartbeats 16000000 in
theorem rpart_num (br : Bool) (l : List Tok) (w : World) (B : Nat) (hS : PrS w B (.good l)) (hk : ((hd l).kind == 2) = true) : Calls Tryz.prog 170 #[.pointer (some ⟨B, 0, none⟩), .bool br] w (PostR B w (.ok (mkN tNumB emp0 (hd l).n (hd l).pos []) l.tail)) := by
  have hk1 : ((hd l).kind == 1) = false := by have h : (hd l).kind = 2 := by simpa using hk
                                              rw [h]; rfl
  have hk4 : ((hd l).kind == 4) = false := by have h : (hd l).kind = 2 := by simpa using hk
                                              rw [h]; rfl
  have hc5 := cellsNode
  have hc4 := cellsTok
  have hB := hS.lt
  have q3 := tok_f3
  have q0 := tok_f0
  have q2 := tok_f2
  have q1 := tok_f1
  have HS := Lib.hid hS
  clear hS
  go_enter Tryz.func170, Tryz.ntmps170
  have HC1 := Lib.hid (rnow_g l (w.alloc (boxOf ⟨#[]⟩ ⟨#[]⟩ 0 0 none 0 0)) B (HS.out.alloc _))
  go_wp2_with fail
  refine HC1.out.mono ?_
  rintro e1 w1 ⟨rfl, hb1⟩
  have HK1 := Lib.hid (((Kp.refl B w).alloc _).below hb1)
  have HR1 := Lib.hid ((HS.out.alloc _).below hb1)
  have HBZ1 := Lib.hid ((hb1.block _ (lt_heap (new_at w (boxOf ⟨#[]⟩ ⟨#[]⟩ 0 0 none 0 0)))).trans (new_at w (boxOf ⟨#[]⟩ ⟨#[]⟩ 0 0 none 0 0)))
  have hzZ1 := lt_heap HBZ1.out
  clear hb1
  obtain ⟨⟨tT0, tT1, tT2, tT3⟩, tfT0, tfT1, tfT2, tfT3⟩ := tok_cells (new_at w1 (tokBox (hd l).kind (hd l).text (hd l).n (hd l).pos))
  have HC2 := Lib.hid (rnext_g l (w1.alloc (tokBox (hd l).kind (hd l).text (hd l).n (hd l).pos)) B hk4 (HR1.out.alloc _))
  go_wp2_with fail
  refine HC2.out.mono ?_
  rintro e2 w2 ⟨rfl, hk2, hr2⟩
  have HK2 := Lib.hid ((HK1.out.alloc _).trans hk2)
  have HR2 := Lib.hid hr2
  have HBZ2 := Lib.hid (hk2.blk ((Below.heap_alloc _ _ _ (lt_heap HBZ1.out)).trans HBZ1.out) (by omega))
  have hzZ2 := lt_heap HBZ2.out
  have HBT2 := Lib.hid (hk2.blk (new_at w1 (tokBox (hd l).kind (hd l).text (hd l).n (hd l).pos)) (by omega))
  have hzT2 := lt_heap HBT2.out
  clear hk2
  obtain ⟨⟨tT0, tT1, tT2, tT3⟩, tfT0, tfT1, tfT2, tfT3⟩ := tok_cells HBT2.out
  obtain ⟨bZ0, bZ1, bZ2, bZ3, bZ4⟩ := box_cells HBZ2.out
  obtain ⟨fZ0, fZ1, fZ2, fZ3, fZ4⟩ := box_frozen HBZ2.out
  go_wp2_with fail
  refine ret_node (B := w.heap.size) tNumB ⟨#[]⟩ (hd l).n (hd l).pos none 0 0 Tryz.results170 rfl rfl (by repeat (with_reducible first | exact node_set HBZ2.out _ _ _ _ _ _ _ | refine (Below.heap_alloc _ _ _ (by simp; omega)).trans ?_)) ⟨⟨tNumB, ⟨#[]⟩, (hd l).n, (hd l).pos, none, 0, .nil⟩, rfl, (by repeat (with_reducible first | exact HK2.out | refine Kp.alloc ?_ _ | refine Kp.set ?_ (Nat.le_refl _) _)), ?_⟩
  exact ⟨(by repeat (with_reducible first | exact HR2.out | refine PrS.alloc ?_ _ | refine PrS.set ?_ hB _)), Nd.Good.leaf _ _ _ _ _ _ _ _, rfl⟩
set_option maxRecDepth 100000 in
set_option maxHeartbeats 16000000 in
theorem rpart_no (br : Bool) (l : List Tok) (w : World) (B : Nat) (hS : PrS w B (.good l)) (hk1 : ((hd l).kind == 1) = false) (hk2 : ((hd l).kind == 2) = false) (hw : ((wrd l).toList == (ByteArray.mk #[123]).toList) = false) : Calls Tryz.prog 170 #[.pointer (some ⟨B, 0, none⟩), .bool br] w (PostR B w (.bad (hd l).pos 2)) := by
 have hc5 := cellsNode
 have hc4 := cellsTok
 have hB := hS.lt
 have q3 := tok_f3
 have q0 := tok_f0
 have q2 := tok_f2
 have q1 := tok_f1
 have HS := Lib.hid hS
 clear hS
 go_enter Tryz.func170, Tryz.ntmps170
 have HC1 := Lib.hid (rnow_g l (w.alloc (boxOf ⟨#[]⟩ ⟨#[]⟩ 0 0 none 0 0)) B (HS.out.alloc _))
 go_wp2_with fail
 refine HC1.out.mono ?_
 rintro e1 w1 ⟨rfl, hb1⟩
 have HK1 := Lib.hid (((Kp.refl B w).alloc _).below hb1)
 have HR1 := Lib.hid ((HS.out.alloc _).below hb1)
 have HBZ1 := Lib.hid ((hb1.block _ (lt_heap (new_at w (boxOf ⟨#[]⟩ ⟨#[]⟩ 0 0 none 0 0)))).trans (new_at w (boxOf ⟨#[]⟩ ⟨#[]⟩ 0 0 none 0 0)))
 have hzZ1 := lt_heap HBZ1.out
 clear hb1
 obtain ⟨⟨tT0, tT1, tT2, tT3⟩, tfT0, tfT1, tfT2, tfT3⟩ := tok_cells (new_at w1 (tokBox (hd l).kind (hd l).text (hd l).n (hd l).pos))
 have HC2 := Lib.hid (ris_no l ⟨#[123]⟩ (w1.alloc (tokBox (hd l).kind (hd l).text (hd l).n (hd l).pos)) B hw (HR1.out.alloc _))
 go_wp2_with fail
 refine HC2.out.mono ?_
 rintro e2 w2 ⟨rfl, hb2⟩
 have HK2 := Lib.hid ((HK1.out.alloc _).below hb2)
 have HR2 := Lib.hid ((HR1.out.alloc _).below hb2)
 have HBZ2 := Lib.hid ((hb2.block _ (lt_heap ((Below.heap_alloc _ _ _ (lt_heap HBZ1.out)).trans HBZ1.out))).trans ((Below.heap_alloc _ _ _ (lt_heap HBZ1.out)).trans HBZ1.out))
 have hzZ2 := lt_heap HBZ2.out
 have HBT2 := Lib.hid ((hb2.block _ (lt_heap (new_at w1 (tokBox (hd l).kind (hd l).text (hd l).n (hd l).pos)))).trans (new_at w1 (tokBox (hd l).kind (hd l).text (hd l).n (hd l).pos)))
 have hzT2 := lt_heap HBT2.out
 clear hb2
 obtain ⟨⟨tT0, tT1, tT2, tT3⟩, tfT0, tfT1, tfT2, tfT3⟩ := tok_cells HBT2.out
 have HC3 := Lib.hid (rfail_g l (hd l).pos 2 w2 B rfl HR2.out)
 go_wp2_with fail
 refine HC3.out.mono ?_
 rintro e3 w3 ⟨rfl, hk3, hr3⟩
 have HK3 := Lib.hid (HK2.out.trans hk3)
 have HR3 := Lib.hid hr3
 have HBZ3 := Lib.hid (hk3.blk HBZ2.out (by omega))
 have hzZ3 := lt_heap HBZ3.out
 have HBT3 := Lib.hid (hk3.blk HBT2.out (by omega))
 have hzT3 := lt_heap HBT3.out
 clear hk3
 obtain ⟨bZ0, bZ1, bZ2, bZ3, bZ4⟩ := box_cells HBZ3.out
 obtain ⟨fZ0, fZ1, fZ2, fZ3, fZ4⟩ := box_frozen HBZ3.out
 go_wp2_with fail
 refine ret_node (B := w.heap.size) ⟨#[]⟩ ⟨#[]⟩ 0 0 none 0 0 Tryz.results170 rfl rfl (by repeat (with_reducible first | exact node_set HBZ3.out _ _ _ _ _ _ _ | refine (Below.heap_alloc _ _ _ (by simp; omega)).trans ?_)) ⟨⟨⟨#[]⟩, ⟨#[]⟩, 0, 0, none, 0, .nil⟩, rfl, (by repeat (with_reducible first | exact HK3.out | refine Kp.alloc ?_ _ | refine Kp.set ?_ (Nat.le_refl _) _)), ?_⟩
 show PrS _ B (.bad _ 2)
 exact (by repeat (with_reducible first | exact HR3.out | refine PrS.alloc ?_ _ | refine PrS.set ?_ hB _))
set_option maxRecDepth 100000 in
set_option maxHeartbeats 16000000 in
theorem rpart_within (l : List Tok) (w : World) (B : Nat) (hS : PrS w B (.good l)) (hk1 : ((hd l).kind == 1) = false) (hk2 : ((hd l).kind == 2) = false) (hw : ((wrd l).toList == (ByteArray.mk #[123]).toList) = true) : Calls Tryz.prog 170 #[.pointer (some ⟨B, 0, none⟩), .bool true] w (PostR B w (.bad (hd l).pos 2)) := by
 have hc5 := cellsNode
 have hc4 := cellsTok
 have hB := hS.lt
 have q3 := tok_f3
 have q0 := tok_f0
 have q2 := tok_f2
 have q1 := tok_f1
 have HS := Lib.hid hS
 clear hS
 go_enter Tryz.func170, Tryz.ntmps170
 have HC1 := Lib.hid (rnow_g l (w.alloc (boxOf ⟨#[]⟩ ⟨#[]⟩ 0 0 none 0 0)) B (HS.out.alloc _))
 go_wp2_with fail
 refine HC1.out.mono ?_
 rintro e1 w1 ⟨rfl, hb1⟩
 have HK1 := Lib.hid (((Kp.refl B w).alloc _).below hb1)
 have HR1 := Lib.hid ((HS.out.alloc _).below hb1)
 have HBZ1 := Lib.hid ((hb1.block _ (lt_heap (new_at w (boxOf ⟨#[]⟩ ⟨#[]⟩ 0 0 none 0 0)))).trans (new_at w (boxOf ⟨#[]⟩ ⟨#[]⟩ 0 0 none 0 0)))
 have hzZ1 := lt_heap HBZ1.out
 clear hb1
 obtain ⟨⟨tT0, tT1, tT2, tT3⟩, tfT0, tfT1, tfT2, tfT3⟩ := tok_cells (new_at w1 (tokBox (hd l).kind (hd l).text (hd l).n (hd l).pos))
 have HC2 := Lib.hid (ris_yes l ⟨#[123]⟩ (w1.alloc (tokBox (hd l).kind (hd l).text (hd l).n (hd l).pos)) B (by decide +kernel) hw (HR1.out.alloc _))
 go_wp2_with fail
 refine HC2.out.mono ?_
 rintro e2 w2 ⟨rfl, hb2⟩
 have HK2 := Lib.hid ((HK1.out.alloc _).below hb2)
 have HR2 := Lib.hid ((HR1.out.alloc _).below hb2)
 have HBZ2 := Lib.hid ((hb2.block _ (lt_heap ((Below.heap_alloc _ _ _ (lt_heap HBZ1.out)).trans HBZ1.out))).trans ((Below.heap_alloc _ _ _ (lt_heap HBZ1.out)).trans HBZ1.out))
 have hzZ2 := lt_heap HBZ2.out
 have HBT2 := Lib.hid ((hb2.block _ (lt_heap (new_at w1 (tokBox (hd l).kind (hd l).text (hd l).n (hd l).pos)))).trans (new_at w1 (tokBox (hd l).kind (hd l).text (hd l).n (hd l).pos)))
 have hzT2 := lt_heap HBT2.out
 clear hb2
 obtain ⟨⟨tT0, tT1, tT2, tT3⟩, tfT0, tfT1, tfT2, tfT3⟩ := tok_cells HBT2.out
 have HC3 := Lib.hid (rfail_g l (hd l).pos 2 w2 B rfl HR2.out)
 go_wp2_with fail
 refine HC3.out.mono ?_
 rintro e3 w3 ⟨rfl, hk3, hr3⟩
 have HK3 := Lib.hid (HK2.out.trans hk3)
 have HR3 := Lib.hid hr3
 have HBZ3 := Lib.hid (hk3.blk HBZ2.out (by omega))
 have hzZ3 := lt_heap HBZ3.out
 have HBT3 := Lib.hid (hk3.blk HBT2.out (by omega))
 have hzT3 := lt_heap HBT3.out
 clear hk3
 obtain ⟨bZ0, bZ1, bZ2, bZ3, bZ4⟩ := box_cells HBZ3.out
 obtain ⟨fZ0, fZ1, fZ2, fZ3, fZ4⟩ := box_frozen HBZ3.out
 go_wp2_with fail
 refine ret_node (B := w.heap.size) ⟨#[]⟩ ⟨#[]⟩ 0 0 none 0 0 Tryz.results170 rfl rfl (by repeat (with_reducible first | exact node_set HBZ3.out _ _ _ _ _ _ _ | refine (Below.heap_alloc _ _ _ (by simp; omega)).trans ?_)) ⟨⟨⟨#[]⟩, ⟨#[]⟩, 0, 0, none, 0, .nil⟩, rfl, (by repeat (with_reducible first | exact HK3.out | refine Kp.alloc ?_ _ | refine Kp.set ?_ (Nat.le_refl _) _)), ?_⟩
 show PrS _ B (.bad _ 2)
 exact (by repeat (with_reducible first | exact HR3.out | refine PrS.alloc ?_ _ | refine PrS.set ?_ hB _))
set_option maxRecDepth 100000 in
set_option maxHeartbeats 16000000 in
theorem rpart_set (l : List Tok) (w : World) (B : Nat) (hS : PrS w B (.good l)) (hk1 : ((hd l).kind == 1) = false) (hk2 : ((hd l).kind == 2) = false) (hw : ((wrd l).toList == (ByteArray.mk #[123]).toList) = true) (rl : Res (List Nd)) (hl : ∀ W, PrS W B (.good l.tail) → Calls Tryz.prog 162 #[.pointer (some ⟨B, 0, none⟩), .string ⟨#[125]⟩, .bool true] W (PostRL B W rl)) (r : Res Nd) (h1 : ∀ ks l', rl = .ok ks l' → r = .ok (mkN tSetB emp0 0 (hd l).pos ks) l') (h2 : ∀ a e, rl = .bad a e → r = .bad a e) : Calls Tryz.prog 170 #[.pointer (some ⟨B, 0, none⟩), .bool false] w (PostR B w (r)) := by
 have hk4 := word_kind hw (by decide +kernel)
 have HL := Lib.hid hl
 have H1 := Lib.hid h1
 have H2 := Lib.hid h2
 clear hl h1 h2
 have hc5 := cellsNode
 have hc4 := cellsTok
 have hB := hS.lt
 have q3 := tok_f3
 have q0 := tok_f0
 have q2 := tok_f2
 have q1 := tok_f1
 have HS := Lib.hid hS
 clear hS
 go_enter Tryz.func170, Tryz.ntmps170
 have HC1 := Lib.hid (rnow_g l (w.alloc (boxOf ⟨#[]⟩ ⟨#[]⟩ 0 0 none 0 0)) B (HS.out.alloc _))
 go_wp2_with fail
 refine HC1.out.mono ?_
 rintro e1 w1 ⟨rfl, hb1⟩
 have HK1 := Lib.hid (((Kp.refl B w).alloc _).below hb1)
 have HR1 := Lib.hid ((HS.out.alloc _).below hb1)
 have HBZ1 := Lib.hid ((hb1.block _ (lt_heap (new_at w (boxOf ⟨#[]⟩ ⟨#[]⟩ 0 0 none 0 0)))).trans (new_at w (boxOf ⟨#[]⟩ ⟨#[]⟩ 0 0 none 0 0)))
 have hzZ1 := lt_heap HBZ1.out
 clear hb1
 obtain ⟨⟨tT0, tT1, tT2, tT3⟩, tfT0, tfT1, tfT2, tfT3⟩ := tok_cells (new_at w1 (tokBox (hd l).kind (hd l).text (hd l).n (hd l).pos))
 have HC2 := Lib.hid (ris_yes l ⟨#[123]⟩ (w1.alloc (tokBox (hd l).kind (hd l).text (hd l).n (hd l).pos)) B (by decide +kernel) hw (HR1.out.alloc _))
 go_wp2_with fail
 refine HC2.out.mono ?_
 rintro e2 w2 ⟨rfl, hb2⟩
 have HK2 := Lib.hid ((HK1.out.alloc _).below hb2)
 have HR2 := Lib.hid ((HR1.out.alloc _).below hb2)
 have HBZ2 := Lib.hid ((hb2.block _ (lt_heap ((Below.heap_alloc _ _ _ (lt_heap HBZ1.out)).trans HBZ1.out))).trans ((Below.heap_alloc _ _ _ (lt_heap HBZ1.out)).trans HBZ1.out))
 have hzZ2 := lt_heap HBZ2.out
 have HBT2 := Lib.hid ((hb2.block _ (lt_heap (new_at w1 (tokBox (hd l).kind (hd l).text (hd l).n (hd l).pos)))).trans (new_at w1 (tokBox (hd l).kind (hd l).text (hd l).n (hd l).pos)))
 have hzT2 := lt_heap HBT2.out
 clear hb2
 have HC3 := Lib.hid (rnext_g l w2 B hk4 HR2.out)
 go_wp2_with fail
 refine HC3.out.mono ?_
 rintro e3 w3 ⟨rfl, hk3, hr3⟩
 have HK3 := Lib.hid (HK2.out.trans hk3)
 have HR3 := Lib.hid hr3
 have HBZ3 := Lib.hid (hk3.blk HBZ2.out (by omega))
 have hzZ3 := lt_heap HBZ3.out
 have HBT3 := Lib.hid (hk3.blk HBT2.out (by omega))
 have hzT3 := lt_heap HBT3.out
 clear hk3
 have HC4 := Lib.hid (HL.out w3.drew (HR3.out.drew))
 have hne1 : ¬ w.heap.size = w1.heap.size := by omega
 have hme1 : ¬ w1.heap.size = w.heap.size := by omega
 obtain ⟨⟨tT0, tT1, tT2, tT3⟩, tfT0, tfT1, tfT2, tfT3⟩ := tok_cells HBT3.out
 go_wp2_with fail
 go_region_held3 (fun w' => w'.cell? ⟨w1.heap.size, 3, none⟩ = some (.int .i64 (hd l).pos)) (go_keep) (first | (go_at_call 162; refine HC4.out.mono ?_; clear tT0 tT1 tT2 tT3 tfT0 tfT1 tfT2 tfT3; rintro e4 w4 ⟨a, F, cap, rfl, hk4, ho4⟩; have HO4 := Lib.hid ho4; clear ho4; have HK4 := Lib.hid ((HK3.out.drew).trans hk4); have HR4 := Lib.hid True.intro; have HBZ4 := Lib.hid (hk4.blk HBZ3.out (by omega)); have hzZ4 := lt_heap HBZ4.out; have HBT4 := Lib.hid (hk4.blk HBT3.out (by omega)); have hzT4 := lt_heap HBT4.out; clear hk4; obtain ⟨bZ0, bZ1, bZ2, bZ3, bZ4⟩ := box_cells HBZ4.out; obtain ⟨fZ0, fZ1, fZ2, fZ3, fZ4⟩ := box_frozen HBZ4.out; obtain ⟨⟨tT0, tT1, tT2, tT3⟩, tfT0, tfT1, tfT2, tfT3⟩ := tok_cells HBT4.out))
 have hdr : w3.drew.heap.size = w3.heap.size := rfl
 go_wp2_with fail
 refine ret_node (B := w.heap.size) tSetB ⟨#[]⟩ 0 (hd l).pos a F.len cap Tryz.results170 rfl rfl (by repeat (with_reducible first | exact node_set HBZ4.out _ _ _ _ _ _ _ | refine (Below.heap_alloc _ _ _ (by simp; omega)).trans ?_)) ⟨⟨tSetB, ⟨#[]⟩, 0, (hd l).pos, a, cap, F⟩, rfl, (by repeat (with_reducible first | exact HK4.out | refine Kp.alloc ?_ _ | refine Kp.set ?_ (Nat.le_refl _) _)), ?_⟩
 cases rl with
 | ok ks l' =>
  obtain ⟨hr, hg, hs⟩ := HO4.out
  rw [H1.out ks l' rfl]
  refine ⟨(by repeat (with_reducible first | exact hr | refine PrS.alloc ?_ _ | refine PrS.set ?_ hB _)), ?_, ?_⟩
  · refine Nd.Good.mono (S := fun b => w3.heap.size ≤ b) ?_ (fun b hb => Nat.le_trans (by omega) hb)
   exact (hg _ _ _ _ _).from (set5_from _ (by omega) _ _ _ _ _)
  · show Nd.mk _ _ _ _ _ _ _ = Nd.mk _ _ _ _ _ _ _
   rw [hs]
 | bad a e =>
  have hr : PrS w4 B (.bad a e) := HO4.out
  rw [H2.out a e rfl]
  show PrS _ B (.bad a e)
  exact (by repeat (with_reducible first | exact hr | refine PrS.alloc ?_ _ | refine PrS.set ?_ hB _))
end Go.Proofs.YtmpcmpeloebnhaaGreatDoor
namespace Go.Proofs.YtmpcmpeloebnhaaGreatDoor
open Go.RowKit
def rowH (g : Nat) (br : Bool) (acc : List Nd) (l : List Tok) : Res (List Nd) :=
 if acc.length == 6 then .bad (hd l).pos 2 else match pKid g br l with
  | .ok n l' => pListL g br (acc ++ [n]) l'
  | .bad a e => .bad a e
theorem rowH_start (f : Nat) (br : Bool) (l : List Tok) (h : ¬ ((wrd l).toList == clo br) = true) : pList (f + 1) br l = rowH f br [] l := by
 unfold pList rowH
 rw [if_neg h, if_neg (by decide)]
 rfl
theorem rowH_comma (g : Nat) (br : Bool) (acc : List Nd) (l : List Tok) (h : ((wrd l).toList == [44]) = true) : pListL (g + 1) br acc l = rowH g br acc l.tail := by
 conv => { lhs; unfold pListL }
 unfold rowH
 rw [if_pos h]
 by_cases h6 : (acc.length == 6) = true
 · rw [if_pos h6, if_pos h6]
 · rw [if_neg h6, if_neg h6]
  cases pKid g br l.tail <;> rfl
def SayKR (br : Bool) (f : Nat) : Prop := ∀ (l : List Tok) (w : World) (B : Nat), 3 + 20 * l.length ≤ f → PrS w B (.good l) →
 match br with
 | true => Calls Tryz.prog 170 #[.pointer (some ⟨B, 0, none⟩), .bool true] w (PostR B w (pKid f true l))
 | false => Calls Tryz.prog 163 #[.pointer (some ⟨B, 0, none⟩)] w (PostR B w (pKid f false l))
theorem prs_append {B : Nat} {s : St} {w w' : World} {row : Option Nat} (h : PrS w B s) (hg : w.grownBy w' row) (hr : ∀ k, row = some k → B < k) : PrS w' B s :=
 h.same fun g hgB => hg.block g (Nat.lt_of_le_of_lt hgB h.lt) (fun e => by have := hr g e.symm; omega)
theorem PrS.err_g {w : World} {B : Nat} {l : List Tok} (h : PrS w B (.good l)) : w.cell? ⟨B, 2, none⟩ = some (.int .i64 0) := by
 obtain ⟨a, L, cap, i, h1, _⟩ := h
 exact h1.cells.1.2.2.1
theorem PrS.err_b {w : World} {B : Nat} {p e : Int} (h : PrS w B (.bad p e)) : w.cell? ⟨B, 2, none⟩ = some (.int .i64 e) ∧ (e == 0) = false := by
 obtain ⟨a, len, cap, i, h1, h2⟩ := h
 exact ⟨h1.cells.1.2.2.1, h2⟩
set_option maxRecDepth 100000 in
set_option maxHeartbeats 16000000 in
theorem rrowT (f : Nat) (ih : ∀ g, g ≤ f → SayKR false g) (l : List Tok) (w : World) (B : Nat) (hneed : 4 + 20 * l.length ≤ f + 1) (hS : PrS w B (.good l)) :
  Calls Tryz.prog 162 #[.pointer (some ⟨B, 0, none⟩), .string ⟨#[41]⟩, .bool false] w (PostRL B w (pList (f + 1) false l)) := by
 obtain ⟨i0, hi, hz0, hz1, hz2⟩ := info_parts Tryz.infoNode
 have HIF := Lib.hid (And.intro hi (And.intro hz0 (And.intro hz1 hz2)))
 clear hi hz0 hz1 hz2
 have hc5 := cellsNode
 have q3 := tok_f3
 have hB := hS.lt
 have HS := Lib.hid hS
 have HIH := Lib.hid ih
 clear hS ih
 generalize hr : pList (f + 1) false l = r
 by_cases hw : ((wrd l).toList == clo false) = true
 · have hwx : ((wrd l).toList == (⟨#[41]⟩ : ByteArray).toList) = true := by rw [← clo_t]; exact hw
  have HRE : RowKit.Hid (r = .ok [] l.tail) := Lib.hid (by rw [← hr]; unfold pList; rw [if_pos hw])
  have HC := Lib.hid (rtake_yes l ⟨#[41]⟩ w B (by decide +kernel) hwx HS.out)
  clear hr hw hwx
  go_enter Tryz.func162, Tryz.ntmps162
  go_wp2_with fail
  refine HC.out.mono ?_
  rintro e w1 ⟨rfl, hk1, hr1⟩
  go_wp2_with fail
  go_ret
  refine ⟨none, .nil, 0, rfl, hk1, ?_⟩
  rw [HRE.out]
  exact ⟨hr1, fun _ _ _ _ _ => Nd.Good.leaf _ _ _ _ _ _ _ _, rfl⟩
 · have hw' : ((wrd l).toList == (⟨#[41]⟩ : ByteArray).toList) = false := by rw [← clo_t]; simpa using hw
  have HRE0 := Lib.hid (show r = rowH f false [] l from by rw [← hr]; exact rowH_start f false l hw)
  have HC1 := Lib.hid (rtake_no l ⟨#[41]⟩ w B hw' HS.out)
  clear hr hw hw'
  go_enter Tryz.func162, Tryz.ntmps162
  go_wp2_with fail
  refine HC1.out.mono ?_
  rintro e w1 ⟨rfl, hk1, hr1⟩
  have HK1 := Lib.hid hk1
  have HR1 := Lib.hid hr1
  clear hk1 hr1 HC1
  go_wp2_with fail
  go_loopg [7] f (fun gf v7 wx => ∃ (F : Fo) (a : Option Addr) (cap : Nat), v7 = .slice a F.len cap ∧ RowKit.Hid (wx.ownsRow w.heap.size 26 5 (.slice a F.len cap) F.len (flatF F)) ∧ F.len ≤ 6 ∧ RowKit.Hid (Kp B w wx) ∧
   (∃ l ts, PrS wx B (.good l) ∧ (3 + 20 * l.length ≤ gf ∧ gf ≤ f) ∧ RowKit.Hid (F.Kids (fun b => w.heap.size ≤ b ∧ some b ≠ (Value.slice a F.len cap).ownBlock) wx) ∧ RowKit.Hid (F.strip = Fo.ofL ts) ∧ RowKit.Hid (r = rowH gf false ts l)))
  case atStart => exact ⟨.nil, none, 0, rfl, Lib.hid (World.ownsRow_nil _ _ _ _), Nat.zero_le _, HK1, l, [], HR1.out, ⟨by omega, Nat.le_refl _⟩, Lib.hid trivial, Lib.hid rfl, HRE0⟩
  case round =>
   clear HRE0 HK1 HR1
   obtain ⟨F, a, cap, rfl, HOWN, hF6, HK, lx, ts, hrd, ⟨hneed2, hgf⟩, HKD, HST, HRE⟩ := hrel
   obtain ⟨g', rfl⟩ : ∃ g', gk = g' + 1 := ⟨gk - 1, by omega⟩
   have HRD := Lib.hid hrd
   have z2 := hrd.err_g
   clear hrd
   have hlen : F.len = ts.length := by rw [← strip_len, HST.out, ofL_len]
   by_cases h6 : F.len = 6
   · have h6i : ((F.len : Int) == 6) = true := by rw [beq_iff_eq]; omega
    have hts : (ts.length == 6) = true := by rw [← hlen, h6]; rfl
    have HR2 := Lib.hid (show r = .bad (hd lx).pos 2 from by rw [HRE.out]; unfold rowH; rw [if_pos hts])
    have HNW := Lib.hid (rnow_g lx wr B HRD.out)
    clear hts h6 hlen HRE
    go_wp2_with fail
    refine HNW.out.mono ?_
    rintro e w3 ⟨rfl, hb3⟩
    have HF := Lib.hid (rfail_g lx (hd lx).pos 2 w3 B rfl (HRD.out.below hb3))
    have HK3 := Lib.hid (HK.out.below hb3)
    clear hb3 HNW
    go_wp2_with fail
    refine HF.out.mono ?_
    rintro e w4 ⟨rfl, hk4, hr4⟩
    have HK4 := Lib.hid (HK3.out.trans hk4)
    have HR4 := Lib.hid hr4
    clear hk4 hr4 HF HK3
    go_wp2_with fail
    go_ret
    refine ⟨a, F, cap, rfl, HK4.out, ?_⟩
    rw [HR2.out]
    exact HR4.out
   have h6i : ((F.len : Int) == 6) = false := by rw [beq_eq_false_iff_ne]; omega
   have hts : ¬ (ts.length == 6) = true := by rw [← hlen, beq_iff_eq]; exact h6
   obtain ⟨rk', hq⟩ : ∃ rk', pKid (g' + 1) false lx = rk' := ⟨_, rfl⟩
   have HOK2 : RowKit.Hid (∀ k l', rk' = .ok k l' → r = pListL (g' + 1) false (ts ++ [k]) l' ∧ Suf l' lx) := Lib.hid (fun k l' h => ⟨by rw [HRE.out]; unfold rowH; rw [if_neg hts, hq, h], (suf_terms (g' + 1)).2.2.1 _ _ _ _ (hq.trans h)⟩)
   have HBAD2 : RowKit.Hid (∀ a e, rk' = .bad a e → r = .bad a e) := Lib.hid (fun a e h => by rw [HRE.out]; unfold rowH; rw [if_neg hts, hq, h])
   have HKID2 : RowKit.Hid (Calls Tryz.prog 163 #[.pointer (some ⟨B, 0, none⟩)] wr (PostR B wr rk')) := Lib.hid (by rw [← hq]; exact HIH.out (g' + 1) (by omega) lx wr B (by omega) HRD.out)
   have hF5 : F.len + 1 ≤ 6 := by omega
   clear hts h6 hlen HRE hq
   go_wp2_with fail
   refine HKID2.out.mono ?_
   rintro e w5 ⟨U, rfl, hk5, ho5⟩
   have HKK := Lib.hid hk5
   have HO5 := Lib.hid ho5
   have hzz := HKK.out.size
   have hzw := HK.out.size
   clear hk5 ho5 HKID2
   have hown5 := HOWN.out.kept HKK.out (.inr (fun h => by have := (HOWN.out.lt _ h).1; omega))
   have hlt5 := HOWN.out.lt
   have HOWN5 := Lib.hid hown5
   have HLT := Lib.hid hlt5
   clear hown5 hlt5
   go_wp2_with (at_builtin; refine wpList_append_own_at _ rfl _ _ 24 rfl w.heap.size 26 i0 (.agg #[.string ⟨#[]⟩, .string ⟨#[]⟩, .int .i64 0, .int .i64 0, .slice none 0 0]) 5 72 Tryz.underlying24 HIF.out.1 HIF.out.2.1 HIF.out.2.2.1 HIF.out.2.2.2 rfl (by decide) _ _ _ rfl (HOWN5.out.alloc _) ⟨w5.heap.size, 0, none⟩ 1 1 [.string U.op, .string U.name, .int .i64 U.n, .int .i64 U.pos, .slice U.a U.kids.len U.cap] rfl rfl (cell_five_new _ _ _ _ _ _ _) (fun x hx => by simp at hx; rcases hx with rfl | rfl | rfl | rfl | rfl <;> rfl) (by unfold maxLen; omega) (by omega) (by simp; omega) ?_; intro v' w9 hown9 hgrow9 _ hlie9)
   obtain ⟨a', cap', rfl⟩ := own_form hown9
   have HOWN9 := Lib.hid hown9
   have HGR := Lib.hid hgrow9
   have HLIE := Lib.hid hlie9
   have HK9 := Lib.hid (kp_append ((HK.out.trans HKK.out).alloc _) HGR.out (fun k hk => (HLT.out k hk).1))
   clear hown9 hgrow9 hlie9
   cases rk' with
   | bad pa pe =>
    have hp9 : PrS w9 B (.bad pa pe) := prs_append ((show PrS w5 B (.bad pa pe) from HO5.out).alloc _) HGR.out (fun k hk => by have := (HLT.out k hk).1; omega)
    have HC6 := Lib.hid (rtake_b ⟨#[44]⟩ w9 B pa pe hp9)
    clear hp9
    go_wp2_with fail
    refine HC6.out.mono ?_
    rintro e w6 ⟨rfl, hk6, hr6⟩
    have HC7 := Lib.hid (rmust_b ⟨#[41]⟩ w6 B pa pe hr6)
    have HK6 := Lib.hid (HK9.out.trans hk6)
    clear hk6 hr6 HC6
    go_wp2_with fail
    refine HC7.out.mono ?_
    rintro e w7 ⟨rfl, hk7, hr7⟩
    have HK7 := Lib.hid (HK6.out.trans hk7)
    have HR7 := Lib.hid hr7
    clear hk7 hr7 HC7
    go_wp2_with fail
    go_ret
    refine ⟨a', F.snoc U, cap', by rw [snoc_len]; rfl, HK7.out, ?_⟩
    rw [HBAD2.out pa pe rfl]
    exact HR7.out
   | ok kx lk =>
   obtain ⟨hr5, hg5, hs5⟩ := HO5.out
   obtain ⟨r1, r2⟩ := HOK2.out kx lk rfl
   have hp9 : PrS w9 B (.good lk) := prs_append (hr5.alloc _) HGR.out (fun k hk => by have := (HLT.out k hk).1; omega)
   have hkd := kids_append ((HKD.out.from (HKK.out.from (fun h => absurd h.1 (by omega)))).from (From.alloc _ _ _)) ((hg5.mono (fun b hb => ⟨by omega, fun h => by have := (HLT.out b h.symm).2; omega⟩)).from (From.alloc _ _ _)) HGR.out HLIE.out
   have HKD9 := Lib.hid hkd
   have HST9 : RowKit.Hid ((F.snoc U).strip = Fo.ofL (ts ++ [kx])) := Lib.hid (by rw [← hs5]; exact ofL_snoc ts U F HST.out)
   have HP9 := Lib.hid hp9
   have HR1 := Lib.hid r1
   have HSF := Lib.hid r2
   clear hr5 hg5 hs5 r1 r2 hp9 hkd HOK2 HBAD2 HO5 HKD HST
   by_cases hcm : ((wrd lk).toList == (ByteArray.mk #[44]).toList) = true
   · have hcm44 : ((wrd lk).toList == [44]) = true := by rw [← show (ByteArray.mk #[44]).toList = [44] from by decide +kernel]; exact hcm
    have HRE9 := Lib.hid (show r = rowH g' false (ts ++ [kx]) lk.tail from by rw [HR1.out]; exact rowH_comma g' false _ _ hcm44)
    have hlt2 := (Suf.tail (ne_of_wrd hcm44)).len
    have hlt3 := HSF.out.len
    have HC6 := Lib.hid (rtake_yes lk ⟨#[44]⟩ w9 B (by decide +kernel) hcm HP9.out)
    clear hcm hcm44
    go_wp2_with fail
    refine HC6.out.mono ?_
    rintro e w6 ⟨rfl, hk6, hr6⟩
    have HK6 := Lib.hid (HK9.out.trans hk6)
    have HKL := Lib.hid hk6
    have HR6 := Lib.hid hr6
    clear hk6 hr6 HC6
    go_wp2_with fail
    go_roundg g'
    case rel =>
     have hown6 := HOWN9.out.kept HKL.out (.inr (fun h => by have := (HOWN9.out.lt _ h).1; omega))
     refine ⟨F.snoc U, a', cap', by rw [snoc_len], Lib.hid (by rw [snoc_len, flatF_snoc]; exact hown6), by rw [snoc_len]; omega, HK6, lk.tail, ts ++ [kx], HR6.out, ⟨by omega, by omega⟩, Lib.hid ?_, HST9, HRE9⟩
     rw [snoc_len]
     exact HKD9.out.from (HKL.out.from (fun h => absurd h.1 (by omega)))
    case measure => omega
   · have hcm44 : ¬ ((wrd lk).toList == [44]) = true := by rw [← show (ByteArray.mk #[44]).toList = [44] from by decide +kernel]; exact hcm
    have hcm' : ((wrd lk).toList == (ByteArray.mk #[44]).toList) = false := by simpa using hcm
    have HC6 := Lib.hid (rtake_no lk ⟨#[44]⟩ w9 B hcm' HP9.out)
    by_cases hcl : ((wrd lk).toList == clo false) = true
    · have HR2 := Lib.hid (show r = .ok (ts ++ [kx]) lk.tail from by rw [HR1.out]; unfold pListL; rw [if_neg hcm44, if_pos hcl])
     have HMU := Lib.hid (fun W (h : PrS W B (.good lk)) => rmust_yes lk ⟨#[41]⟩ W B (by decide +kernel) (by rw [← clo_t]; exact hcl) h)
     clear hcm hcm' hcl hcm44
     go_wp2_with fail
     refine HC6.out.mono ?_
     rintro e w6 ⟨rfl, hk6, hr6⟩
     have HC7 := Lib.hid (HMU.out w6 hr6)
     have HKL := Lib.hid hk6
     clear hk6 hr6 HC6
     go_wp2_with fail
     refine HC7.out.mono ?_
     rintro e w7 ⟨rfl, hk7, hr7⟩
     have HKL7 := Lib.hid (HKL.out.trans hk7)
     have HR7 := Lib.hid hr7
     clear hk7 hr7 HC7
     go_wp2_with fail
     go_ret
     have hown7 := HOWN9.out.kept HKL7.out (.inr (fun h => by have := (HOWN9.out.lt _ h).1; omega))
     have hg7 := row_good (F := F.snoc U) (v := .slice a' (F.len + 1) cap') (by rw [snoc_len, flatF_snoc]; exact hown7) (HKD9.out.from (HKL7.out.from (fun h => absurd h.1 (by omega)))) (by rw [snoc_len]; omega)
     obtain ⟨a2, cap2, hv, hg⟩ := hg7
     have ha : a' = a2 := by injection hv
     subst ha
     refine ⟨a', F.snoc U, cap', by rw [snoc_len]; rfl, HK9.out.trans HKL7.out, ?_⟩
     rw [HR2.out]
     exact ⟨HR7.out, hg, HST9.out⟩
    · have HR2 := Lib.hid (show r = .bad (hd lk).pos 2 from by rw [HR1.out]; unfold pListL; rw [if_neg hcm44, if_neg hcl])
     have HMU := Lib.hid (fun W (h : PrS W B (.good lk)) => rmust_no lk ⟨#[41]⟩ W B (by rw [← clo_t]; simpa using hcl) h)
     clear hcm hcm' hcl hcm44
     go_wp2_with fail
     refine HC6.out.mono ?_
     rintro e w6 ⟨rfl, hk6, hr6⟩
     have HC7 := Lib.hid (HMU.out w6 hr6)
     have HKL := Lib.hid hk6
     clear hk6 hr6 HC6
     go_wp2_with fail
     refine HC7.out.mono ?_
     rintro e w7 ⟨rfl, hk7, hr7⟩
     have HK7 := Lib.hid (HK9.out.trans (HKL.out.trans hk7))
     have HR7 := Lib.hid hr7
     clear hk7 hr7 HC7
     go_wp2_with fail
     go_ret
     refine ⟨a', F.snoc U, cap', by rw [snoc_len]; rfl, HK7.out, ?_⟩
     rw [HR2.out]
     exact HR7.out
set_option maxRecDepth 100000 in
set_option maxHeartbeats 16000000 in
theorem rrowP (f : Nat) (ih : ∀ g, g ≤ f → SayKR true g) (l : List Tok) (w : World) (B : Nat) (hneed : 4 + 20 * l.length ≤ f + 1) (hS : PrS w B (.good l)) :
  Calls Tryz.prog 162 #[.pointer (some ⟨B, 0, none⟩), .string ⟨#[125]⟩, .bool true] w (PostRL B w (pList (f + 1) true l)) := by
 obtain ⟨i0, hi, hz0, hz1, hz2⟩ := info_parts Tryz.infoNode
 have HIF := Lib.hid (And.intro hi (And.intro hz0 (And.intro hz1 hz2)))
 clear hi hz0 hz1 hz2
 have hc5 := cellsNode
 have q3 := tok_f3
 have hB := hS.lt
 have HS := Lib.hid hS
 have HIH := Lib.hid ih
 clear hS ih
 generalize hr : pList (f + 1) true l = r
 by_cases hw : ((wrd l).toList == clo true) = true
 · have hwx : ((wrd l).toList == (⟨#[125]⟩ : ByteArray).toList) = true := by rw [← clo_p]; exact hw
  have HRE : RowKit.Hid (r = .ok [] l.tail) := Lib.hid (by rw [← hr]; unfold pList; rw [if_pos hw])
  have HC := Lib.hid (rtake_yes l ⟨#[125]⟩ w B (by decide +kernel) hwx HS.out)
  clear hr hw hwx
  go_enter Tryz.func162, Tryz.ntmps162
  go_wp2_with fail
  refine HC.out.mono ?_
  rintro e w1 ⟨rfl, hk1, hr1⟩
  go_wp2_with fail
  go_ret
  refine ⟨none, .nil, 0, rfl, hk1, ?_⟩
  rw [HRE.out]
  exact ⟨hr1, fun _ _ _ _ _ => Nd.Good.leaf _ _ _ _ _ _ _ _, rfl⟩
 · have hw' : ((wrd l).toList == (⟨#[125]⟩ : ByteArray).toList) = false := by rw [← clo_p]; simpa using hw
  have HRE0 := Lib.hid (show r = rowH f true [] l from by rw [← hr]; exact rowH_start f true l hw)
  have HC1 := Lib.hid (rtake_no l ⟨#[125]⟩ w B hw' HS.out)
  clear hr hw hw'
  go_enter Tryz.func162, Tryz.ntmps162
  go_wp2_with fail
  refine HC1.out.mono ?_
  rintro e w1 ⟨rfl, hk1, hr1⟩
  have HK1 := Lib.hid hk1
  have HR1 := Lib.hid hr1
  clear hk1 hr1 HC1
  go_wp2_with fail
  go_loopg [7] f (fun gf v7 wx => ∃ (F : Fo) (a : Option Addr) (cap : Nat), v7 = .slice a F.len cap ∧ RowKit.Hid (wx.ownsRow w.heap.size 26 5 (.slice a F.len cap) F.len (flatF F)) ∧ F.len ≤ 6 ∧ RowKit.Hid (Kp B w wx) ∧
   (∃ l ts, PrS wx B (.good l) ∧ (3 + 20 * l.length ≤ gf ∧ gf ≤ f) ∧ RowKit.Hid (F.Kids (fun b => w.heap.size ≤ b ∧ some b ≠ (Value.slice a F.len cap).ownBlock) wx) ∧ RowKit.Hid (F.strip = Fo.ofL ts) ∧ RowKit.Hid (r = rowH gf true ts l)))
  case atStart => exact ⟨.nil, none, 0, rfl, Lib.hid (World.ownsRow_nil _ _ _ _), Nat.zero_le _, HK1, l, [], HR1.out, ⟨by omega, Nat.le_refl _⟩, Lib.hid trivial, Lib.hid rfl, HRE0⟩
  case round =>
   clear HRE0 HK1 HR1
   obtain ⟨F, a, cap, rfl, HOWN, hF6, HK, lx, ts, hrd, ⟨hneed2, hgf⟩, HKD, HST, HRE⟩ := hrel
   obtain ⟨g', rfl⟩ : ∃ g', gk = g' + 1 := ⟨gk - 1, by omega⟩
   have HRD := Lib.hid hrd
   have z2 := hrd.err_g
   clear hrd
   have hlen : F.len = ts.length := by rw [← strip_len, HST.out, ofL_len]
   by_cases h6 : F.len = 6
   · have h6i : ((F.len : Int) == 6) = true := by rw [beq_iff_eq]; omega
    have hts : (ts.length == 6) = true := by rw [← hlen, h6]; rfl
    have HR2 := Lib.hid (show r = .bad (hd lx).pos 2 from by rw [HRE.out]; unfold rowH; rw [if_pos hts])
    have HNW := Lib.hid (rnow_g lx wr B HRD.out)
    clear hts h6 hlen HRE
    go_wp2_with fail
    refine HNW.out.mono ?_
    rintro e w3 ⟨rfl, hb3⟩
    have HF := Lib.hid (rfail_g lx (hd lx).pos 2 w3 B rfl (HRD.out.below hb3))
    have HK3 := Lib.hid (HK.out.below hb3)
    clear hb3 HNW
    go_wp2_with fail
    refine HF.out.mono ?_
    rintro e w4 ⟨rfl, hk4, hr4⟩
    have HK4 := Lib.hid (HK3.out.trans hk4)
    have HR4 := Lib.hid hr4
    clear hk4 hr4 HF HK3
    go_wp2_with fail
    go_ret
    refine ⟨a, F, cap, rfl, HK4.out, ?_⟩
    rw [HR2.out]
    exact HR4.out
   have h6i : ((F.len : Int) == 6) = false := by rw [beq_eq_false_iff_ne]; omega
   have hts : ¬ (ts.length == 6) = true := by rw [← hlen, beq_iff_eq]; exact h6
   obtain ⟨rk', hq⟩ : ∃ rk', pKid (g' + 1) true lx = rk' := ⟨_, rfl⟩
   have HOK2 : RowKit.Hid (∀ k l', rk' = .ok k l' → r = pListL (g' + 1) true (ts ++ [k]) l' ∧ Suf l' lx) := Lib.hid (fun k l' h => ⟨by rw [HRE.out]; unfold rowH; rw [if_neg hts, hq, h], (suf_terms (g' + 1)).2.2.1 _ _ _ _ (hq.trans h)⟩)
   have HBAD2 : RowKit.Hid (∀ a e, rk' = .bad a e → r = .bad a e) := Lib.hid (fun a e h => by rw [HRE.out]; unfold rowH; rw [if_neg hts, hq, h])
   have HKID2 : RowKit.Hid (Calls Tryz.prog 170 #[.pointer (some ⟨B, 0, none⟩), .bool true] wr (PostR B wr rk')) := Lib.hid (by rw [← hq]; exact HIH.out (g' + 1) (by omega) lx wr B (by omega) HRD.out)
   have hF5 : F.len + 1 ≤ 6 := by omega
   clear hts h6 hlen HRE hq
   go_wp2_with fail
   refine HKID2.out.mono ?_
   rintro e w5 ⟨U, rfl, hk5, ho5⟩
   have HKK := Lib.hid hk5
   have HO5 := Lib.hid ho5
   have hzz := HKK.out.size
   have hzw := HK.out.size
   clear hk5 ho5 HKID2
   have hown5 := HOWN.out.kept HKK.out (.inr (fun h => by have := (HOWN.out.lt _ h).1; omega))
   have hlt5 := HOWN.out.lt
   have HOWN5 := Lib.hid hown5
   have HLT := Lib.hid hlt5
   clear hown5 hlt5
   go_wp2_with (at_builtin; refine wpList_append_own_at _ rfl _ _ 24 rfl w.heap.size 26 i0 (.agg #[.string ⟨#[]⟩, .string ⟨#[]⟩, .int .i64 0, .int .i64 0, .slice none 0 0]) 5 72 Tryz.underlying24 HIF.out.1 HIF.out.2.1 HIF.out.2.2.1 HIF.out.2.2.2 rfl (by decide) _ _ _ rfl (HOWN5.out.alloc _) ⟨w5.heap.size, 0, none⟩ 1 1 [.string U.op, .string U.name, .int .i64 U.n, .int .i64 U.pos, .slice U.a U.kids.len U.cap] rfl rfl (cell_five_new _ _ _ _ _ _ _) (fun x hx => by simp at hx; rcases hx with rfl | rfl | rfl | rfl | rfl <;> rfl) (by unfold maxLen; omega) (by omega) (by simp; omega) ?_; intro v' w9 hown9 hgrow9 _ hlie9)
   obtain ⟨a', cap', rfl⟩ := own_form hown9
   have HOWN9 := Lib.hid hown9
   have HGR := Lib.hid hgrow9
   have HLIE := Lib.hid hlie9
   have HK9 := Lib.hid (kp_append ((HK.out.trans HKK.out).alloc _) HGR.out (fun k hk => (HLT.out k hk).1))
   clear hown9 hgrow9 hlie9
   cases rk' with
   | bad pa pe =>
    have hp9 : PrS w9 B (.bad pa pe) := prs_append ((show PrS w5 B (.bad pa pe) from HO5.out).alloc _) HGR.out (fun k hk => by have := (HLT.out k hk).1; omega)
    have HC6 := Lib.hid (rtake_b ⟨#[44]⟩ w9 B pa pe hp9)
    clear hp9
    go_wp2_with fail
    refine HC6.out.mono ?_
    rintro e w6 ⟨rfl, hk6, hr6⟩
    have HC7 := Lib.hid (rmust_b ⟨#[125]⟩ w6 B pa pe hr6)
    have HK6 := Lib.hid (HK9.out.trans hk6)
    clear hk6 hr6 HC6
    go_wp2_with fail
    refine HC7.out.mono ?_
    rintro e w7 ⟨rfl, hk7, hr7⟩
    have HK7 := Lib.hid (HK6.out.trans hk7)
    have HR7 := Lib.hid hr7
    clear hk7 hr7 HC7
    go_wp2_with fail
    go_ret
    refine ⟨a', F.snoc U, cap', by rw [snoc_len]; rfl, HK7.out, ?_⟩
    rw [HBAD2.out pa pe rfl]
    exact HR7.out
   | ok kx lk =>
   obtain ⟨hr5, hg5, hs5⟩ := HO5.out
   obtain ⟨r1, r2⟩ := HOK2.out kx lk rfl
   have hp9 : PrS w9 B (.good lk) := prs_append (hr5.alloc _) HGR.out (fun k hk => by have := (HLT.out k hk).1; omega)
   have hkd := kids_append ((HKD.out.from (HKK.out.from (fun h => absurd h.1 (by omega)))).from (From.alloc _ _ _)) ((hg5.mono (fun b hb => ⟨by omega, fun h => by have := (HLT.out b h.symm).2; omega⟩)).from (From.alloc _ _ _)) HGR.out HLIE.out
   have HKD9 := Lib.hid hkd
   have HST9 : RowKit.Hid ((F.snoc U).strip = Fo.ofL (ts ++ [kx])) := Lib.hid (by rw [← hs5]; exact ofL_snoc ts U F HST.out)
   have HP9 := Lib.hid hp9
   have HR1 := Lib.hid r1
   have HSF := Lib.hid r2
   clear hr5 hg5 hs5 r1 r2 hp9 hkd HOK2 HBAD2 HO5 HKD HST
   by_cases hcm : ((wrd lk).toList == (ByteArray.mk #[44]).toList) = true
   · have hcm44 : ((wrd lk).toList == [44]) = true := by rw [← show (ByteArray.mk #[44]).toList = [44] from by decide +kernel]; exact hcm
    have HRE9 := Lib.hid (show r = rowH g' true (ts ++ [kx]) lk.tail from by rw [HR1.out]; exact rowH_comma g' true _ _ hcm44)
    have hlt2 := (Suf.tail (ne_of_wrd hcm44)).len
    have hlt3 := HSF.out.len
    have HC6 := Lib.hid (rtake_yes lk ⟨#[44]⟩ w9 B (by decide +kernel) hcm HP9.out)
    clear hcm hcm44
    go_wp2_with fail
    refine HC6.out.mono ?_
    rintro e w6 ⟨rfl, hk6, hr6⟩
    have HK6 := Lib.hid (HK9.out.trans hk6)
    have HKL := Lib.hid hk6
    have HR6 := Lib.hid hr6
    clear hk6 hr6 HC6
    go_wp2_with fail
    go_roundg g'
    case rel =>
     have hown6 := HOWN9.out.kept HKL.out (.inr (fun h => by have := (HOWN9.out.lt _ h).1; omega))
     refine ⟨F.snoc U, a', cap', by rw [snoc_len], Lib.hid (by rw [snoc_len, flatF_snoc]; exact hown6), by rw [snoc_len]; omega, HK6, lk.tail, ts ++ [kx], HR6.out, ⟨by omega, by omega⟩, Lib.hid ?_, HST9, HRE9⟩
     rw [snoc_len]
     exact HKD9.out.from (HKL.out.from (fun h => absurd h.1 (by omega)))
    case measure => omega
   · have hcm44 : ¬ ((wrd lk).toList == [44]) = true := by rw [← show (ByteArray.mk #[44]).toList = [44] from by decide +kernel]; exact hcm
    have hcm' : ((wrd lk).toList == (ByteArray.mk #[44]).toList) = false := by simpa using hcm
    have HC6 := Lib.hid (rtake_no lk ⟨#[44]⟩ w9 B hcm' HP9.out)
    by_cases hcl : ((wrd lk).toList == clo true) = true
    · have HR2 := Lib.hid (show r = .ok (ts ++ [kx]) lk.tail from by rw [HR1.out]; unfold pListL; rw [if_neg hcm44, if_pos hcl])
     have HMU := Lib.hid (fun W (h : PrS W B (.good lk)) => rmust_yes lk ⟨#[125]⟩ W B (by decide +kernel) (by rw [← clo_p]; exact hcl) h)
     clear hcm hcm' hcl hcm44
     go_wp2_with fail
     refine HC6.out.mono ?_
     rintro e w6 ⟨rfl, hk6, hr6⟩
     have HC7 := Lib.hid (HMU.out w6 hr6)
     have HKL := Lib.hid hk6
     clear hk6 hr6 HC6
     go_wp2_with fail
     refine HC7.out.mono ?_
     rintro e w7 ⟨rfl, hk7, hr7⟩
     have HKL7 := Lib.hid (HKL.out.trans hk7)
     have HR7 := Lib.hid hr7
     clear hk7 hr7 HC7
     go_wp2_with fail
     go_ret
     have hown7 := HOWN9.out.kept HKL7.out (.inr (fun h => by have := (HOWN9.out.lt _ h).1; omega))
     have hg7 := row_good (F := F.snoc U) (v := .slice a' (F.len + 1) cap') (by rw [snoc_len, flatF_snoc]; exact hown7) (HKD9.out.from (HKL7.out.from (fun h => absurd h.1 (by omega)))) (by rw [snoc_len]; omega)
     obtain ⟨a2, cap2, hv, hg⟩ := hg7
     have ha : a' = a2 := by injection hv
     subst ha
     refine ⟨a', F.snoc U, cap', by rw [snoc_len]; rfl, HK9.out.trans HKL7.out, ?_⟩
     rw [HR2.out]
     exact ⟨HR7.out, hg, HST9.out⟩
    · have HR2 := Lib.hid (show r = .bad (hd lk).pos 2 from by rw [HR1.out]; unfold pListL; rw [if_neg hcm44, if_neg hcl])
     have HMU := Lib.hid (fun W (h : PrS W B (.good lk)) => rmust_no lk ⟨#[125]⟩ W B (by rw [← clo_p]; simpa using hcl) h)
     clear hcm hcm' hcl hcm44
     go_wp2_with fail
     refine HC6.out.mono ?_
     rintro e w6 ⟨rfl, hk6, hr6⟩
     have HC7 := Lib.hid (HMU.out w6 hr6)
     have HKL := Lib.hid hk6
     clear hk6 hr6 HC6
     go_wp2_with fail
     refine HC7.out.mono ?_
     rintro e w7 ⟨rfl, hk7, hr7⟩
     have HK7 := Lib.hid (HK9.out.trans (HKL.out.trans hk7))
     have HR7 := Lib.hid hr7
     clear hk7 hr7 HC7
     go_wp2_with fail
     go_ret
     refine ⟨a', F.snoc U, cap', by rw [snoc_len]; rfl, HK7.out, ?_⟩
     rw [HR2.out]
     exact HR7.out
end Go.Proofs.YtmpcmpeloebnhaaGreatDoor
