/- What word of sibylref2 answers: whether the words of the language have a text; what keeps the reader as it is. -/
import Derived.Test.YtpdlnpllhjcejaaDoorRefSkip
import Derived.Test.YtpdlnpllhjcejaaDoorLexNum
import Derived.Test.YtpdlnpllhjcejaaDoorLexPure2
import Derived.Test.YtpdlnpllhjcejaaDoorRows
import Derived.WalkKit
import Derived.WalkLawsBesides
import Derived.WalkSpells
import Derived.ProofKit
import Derived.Outline
import Derived.Deep.QuietTactic
import Derived.BigQuiet
import Derived.Deep.Light
import Derived.Deep.CutBlock
import Derived.Deep.DeepCutAuto
import Derived.Deep.DeepFit
import Derived.Deep.LoopGhost
import Derived.Lib.Hide
import Derived.Lib.OthersKept
import Derived.IntWalk
import Derived.StillTailTactics
namespace Go.Proofs.YtpdlnpllhjcejaaDoor
open Go.RowKit
theorem own_grown {w w' : World} {B e size n : Nat} {v : Value} {xs : List Value} {R : Nat} (h : w.ownsRow B e size v n xs) (hg : w.grownBy w' (some R)) (hR : R < B) : w'.ownsRow B e size v n xs := by
  obtain ⟨h1, h2⟩ := h
  refine ⟨h1, ?_⟩
  rcases h2 with h2 | ⟨g, cap, cur, a, b, c, d⟩
  · exact .inl h2
  · exact .inr ⟨g, cap, cur, a, b, by rw [hg.block g (lt_of_block c) (fun e => by cases e; omega)]; exact c, d⟩
theorem RS.grown {w w' : World} {R : Nat} {s : ByteArray} {lv : Value} {L : RL} {bad : Int} {i j : Nat} (h : RS w R s lv L bad i) (hg : w.grownBy w' (some R)) (hd : Rd w' R s lv bad j) (hj : j ≤ L.length) : RS w' R s lv L bad j :=
  ⟨hd, own_grown h.row hg (by omega), hj, h.sz⟩
theorem rd_other {w : World} {R : Nat} {s : ByteArray} {lv : Value} {bad i : Int} (h : Rd w R s lv bad i) (a : Addr) (ha : R ≠ a.block) (v : Value) : Rd (w.setCell a v) R s lv bad i := by
  unfold Rd at *
  rw [heap_setCell_other w a R v ha]; exact h
theorem rd_set {w : World} {R : Nat} {s : ByteArray} {lv : Value} {bad i : Int} (h : Rd w R s lv bad i) (j : Int) : Rd (w.setCell ⟨R, 3, none⟩ (.int .i64 j)) R s lv bad j :=
  heap_setCell_same w R 3 _ _ (.int .i64 j) h
theorem rd_alloc {w : World} {R : Nat} {s : ByteArray} {lv : Value} {bad i : Int} (h : Rd w R s lv bad i) (o : Obj) : Rd (w.alloc o) R s lv bad i :=
  h.below ((Below.refl _ _).alloc (Nat.le_refl _) _)
theorem grown_new {w w' : World} {r : Option Nat} (h : w.grownBy w' r) (a : Addr) (ha : w.heap.size ≤ a.block) (v : Value) : w.grownBy (w'.setCell a v) r :=
  ⟨h.os, h.tape, h.output, by have := h.size; simp; exact this, fun k hk hne => by rw [heap_setCell_other w' a k v (by omega)]; exact h.block k hk hne⟩
theorem grown_alloc {w w' : World} {r : Option Nat} (h : w.grownBy w' r) (o : Obj) : w.grownBy (w'.alloc o) r :=
  h.trans (grown_of_below ((Below.refl _ _).alloc (Nat.le_refl _) _) r)
theorem grown_dn {w w' : World} {r : Option Nat} (h : w.grownBy w' r) (n : Nat) : w.grownBy (w'.drewN n) r := h.trans (grown_of_below (below_dn _ _) r)
theorem grown_R {w w' : World} {R : Nat} (h : w.grownBy w' (some R)) (o : Nat) (v : Value) : w.grownBy (w'.setCell ⟨R, o, none⟩ v) (some R) :=
  ⟨h.os, h.tape, h.output, by have := h.size; simp; exact this, fun k hk hne => by rw [heap_setCell_other w' _ k v (fun e => hne (by simp [e]))]; exact h.block k hk hne⟩

theorem refwords_any (w : World) :
    Calls Tryd.prog 89 #[] w fun e w' => e = .returned (wrdsV w.heap.size) ∧ w' = w.alloc (.cells wrdsCells 9) := by
  go_enter Tryd.func89, Tryd.ntmps89
  go_wp2
  go_ret
  exact ⟨rfl, rfl⟩
theorem isWrd_at (t : ByteArray) (k : Nat) (hk : k < wrds.length) : ((wrds.drop k).any fun x => x.data.toList == t.data.toList) = ((wrds[k]'hk).data.toList == t.data.toList || ((wrds.drop (k + 1)).any fun x => x.data.toList == t.data.toList)) := by
  have : wrds.drop k = wrds[k]'hk :: wrds.drop (k + 1) := List.drop_eq_getElem_cons hk
  rw [this, List.any_cons]
set_option maxRecDepth 100000 in
set_option maxHeartbeats 2000000 in
theorem refword_any (t : ByteArray) (w : World) :
    Calls Tryd.prog 82 #[.string t] w fun e w' => e = .returned (.bool (isWrd t)) ∧ Below w.heap.size w w' := by
  go_enter Tryd.func82, Tryd.ntmps82
  go_wp2_with fail
  refine (refwords_any _).mono ?_
  rintro e w1 ⟨rfl, rfl⟩
  have hc := wrds_cells w
  have HC := Lib.hid hc
  clear hc
  obtain ⟨W, hW⟩ : ∃ W, W = w.alloc (.cells wrdsCells 9) := ⟨_, rfl⟩
  have hbW : Below w.heap.size w W := by rw [hW]; exact (Below.refl _ _).alloc (Nat.le_refl _) _
  rw [← hW]
  have HW := Lib.hid hW
  clear hW
  unfold wrdsV
  go_wp2
  go_loop [4] (fun i => ∃ k : Nat, i = .int .i64 k ∧ k ≤ 17 ∧ Hid (isWrd t = (wrds.drop k).any fun x => x.data.toList == t.data.toList)) (fun i => 17 - (intOf i).toNat)
  case atStart => exact ⟨0, rfl, by omega, (rfl : isWrd t = _)⟩
  case round =>
    obtain ⟨k, rfl, hk, HK⟩ := hrel
    by_cases hlt : k < 17
    · have c0 : W.cell? ⟨w.heap.size, k, none⟩ = some (.string (wrds.getD k ByteArray.empty)) := by rw [HW.out]; exact HC.out k hlt
      rw [show wrds.getD k ByteArray.empty = wrds[k]'hlt by rw [List.getD_eq_getElem?_getD, List.getElem?_eq_getElem hlt]; rfl] at c0
      have hk1 := isWrd_at t k hlt
      generalize (wrds[k]'hlt) = x at c0 hk1
      by_cases he : x.data.toList = t.data.toList
      · have hr : isWrd t = true := by rw [HK.out, hk1, beq_iff_eq.2 he]; rfl
        obtain rfl : x = t := ByteArray.ext (Array.ext' he)
        have HR := Lib.hid hr
        clear hk1 HK he hr
        go_wp2
        go_ret
        exact ⟨ret_bool HR.out.symm, hbW⟩
      · have hr : isWrd t = (wrds.drop (k + 1)).any fun x => x.data.toList == t.data.toList := by
          rw [HK.out, hk1, beq_eq_false_iff_ne.2 he]; rfl
        have HR := Lib.hid hr
        have he2 : ¬ x.toList = t.toList := by rw [Lib.toList_data, Lib.toList_data]; exact he
        have he3 : (x.toList == t.toList) = false := by rw [beq_eq_false_iff_ne]; exact he2
        clear hk1 HK he hr
        go_wp2
        go_round
        case rel => exact ⟨k + 1, by go_num, by omega, HR.out⟩
        case measure => simp [intOf]; omega
    · have hr : isWrd t = false := by rw [HK.out, List.drop_of_length_le (by show wrds.length ≤ k; exact Nat.not_lt.1 hlt)]; rfl
      have HR := Lib.hid hr
      clear HK hr
      go_wp2
      go_ret
      exact ⟨ret_bool HR.out.symm, hbW⟩
theorem blk_other {w : World} {B : Nat} {a b c d : Value} (h : Blk4 w B a b c d) (x : Addr) (hx : B ≠ x.block) (v : Value) : Blk4 (w.setCell x v) B a b c d := by
  unfold Blk4 at *
  rw [heap_setCell_other w x B v hx]; exact h
theorem blk_set0 {w : World} {B : Nat} {a b c d : Value} (h : Blk4 w B a b c d) (v : Value) : Blk4 (w.setCell ⟨B, 0, none⟩ v) B v b c d := heap_setCell_same w B 0 _ _ v h
theorem blk_set1 {w : World} {B : Nat} {a b c d : Value} (h : Blk4 w B a b c d) (v : Value) : Blk4 (w.setCell ⟨B, 1, none⟩ v) B a v c d := heap_setCell_same w B 1 _ _ v h
theorem blk_set2 {w : World} {B : Nat} {a b c d : Value} (h : Blk4 w B a b c d) (v : Value) : Blk4 (w.setCell ⟨B, 2, none⟩ v) B a b v d := heap_setCell_same w B 2 _ _ v h
end Go.Proofs.YtpdlnpllhjcejaaDoor
