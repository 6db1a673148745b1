/- Parts of the proof: GRefBR GIsR LexB LexSign LexLead. -/
import Derived.Test.YtmpcmpeloebnhaaGreatDoorKP05
import Derived.Test.YtmpcmpeloebnhaaGreatDoorKP00
import Derived.Test.YtmpcmpeloebnhaaGreatDoorRows
import Derived.Test.YtmpcmpeloebnhaaGreatDoorKP01
import Derived.WalkKit
import Derived.WalkLawsBesides
import Derived.WalkSpells
import Derived.ProofKit
import Derived.Outline
import Derived.Deep.QuietTactic
import Derived.BigQuiet
import Derived.Deep.Light
import Derived.Deep.CutBlock
import Derived.Deep.DeepCutAuto
import Derived.Deep.DeepFit
import Derived.Deep.LoopGhost
import Derived.Lib.Hide
import Derived.Lib.OthersKept
import Derived.IntWalk
import Derived.StillTailTactics
namespace Go.Proofs.YtmpcmpeloebnhaaGreatDoor
open Go.RowKit
theorem fit_plain (name : ByteArray) (n m : Int) (len : Nat) (all : Bool) : fitB false name 0 0 n m m len all = (hasB name n len m false false && all) := by
 unfold fitB hasB
 have h1 : (decide (0 ≤ n) && decide (n ≤ 0)) = decide (n = 0) := by
  by_cases h : n = 0
  ·subst h; rfl
  ·rw [decide_eq_false h]
   by_cases h2 : 0 ≤ n
   ·rw [show decide (n ≤ 0) = false from decide_eq_false (by omega), Bool.and_false]
   ·rw [decide_eq_false h2, Bool.false_and]
 have h2 : (decide (m ≤ (len : Int)) && decide ((len : Int) ≤ m)) = decide ((len : Int) = m) := by
  by_cases h : (len : Int) = m
  ·rw [decide_eq_true h, decide_eq_true (by omega), decide_eq_true (by omega)]; rfl
  ·rw [decide_eq_false h]
   by_cases h2 : m ≤ (len : Int)
   ·rw [show decide ((len : Int) ≤ m) = false from decide_eq_false (by omega), Bool.and_false]
   ·rw [decide_eq_false h2, Bool.false_and]
 rw [h1, Bool.and_assoc (decide (n = 0)), h2]
 cases (name.toList == []) <;> cases decide (n = 0) <;> cases decide ((len : Int) = m) <;> cases all <;> rfl
theorem fit_named (name : ByteArray) (n m : Int) (len : Nat) (all : Bool) : fitB true name 0 0 n m m len all = (hasB name n len m true false && all) := by
 have h := fit_plain name n m len all
 have e : fitB true name 0 0 n m m len all = (nameB name && (fitB false ⟨#[]⟩ 0 0 n m m len all)) := by unfold fitB; simp [Bool.and_assoc]
 have e2 : hasB name n len m true false = (nameB name && hasB ⟨#[]⟩ n len m false false) := by
  have hz : ((⟨#[]⟩ : ByteArray).toList == []) = true := by rw [ByteArray.toList_eq]; rfl
  unfold hasB
  rw [hz]
  cases nameB name <;> cases decide (n = 0) <;> cases decide ((len : Int) = m) <;> rfl
 rw [e, e2, fit_plain, Bool.and_assoc]
theorem fit_call (name : ByteArray) (n : Int) (len : Nat) (all nm : Bool) : fitB nm name 0 0 n 0 6 len all = (hasB name n len len nm false && decide ((len : Int) ≤ 6) && all) := by
 unfold fitB hasB
 have h1 : (decide (0 ≤ n) && decide (n ≤ 0)) = decide (n = 0) := by
  by_cases h : n = 0
  ·subst h; rfl
  ·rw [decide_eq_false h]
   by_cases h2 : 0 ≤ n
   ·rw [show decide (n ≤ 0) = false from decide_eq_false (by omega), Bool.and_false]
   ·rw [decide_eq_false h2, Bool.false_and]
 rw [h1, show decide ((0 : Int) ≤ (len : Int)) = true from decide_eq_true (by omega), show decide ((len : Int) = (len : Int)) = true from decide_eq_true rfl]
 cases nm <;> cases nameB name <;> cases (name.toList == []) <;> cases decide (n = 0) <;> cases decide ((len : Int) ≤ 6) <;> cases all <;> rfl
theorem fit_num (name : ByteArray) (n ln mn m : Int) (len : Nat) (all : Bool) : fitB false name ln mn n m m len all = (hasB name n len m false true && decide (ln ≤ n) && decide (n ≤ mn) && all) := by
 unfold fitB hasB
 have h2 : (decide (m ≤ (len : Int)) && decide ((len : Int) ≤ m)) = decide ((len : Int) = m) := by
  by_cases h : (len : Int) = m
  ·rw [decide_eq_true h, decide_eq_true (by omega), decide_eq_true (by omega)]; rfl
  ·rw [decide_eq_false h]
   by_cases h2 : m ≤ (len : Int)
   ·rw [show decide ((len : Int) ≤ m) = false from decide_eq_false (by omega), Bool.and_false]
   ·rw [decide_eq_false h2, Bool.false_and]
 rw [Bool.and_assoc (decide (ln ≤ n) && decide (n ≤ mn)), h2]
 cases (name.toList == []) <;> cases decide (ln ≤ n) <;> cases decide (n ≤ mn) <;> cases decide ((len : Int) = m) <;> cases all <;> rfl
def notSet (T : Nd) : Bool := !(T.op.toList == [115, 101, 116]) && !isJoin T.op
theorem sorts_plain (F : Fo) : F.sorts.n = (F.allB notSet && F.sorts.t) := by
 induction F with
 | nil => rfl
 | cons op name n pos a cap kids rest ihk ihr =>
  show (!(op.toList == [115, 101, 116]) && !isJoin op && _ && rest.sorts.n) = ((!(op.toList == [115, 101, 116]) && !isJoin op && rest.allB notSet) && (_ && rest.sorts.t))
  rw [ihr]
  cases (op.toList == [115, 101, 116]) <;> cases isJoin op <;> cases rest.allB notSet <;> cases rest.sorts.t <;> simp
set_option maxRecDepth 100000 in
set_option maxHeartbeats 64000000 in
theorem rterm_of (T : Nd) (hkT : Fo.All SayRT T.kids) : SayRT T := by
 intro w hU hin hsz
 have hTm := fun W h1 h2 => terms_any T W h1 h2 hsz hkT
 have hns := hsz.1
 have hks := hsz.2
 obtain ⟨op, name, n, pos, a, cap, kids⟩ := T
 have hc5 := cellsNode
 have hns : name.size ≤ 140737488351232 := hns
 have hTm : ∀ W, UT W → Nd.In W ⟨op, name, n, pos, a, cap, kids⟩ → Calls Tryz.prog 77 #[.agg #[.string op, .string name, .int .i64 n, .int .i64 pos, .slice a kids.len cap]] W fun e w' => e = .returned (.bool kids.sorts.t) ∧ Below W.heap.size W w' := hTm
 have HTM := Lib.hid hTm
 have HU := Lib.hid hU
 have HI := Lib.hid hin
 have HK := Lib.hid hkT
 have HKS := Lib.hid hks
 have HB := Lib.hid (new_at w (boxOf op name n pos a kids.len cap))
 have HZ := Lib.hid (lt_heap HB.out)
 have hh := fun m nm num W hb => rhas_any op name n pos a kids.len cap m nm num W (Utf8Tabs_below hU (hb : Below w.heap.size w W)) hns
 have HH := Lib.hid hh
 show Calls _ _ _ w fun e w' => e = .returned (.bool (stepT op name n kids.len kids.sorts.t kids.sorts.v kids.sorts.n kids.second)) ∧ _
 clear hkT hTm hU hin hh hsz hns hks
 rw [Nd.val_def]
 by_cases o1 : op.toList = [118, 97, 114]
 ·have e1 : (op.toList == [118, 97, 114]) = true := by simp [o1]
  have HR : RowKit.Hid (stepT op name n kids.len kids.sorts.t kids.sorts.v kids.sorts.n kids.second = (hasB name n kids.len 0 true false && true)) := Lib.hid (by unfold stepT; rw [e1]; exact fit_named name n 0 kids.len true)
  clear o1
  have hcall := HH.out 0 true false (w.alloc (boxOf op name n pos a kids.len cap)) (below_box _ _)
  generalize hhv : hasB name n kids.len 0 true false = hv at hcall
  have HV := Lib.hid hhv
  have HC := Lib.hid hcall
  clear hcall hhv
  go_enter Tryz.func53, Tryz.ntmps53
  go_wp2_with fail
  refine HC.out.mono ?_
  rintro e w2 ⟨rfl, hb2⟩
  have hbb := box_then hb2
  clear hb2 HC
  go_wp2_with fail
  go_ret
  exact ⟨by rw [HR.out, HV.out, Bool.and_true]; rfl, hbb⟩
 have e1 : (op.toList == [118, 97, 114]) = false := by simp [o1]
 clear o1
 by_cases o2 : op.toList = [110, 117, 109]
 ·have e2 : (op.toList == [110, 117, 109]) = true := by simp [o2]
  have HR : RowKit.Hid (stepT op name n kids.len kids.sorts.t kids.sorts.v kids.sorts.n kids.second = (hasB name n kids.len 0 false true && decide (0 ≤ n) && decide (n ≤ 99) && true)) := Lib.hid (by unfold stepT; rw [e1, e2]; exact fit_num name n 0 99 0 kids.len true)
  clear o2
  have hcall := HH.out 0 false true (w.alloc (boxOf op name n pos a kids.len cap)) (below_box _ _)
  generalize hhv : hasB name n kids.len 0 false true = hv at hcall
  have HV := Lib.hid hhv
  have HC := Lib.hid hcall
  clear hcall hhv
  cases hv with
  | false =>
   have HR2 := HR.out
   rw [HV.out] at HR2
   have HR := Lib.hid HR2
   clear HR2
   go_enter Tryz.func53, Tryz.ntmps53
   go_wp2_with fail
   refine HC.out.mono ?_
   rintro e w2 ⟨rfl, hb2⟩
   have hbb := box_then hb2
   clear hb2 HC
   go_wp2_with fail
   go_ret
   exact ⟨by rw [HR.out]; rfl, hbb⟩
  | true =>
   by_cases t1 : 0 ≤ n
   case neg =>
    have HQ1 := Lib.hid (show decide (0 ≤ n) = false from decide_eq_false t1)
    go_enter Tryz.func53, Tryz.ntmps53
    go_wp2_with fail
    refine HC.out.mono ?_
    rintro e w2 ⟨rfl, hb2⟩
    have hbb := box_then hb2
    obtain ⟨b0, b1, b2, b3, b4⟩ := box_cells (show w2.heap[w.heap.size]? = _ from (hb2.block _ HZ.out).trans HB.out)
    clear hb2 HC
    go_wp2_with fail
    go_ret
    exact ⟨by rw [HR.out, HV.out, HQ1.out]; rfl, hbb⟩
   have HQ1 := Lib.hid (show decide (0 ≤ n) = true from decide_eq_true t1)
   by_cases t2 : n ≤ 99
   case neg =>
    have HQ2 := Lib.hid (show decide (n ≤ 99) = false from decide_eq_false t2)
    go_enter Tryz.func53, Tryz.ntmps53
    go_wp2_with fail
    refine HC.out.mono ?_
    rintro e w2 ⟨rfl, hb2⟩
    have hbb := box_then hb2
    obtain ⟨b0, b1, b2, b3, b4⟩ := box_cells (show w2.heap[w.heap.size]? = _ from (hb2.block _ HZ.out).trans HB.out)
    clear hb2 HC
    go_wp2_with fail
    go_ret
    exact ⟨by rw [HR.out, HV.out, HQ1.out, HQ2.out]; rfl, hbb⟩
   have HQ2 := Lib.hid (show decide (n ≤ 99) = true from decide_eq_true t2)
   go_enter Tryz.func53, Tryz.ntmps53
   go_wp2_with fail
   refine HC.out.mono ?_
   rintro e w2 ⟨rfl, hb2⟩
   have hbb := box_then hb2
   obtain ⟨b0, b1, b2, b3, b4⟩ := box_cells (show w2.heap[w.heap.size]? = _ from (hb2.block _ HZ.out).trans HB.out)
   clear hb2 HC
   go_wp2_with fail
   go_ret
   exact ⟨by rw [HR.out, HV.out, HQ1.out, HQ2.out]; rfl, hbb⟩
 have e2 : (op.toList == [110, 117, 109]) = false := by simp [o2]
 clear o2
 by_cases o3 : op.toList = [112, 108, 117, 115]
 ·have e3 : (op.toList == [112, 108, 117, 115]) = true := by simp [o3]
  have HR : RowKit.Hid (stepT op name n kids.len kids.sorts.t kids.sorts.v kids.sorts.n kids.second = (hasB name n kids.len 1 false true && decide (1 ≤ n) && decide (n ≤ 99) && kids.sorts.v)) := Lib.hid (by unfold stepT; rw [e1, e2, e3]; exact fit_num name n 1 99 1 kids.len kids.sorts.v)
  clear o3
  have hcall := HH.out 1 false true (w.alloc (boxOf op name n pos a kids.len cap)) (below_box _ _)
  generalize hhv : hasB name n kids.len 1 false true = hv at hcall
  have HV := Lib.hid hhv
  have HC := Lib.hid hcall
  clear hcall hhv
  cases hv with
  | false =>
   have HR2 := HR.out
   rw [HV.out] at HR2
   have HR := Lib.hid HR2
   clear HR2
   go_enter Tryz.func53, Tryz.ntmps53
   go_wp2_with fail
   refine HC.out.mono ?_
   rintro e w2 ⟨rfl, hb2⟩
   have hbb := box_then hb2
   clear hb2 HC
   go_wp2_with fail
   go_ret
   exact ⟨by rw [HR.out]; rfl, hbb⟩
  | true =>
   by_cases t1 : 1 ≤ n
   case neg =>
    have HQ1 := Lib.hid (show decide (1 ≤ n) = false from decide_eq_false t1)
    go_enter Tryz.func53, Tryz.ntmps53
    go_wp2_with fail
    refine HC.out.mono ?_
    rintro e w2 ⟨rfl, hb2⟩
    have hbb := box_then hb2
    obtain ⟨b0, b1, b2, b3, b4⟩ := box_cells (show w2.heap[w.heap.size]? = _ from (hb2.block _ HZ.out).trans HB.out)
    clear hb2 HC
    go_wp2_with fail
    go_ret
    exact ⟨by rw [HR.out, HV.out, HQ1.out]; rfl, hbb⟩
   have HQ1 := Lib.hid (show decide (1 ≤ n) = true from decide_eq_true t1)
   by_cases t2 : n ≤ 99
   case neg =>
    have HQ2 := Lib.hid (show decide (n ≤ 99) = false from decide_eq_false t2)
    go_enter Tryz.func53, Tryz.ntmps53
    go_wp2_with fail
    refine HC.out.mono ?_
    rintro e w2 ⟨rfl, hb2⟩
    have hbb := box_then hb2
    obtain ⟨b0, b1, b2, b3, b4⟩ := box_cells (show w2.heap[w.heap.size]? = _ from (hb2.block _ HZ.out).trans HB.out)
    clear hb2 HC
    go_wp2_with fail
    go_ret
    exact ⟨by rw [HR.out, HV.out, HQ1.out, HQ2.out]; rfl, hbb⟩
   have HQ2 := Lib.hid (show decide (n ≤ 99) = true from decide_eq_true t2)
   have hlen : kids.len = 1 := by
    have h := HV.out
    unfold hasB at h
    simp only [Bool.and_eq_true, decide_eq_true_eq] at h
    omega
   have HL := Lib.hid hlen
   clear hlen
   obtain ⟨kb, ko, hab, hlim, hpos, hkin⟩ : ∃ b o, a = some ⟨b, o, none⟩ ∧ kids.len ≤ 140737488351232 ∧ (0 < kids.len ∧ w.frozen? ⟨b, o, none⟩ = false) ∧ kids.In w b o := by
    rcases HI.out with h | h
    ·have h' : kids = .nil := h
     have := HL.out
     rw [h'] at this
     cases this
    ·exact h
   subst hab
   obtain ⟨op1, name1, n1, pos1, a1, cap1, kids1, hkk⟩ : ∃ op1 name1 n1 pos1 a1 cap1 kids1, kids = .cons op1 name1 n1 pos1 a1 cap1 kids1 .nil := by
    have h2 := HL.out
    cases kids with
    | nil => cases h2
    | cons op1 name1 n1 pos1 a1 cap1 kids1 r =>
     cases r with
     | nil => exact ⟨_, _, _, _, _, _, _, rfl⟩
     | cons => simp [Fo.len] at h2
   have hn1 : NodeAt w kb ko op1 name1 n1 pos1 a1 kids1.len cap1 ∧ Nd.In w ⟨op1, name1, n1, pos1, a1, cap1, kids1⟩ ∧ SayRT ⟨op1, name1, n1, pos1, a1, cap1, kids1⟩ ∧ Nd.sized ⟨op1, name1, n1, pos1, a1, cap1, kids1⟩ := by
    have h1 := HK.out
    have h2 := HKS.out
    have h1 : Fo.All SayRT kids := h1
    have h2 : kids.sized := h2
    rw [hkk] at hkin h1 h2
    exact ⟨hkin.1, hkin.2.1, h1.1, h2.1, h2.2.1⟩
   have HV1 : RowKit.Hid (kids.sorts.v = ((op1.toList == [118, 97, 114]) && Nd.okT ⟨op1, name1, n1, pos1, a1, cap1, kids1⟩)) := Lib.hid (by rw [hkk, sorts_v]; show ((_ && _) && true) = _; rw [Bool.and_true])
   have HN1 := Lib.hid hn1
   clear hkin hkk hn1 hpos
   by_cases ov : op1.toList = [118, 97, 114]
   case neg =>
    have ev : (op1.toList == [118, 97, 114]) = false := by simp [ov]
    have HR3 := Lib.hid (show stepT op name n kids.len kids.sorts.t kids.sorts.v kids.sorts.n kids.second = false from by rw [HR.out, HV1.out, ev]; simp)
    clear ov
    go_enter Tryz.func53, Tryz.ntmps53
    go_wp2_with fail
    refine HC.out.mono ?_
    rintro e w2 ⟨rfl, hb2⟩
    have hbb := box_then hb2
    obtain ⟨b0, b1, b2, b3, b4⟩ := box_cells (show w2.heap[w.heap.size]? = _ from (hb2.block _ HZ.out).trans HB.out)
    obtain ⟨c0, c1, c2, c3, c4⟩ := HN1.out.1.below hbb
    rw [HL.out] at b4
    clear hb2 HC
    go_wp2_with fail
    go_ret
    exact ⟨by rw [HR3.out]; rfl, hbb⟩
   have ev : (op1.toList == [118, 97, 114]) = true := by simp [ov]
   have HR3 := Lib.hid (show stepT op name n kids.len kids.sorts.t kids.sorts.v kids.sorts.n kids.second = Nd.okT ⟨op1, name1, n1, pos1, a1, cap1, kids1⟩ from by rw [HR.out, HV1.out, ev, HV.out, HQ1.out, HQ2.out]; rfl)
   clear ov
   go_enter Tryz.func53, Tryz.ntmps53
   go_wp2_with fail
   refine HC.out.mono ?_
   rintro e w2 ⟨rfl, hb2⟩
   have hbb := box_then hb2
   obtain ⟨b0, b1, b2, b3, b4⟩ := box_cells (show w2.heap[w.heap.size]? = _ from (hb2.block _ HZ.out).trans HB.out)
   obtain ⟨c0, c1, c2, c3, c4⟩ := HN1.out.1.below hbb
   rw [HL.out] at b4
   have hcall := HN1.out.2.2.1 w2 (Utf8Tabs_below HU.out hbb) (HN1.out.2.1.below hbb) HN1.out.2.2.2
   rw [Nd.val_def] at hcall
   have HC2 := Lib.hid hcall
   clear hb2 HC hcall
   go_wp2_with fail
   refine HC2.out.mono ?_
   rintro e w3 ⟨rfl, hb3⟩
   have hb4 := hbb.trans (hb3.mono hbb.size)
   clear hb3 HC2
   go_wp2_with fail
   go_ret
   exact ⟨by rw [HR3.out]; rfl, hb4⟩
 have e3 : (op.toList == [112, 108, 117, 115]) = false := by simp [o3]
 clear o3
 by_cases o4 : op.toList = [115, 101, 116]
 ·have e4 : (op.toList == [115, 101, 116]) = true := by simp [o4]
  have HR : RowKit.Hid (stepT op name n kids.len kids.sorts.t kids.sorts.v kids.sorts.n kids.second = (hasB name n kids.len kids.len false false && decide ((kids.len : Int) ≤ 6) && (kids.allB notSet && kids.sorts.t))) := Lib.hid (by unfold stepT; rw [e1, e2, e3, e4]; exact (fit_call name n kids.len kids.sorts.n false).trans (by rw [sorts_plain]))
  clear o4
  rcases HI.out with hnil | ⟨kb, ko, hab, hlim, hpos, hkin⟩
  ·obtain rfl : kids = .nil := hnil
   have hz0 : ¬ ((0 : Int) < ((Fo.nil.len : Nat) : Int)) := by show ¬ ((0 : Int) < ((0 : Nat) : Int)); omega
   go_enter Tryz.func53, Tryz.ntmps53
   go_wp2_with fail
   go_loopw [3] (fun i wr => i = .int .i64 0 ∧ RowKit.Hid (wr.heap[w.heap.size]? = some (boxOf op name n pos a Fo.nil.len cap)) ∧ Below w.heap.size w wr) (fun _ _ => 0)
   case atStart => exact ⟨rfl, HB, below_box _ _⟩
   case round =>
    obtain ⟨rfl, HX, hbx⟩ := hrel
    obtain ⟨b0, b1, b2, b3, b4⟩ := box_cells HX.out
    have HALL : RowKit.Hid (Fo.nil.allB notSet = true) := Lib.hid rfl
    have hbW := hbx
    by_cases hvv : hasB name n Fo.nil.len Fo.nil.len false false = true
    case neg =>
     have hvf : hasB name n Fo.nil.len Fo.nil.len false false = false := by simpa using hvv
     have HR3 := Lib.hid (show stepT op name n Fo.nil.len Fo.nil.sorts.t Fo.nil.sorts.v Fo.nil.sorts.n Fo.nil.second = false from by rw [HR.out, hvf]; rfl)
     have hcall := HH.out Fo.nil.len false false wr hbx
     rw [hvf] at hcall
     have HC := Lib.hid hcall
     clear hcall hvv hvf
     go_wp2_with fail
     refine HC.out.mono ?_
     rintro e w2 ⟨rfl, hb2⟩
     have hbb := hbx.trans (hb2.mono hbx.size)
     clear hb2 HC
     go_wp2_with fail
     go_ret
     exact ⟨by rw [HR3.out]; rfl, hbb⟩
    have hcall := HH.out Fo.nil.len false false wr hbx
    rw [hvv] at hcall
    have HVV := Lib.hid hvv
    have HC := Lib.hid hcall
    clear hcall hvv
    have h6 : (Fo.nil.len : Int) ≤ 6 := by show ((0 : Nat) : Int) ≤ 6; omega
    have HR3 := Lib.hid (show stepT op name n Fo.nil.len Fo.nil.sorts.t Fo.nil.sorts.v Fo.nil.sorts.n Fo.nil.second = Fo.nil.sorts.t from by rw [HR.out, HVV.out, decide_eq_true h6, HALL.out]; rfl)
    go_wp2_with fail
    refine HC.out.mono ?_
    rintro e w2 ⟨rfl, hb2⟩
    have hbb := hbx.trans (hb2.mono hbx.size)
    clear b0 b1 b2 b3 b4
    obtain ⟨b0, b1, b2, b3, b4⟩ := box_cells (show w2.heap[w.heap.size]? = _ from (hb2.block _ (lt_heap HX.out)).trans HX.out)
    have HC2 := Lib.hid (HTM.out w2 (Utf8Tabs_below HU.out hbb) (HI.out.below hbb))
    clear hb2 HC
    go_wp2_with fail
    refine HC2.out.mono ?_
    rintro e w3 ⟨rfl, hb3⟩
    have hb4 := hbb.trans (hb3.mono hbb.size)
    clear hb3 HC2
    go_wp2_with fail
    go_ret
    exact ⟨by rw [HR3.out]; rfl, hb4⟩
  ·obtain rfl : a = some ⟨kb, ko, none⟩ := hab
   have hlim : kids.len ≤ 140737488351232 := hlim
   have HST := Lib.hid (Tail.start hkin HK.out)
   clear hkin hpos
   go_enter Tryz.func53, Tryz.ntmps53
   go_wp2_with fail
   go_loopw [3] (fun i wr => ∃ (k : Nat) (R : Fo), i = .int .i64 k ∧ RowKit.Hid (Tail wr SayRT kids R kb ko k) ∧ RowKit.Hid (kids.allB notSet = R.allB notSet) ∧ RowKit.Hid (wr.heap[w.heap.size]? = some (boxOf op name n pos (some ⟨kb, ko, none⟩) kids.len cap)) ∧ Below w.heap.size w wr) (fun i _ => kids.len - (intOf i).toNat)
   case atStart => exact ⟨0, kids, rfl, Lib.hid (HST.out.below (below_box _ _)), Lib.hid rfl, HB, below_box _ _⟩
   case round =>
    obtain ⟨k, R, rfl, HTL, HAL, HX, hbx⟩ := hrel
    obtain ⟨b0, b1, b2, b3, b4⟩ := box_cells HX.out
    cases R with
    | nil =>
     have hkl : k = kids.len := by have := HTL.out.len; simpa [Fo.len] using this
     have HALL : RowKit.Hid (kids.allB notSet = true) := Lib.hid (by rw [HAL.out]; rfl)
     subst hkl
     have hbW := hbx
     by_cases hvv : hasB name n kids.len kids.len false false = true
     case neg =>
      have hvf : hasB name n kids.len kids.len false false = false := by simpa using hvv
      have HR3 := Lib.hid (show stepT op name n kids.len kids.sorts.t kids.sorts.v kids.sorts.n kids.second = false from by rw [HR.out, hvf]; rfl)
      have hcall := HH.out kids.len false false wr hbx
      rw [hvf] at hcall
      have HC := Lib.hid hcall
      clear hcall hvv hvf
      go_wp2_with fail
      refine HC.out.mono ?_
      rintro e w2 ⟨rfl, hb2⟩
      have hbb := hbx.trans (hb2.mono hbx.size)
      clear hb2 HC
      go_wp2_with fail
      go_ret
      exact ⟨by rw [HR3.out]; rfl, hbb⟩
     have hcall := HH.out kids.len false false wr hbx
     rw [hvv] at hcall
     have HVV := Lib.hid hvv
     have HC := Lib.hid hcall
     clear hcall hvv
     by_cases h6 : (kids.len : Int) ≤ 6
     case neg =>
      have HR3 := Lib.hid (show stepT op name n kids.len kids.sorts.t kids.sorts.v kids.sorts.n kids.second = false from by rw [HR.out, HVV.out, decide_eq_false h6]; rfl)
      go_wp2_with fail
      refine HC.out.mono ?_
      rintro e w2 ⟨rfl, hb2⟩
      have hbb := hbx.trans (hb2.mono hbx.size)
      clear b0 b1 b2 b3 b4
      obtain ⟨b0, b1, b2, b3, b4⟩ := box_cells (show w2.heap[w.heap.size]? = _ from (hb2.block _ (lt_heap HX.out)).trans HX.out)
      clear hb2 HC
      go_wp2_with fail
      go_ret
      exact ⟨by rw [HR3.out]; rfl, hbb⟩
     have HR3 := Lib.hid (show stepT op name n kids.len kids.sorts.t kids.sorts.v kids.sorts.n kids.second = kids.sorts.t from by rw [HR.out, HVV.out, decide_eq_true h6, HALL.out]; rfl)
     go_wp2_with fail
     refine HC.out.mono ?_
     rintro e w2 ⟨rfl, hb2⟩
     have hbb := hbx.trans (hb2.mono hbx.size)
     clear b0 b1 b2 b3 b4
     obtain ⟨b0, b1, b2, b3, b4⟩ := box_cells (show w2.heap[w.heap.size]? = _ from (hb2.block _ (lt_heap HX.out)).trans HX.out)
     have HC2 := Lib.hid (HTM.out w2 (Utf8Tabs_below HU.out hbb) (HI.out.below hbb))
     clear hb2 HC
     go_wp2_with fail
     refine HC2.out.mono ?_
     rintro e w3 ⟨rfl, hb3⟩
     have hb4 := hbb.trans (hb3.mono hbb.size)
     clear hb3 HC2
     go_wp2_with fail
     go_ret
     exact ⟨by rw [HR3.out]; rfl, hb4⟩
    | cons op1 name1 n1 pos1 a1 cap1 kids1 rest =>
     obtain ⟨hnode, hin1, hP, hkl, hnext⟩ := HTL.out.next
     have hkl2 : (k : Int) < kids.len := by omega
     obtain ⟨c0, c1, c2, c3, c4⟩ := hnode
     have HND := Lib.hid (show NodeAt wr kb (ko + k * 5) op1 name1 n1 pos1 a1 kids1.len cap1 from ⟨c0, c1, c2, c3, c4⟩)
     have HN1 := Lib.hid hnext
     have HCL := Lib.hid (set_any op1 name1 n1 pos1 a1 kids1.len cap1 wr)
     clear hnext hin1 hP HTL
     by_cases hj : isJoin op1 = true
     ·have HR3 := Lib.hid (show stepT op name n kids.len kids.sorts.t kids.sorts.v kids.sorts.n kids.second = false from by rw [HR.out, HAL.out]; show (_ && (((!(op1.toList == [115, 101, 116]) && !isJoin op1) && rest.allB notSet) && _)) = false; rw [hj]; simp)
      have HJ := Lib.hid hj
      clear hj
      go_wp2_with fail
      refine HCL.out.mono ?_
      rintro e w3 ⟨rfl, hb3⟩
      rw [HJ.out]
      have hbx2 := hbx.trans (hb3.mono hbx.size)
      clear hb3 HCL
      go_wp2_with fail
      go_ret
      exact ⟨by rw [HR3.out]; rfl, hbx2⟩
     have hj2 : isJoin op1 = false := by simpa using hj
     have HJ := Lib.hid hj2
     clear hj
     by_cases os : op1.toList = [115, 101, 116]
     ·have es : (op1.toList == [115, 101, 116]) = true := by simp [os]
      have HR3 := Lib.hid (show stepT op name n kids.len kids.sorts.t kids.sorts.v kids.sorts.n kids.second = false from by rw [HR.out, HAL.out]; show (_ && (((!(op1.toList == [115, 101, 116]) && !isJoin op1) && rest.allB notSet) && _)) = false; rw [es]; simp)
      clear os hj2
      go_wp2_with fail
      refine HCL.out.mono ?_
      rintro e w3 ⟨rfl, hb3⟩
      rw [HJ.out]
      have hbx2 := hbx.trans (hb3.mono hbx.size)
      clear b0 b1 b2 b3 b4 c0 c1 c2 c3 c4
      obtain ⟨b0, b1, b2, b3, b4⟩ := box_cells (show w3.heap[w.heap.size]? = _ from (hb3.block _ (lt_heap HX.out)).trans HX.out)
      obtain ⟨c0, c1, c2, c3, c4⟩ := HND.out.below hb3
      clear hb3 HCL
      go_wp2_with fail
      go_ret
      exact ⟨by rw [HR3.out]; rfl, hbx2⟩
     have es : (op1.toList == [115, 101, 116]) = false := by simp [os]
     have HA2 := Lib.hid (show kids.allB notSet = rest.allB notSet from by rw [HAL.out]; show ((!(op1.toList == [115, 101, 116]) && !isJoin op1) && rest.allB notSet) = _; rw [es, hj2]; rfl)
     clear os hj2
     go_wp2_with fail
     refine HCL.out.mono ?_
     rintro e w3 ⟨rfl, hb3⟩
     rw [HJ.out]
     have hbx2 := hbx.trans (hb3.mono hbx.size)
     have HX2 := Lib.hid ((hb3.block _ (lt_heap HX.out)).trans HX.out)
     clear b0 b1 b2 b3 b4 c0 c1 c2 c3 c4
     obtain ⟨b0, b1, b2, b3, b4⟩ := box_cells HX2.out
     obtain ⟨c0, c1, c2, c3, c4⟩ := HND.out.below hb3
     have HN2 := Lib.hid (HN1.out.below hb3)
     clear hb3 HN1 HX HCL
     go_wp2_with fail
     go_roundw
     case rel => exact ⟨k + 1, rest, by go_num, HN2, HA2, HX2, hbx2⟩
     case measure => (try simp [intOf]); omega
 have e4 : (op.toList == [115, 101, 116]) = false := by simp [o4]
 clear o4
 have hR : stepT op name n kids.len kids.sorts.t kids.sorts.v kids.sorts.n kids.second = (isJoin op && fitB false name 0 0 n 2 2 kids.len kids.sorts.t && !kids.second) := by unfold stepT; rw [e1, e2, e3, e4]; rfl
 rw [fit_plain] at hR
 have HJ := Lib.hid (set_any op name n pos a kids.len cap (w.alloc (boxOf op name n pos a kids.len cap)))
 by_cases hj : isJoin op = true
 case neg =>
  have hj2 : isJoin op = false := by simpa using hj
  have HR := Lib.hid (show stepT op name n kids.len kids.sorts.t kids.sorts.v kids.sorts.n kids.second = false from by rw [hR, hj2]; rfl)
  have HJT := Lib.hid hj2
  clear hj hj2 hR
  go_enter Tryz.func53, Tryz.ntmps53
  go_wp2_with fail
  refine HJ.out.mono ?_
  rintro e w2 ⟨rfl, hb2⟩
  rw [HJT.out]
  have hbb := box_then hb2
  clear hb2 HJ
  go_wp2_with fail
  go_ret
  exact ⟨by rw [HR.out]; rfl, hbb⟩
 have HJT := Lib.hid hj
 have HR := Lib.hid hR
 clear hj hR
 by_cases hv : hasB name n kids.len 2 false false = true
 case neg =>
  have hv2 : hasB name n kids.len 2 false false = false := by simpa using hv
  have HV := Lib.hid hv2
  have HR3 := Lib.hid (show stepT op name n kids.len kids.sorts.t kids.sorts.v kids.sorts.n kids.second = false from by rw [HR.out, hv2]; simp)
  clear hv hv2
  go_enter Tryz.func53, Tryz.ntmps53
  go_wp2_with fail
  refine HJ.out.mono ?_
  rintro e w2 ⟨rfl, hb2⟩
  rw [HJT.out]
  have hbb := box_then hb2
  obtain ⟨b0, b1, b2, b3, b4⟩ := box_cells (show w2.heap[w.heap.size]? = _ from (hb2.block _ HZ.out).trans HB.out)
  have HC2 := Lib.hid (HH.out 2 false false w2 hbb)
  clear hb2 HJ
  go_wp2_with fail
  refine HC2.out.mono ?_
  rintro e w3 ⟨rfl, hb3⟩
  rw [HV.out]
  have hb4 := hbb.trans (hb3.mono hbb.size)
  clear hb3 HC2
  go_wp2_with fail
  go_ret
  exact ⟨by rw [HR3.out]; rfl, hb4⟩
 have HV := Lib.hid hv
 have hlen : kids.len = 2 := by
  unfold hasB at hv
  simp only [Bool.and_eq_true, decide_eq_true_eq] at hv
  omega
 have HL := Lib.hid hlen
 clear hv hlen
 obtain ⟨kb, ko, hab, hlim, hpos, hkin⟩ : ∃ b o, a = some ⟨b, o, none⟩ ∧ kids.len ≤ 140737488351232 ∧ (0 < kids.len ∧ w.frozen? ⟨b, o, none⟩ = false) ∧ kids.In w b o := by
  rcases HI.out with h | h
  ·have h' : kids = .nil := h
   have := HL.out
   rw [h'] at this
   cases this
  ·exact h
 subst hab
 obtain ⟨op1, name1, n1, pos1, a1, cap1, kids1, op2, name2, n2, pos2, a2, cap2, kids2, hkk⟩ : ∃ op1 name1 n1 pos1 a1 cap1 kids1 op2 name2 n2 pos2 a2 cap2 kids2, kids = .cons op1 name1 n1 pos1 a1 cap1 kids1 (.cons op2 name2 n2 pos2 a2 cap2 kids2 .nil) := by
  have h2 := HL.out
  cases kids with
  | nil => cases h2
  | cons op1 name1 n1 pos1 a1 cap1 kids1 r =>
   cases r with
   | nil => cases h2
   | cons op2 name2 n2 pos2 a2 cap2 kids2 r2 =>
    cases r2 with
    | nil => exact ⟨_, _, _, _, _, _, _, _, _, _, _, _, _, _, rfl⟩
    | cons => simp [Fo.len] at h2
 have hn2 : NodeAt w kb (ko + 5) op2 name2 n2 pos2 a2 kids2.len cap2 := by rw [hkk] at hkin; exact hkin.2.2.1
 have HR2 : RowKit.Hid (stepT op name n kids.len kids.sorts.t kids.sorts.v kids.sorts.n kids.second = (kids.sorts.t && !isJoin op2)) := Lib.hid (by rw [HR.out, HJT.out, HV.out, show kids.second = isJoin op2 from by rw [hkk]; rfl]; rfl)
 have HN2 := Lib.hid hn2
 clear hkin hkk hn2 HR hpos
 generalize hst : kids.sorts.t = st at HTM HR2
 clear hst
 go_enter Tryz.func53, Tryz.ntmps53
 go_wp2_with fail
 refine HJ.out.mono ?_
 rintro e w2 ⟨rfl, hb2⟩
 rw [HJT.out]
 have hbb := box_then hb2
 have HB2 := Lib.hid ((hb2.block _ HZ.out).trans HB.out)
 obtain ⟨b0, b1, b2, b3, b4⟩ := box_cells HB2.out
 have HC2 := Lib.hid (HH.out 2 false false w2 hbb)
 clear hb2 HJ
 go_wp2_with fail
 refine HC2.out.mono ?_
 rintro e w3 ⟨rfl, hb3⟩
 rw [HV.out]
 have hb4 := hbb.trans (hb3.mono hbb.size)
 clear b0 b1 b2 b3 b4
 have HB3 := Lib.hid ((hb3.block _ (lt_heap HB2.out)).trans HB2.out)
 obtain ⟨b0, b1, b2, b3, b4⟩ := box_cells HB3.out
 have HC3 := Lib.hid (HTM.out w3 (Utf8Tabs_below HU.out hb4) (HI.out.below hb4))
 clear hb3 HC2
 go_wp2_with fail
 refine HC3.out.mono ?_
 rintro e w4 ⟨rfl, hb5⟩
 have hb6 := hb4.trans (hb5.mono hb4.size)
 clear b0 b1 b2 b3 b4
 obtain ⟨b0, b1, b2, b3, b4⟩ := box_cells (show w4.heap[w.heap.size]? = _ from (hb5.block _ (lt_heap HB3.out)).trans HB3.out)
 obtain ⟨c0, c1, c2, c3, c4⟩ := HN2.out.below hb6
 rw [HL.out] at b4
 clear hb5 HC3
 cases st with
 | false =>
  go_wp2_with fail
  go_ret
  exact ⟨by rw [HR2.out]; rfl, hb6⟩
 | true =>
  have HJ2 := Lib.hid (set_any op2 name2 n2 pos2 a2 kids2.len cap2 w4)
  go_wp2_with fail
  refine HJ2.out.mono ?_
  rintro e w5 ⟨rfl, hb7⟩
  have hb8 := hb6.trans (hb7.mono hb6.size)
  clear hb7 HJ2
  go_wp2_with fail
  go_ret
  exact ⟨by rw [HR2.out]; rfl, hb8⟩
theorem gterms_all (T : Nd) : SayRT T := Nd.all_of (P := SayRT) (fun T hk => rterm_of T hk) T
set_option maxRecDepth 100000 in
set_option maxHeartbeats 4000000 in
theorem rsize_any (T : Nd) (w : World) (hT : T.In w) : Calls Tryz.prog 12 #[T.val] w fun e w' => e = .returned (.int .i64 (min (T.size : Int) 2001)) ∧ Below w.heap.size w w' := by
 obtain ⟨op, name, n, pos, a, cap, kids⟩ := T
 have hc := rcount_any ⟨op, name, n, pos, a, cap, kids⟩ 2001 (w.alloc (boxOf op name n pos a kids.len cap)) (by omega) (by omega) (hT.below (below_box _ _))
 have HC := Lib.hid hc
 have hc5 := cellsNode
 clear hc hT
 rw [Nd.val_def]
 go_enter Tryz.func12, Tryz.ntmps12
 go_wp2_with fail
 refine HC.out.mono ?_
 rintro e w2 ⟨rfl, hb2⟩
 go_wp2
 go_ret
 exact ⟨rfl, box_then hb2⟩
set_option maxRecDepth 100000 in
set_option maxHeartbeats 4000000 in
theorem rdepth_any (T : Nd) (w : World) (hT : T.In w) : Calls Tryz.prog 43 #[T.val] w fun e w' => e = .returned (.int .i64 (min (T.deep : Int) 31)) ∧ Below w.heap.size w w' := by
 obtain ⟨op, name, n, pos, a, cap, kids⟩ := T
 have hc := rdeep_any ⟨op, name, n, pos, a, cap, kids⟩ 31 (w.alloc (boxOf op name n pos a kids.len cap)) (by omega) (by omega) (hT.below (below_box _ _))
 have HC := Lib.hid hc
 have hc5 := cellsNode
 clear hc hT
 rw [Nd.val_def]
 go_enter Tryz.func43, Tryz.ntmps43
 go_wp2_with fail
 refine HC.out.mono ?_
 rintro e w2 ⟨rfl, hb2⟩
 go_wp2
 go_ret
 exact ⟨rfl, box_then hb2⟩
set_option maxRecDepth 100000 in
set_option maxHeartbeats 8000000 in
theorem small_any (T : Nd) (w : World) (hT : T.In w) : Calls Tryz.prog 37 #[T.val] w fun e w' => e = .returned (.bool (decide (T.deep ≤ 30) && decide (T.size ≤ 2000))) ∧ Below w.heap.size w w' := by
 obtain ⟨op, name, n, pos, a, cap, kids⟩ := T
 have hc1 := rdepth_any ⟨op, name, n, pos, a, cap, kids⟩ (w.alloc (boxOf op name n pos a kids.len cap)) (hT.below (below_box _ _))
 generalize (Nd.mk op name n pos a cap kids).deep = d at hc1
 have HS : RowKit.Hid (∀ W : World, Nd.In W ⟨op, name, n, pos, a, cap, kids⟩ → Calls Tryz.prog 12 #[(Nd.mk op name n pos a cap kids).val] W fun e w' => e = .returned (.int .i64 (min ((Nd.mk op name n pos a cap kids).size : Int) 2001)) ∧ Below W.heap.size W w') := Lib.hid fun W h => rsize_any _ W h
 generalize (Nd.mk op name n pos a cap kids).size = z at HS
 have HI := Lib.hid hT
 have HC := Lib.hid hc1
 have HB := Lib.hid (new_at w (boxOf op name n pos a kids.len cap))
 have HZ := Lib.hid (lt_heap HB.out)
 have hc5 := cellsNode
 clear hc1 hT
 rw [Nd.val_def]
 by_cases hd : d ≤ 30
 ·have hd2 : min (d : Int) 31 ≤ 30 := by omega
  have HD := Lib.hid (decide_eq_true hd)
  clear hd
  generalize min (d : Int) 31 = dd at HC hd2
  go_enter Tryz.func37, Tryz.ntmps37
  go_wp2_with fail
  refine HC.out.mono ?_
  rintro e w2 ⟨rfl, hb2⟩
  have hbb := box_then hb2
  obtain ⟨b0, b1, b2, b3, b4⟩ := box_cells (show w2.heap[w.heap.size]? = _ from (hb2.block _ HZ.out).trans HB.out)
  have hcall := HS.out w2 (HI.out.below hbb)
  rw [Nd.val_def] at hcall
  have HC2 := Lib.hid hcall
  clear hb2 HC hcall
  by_cases hz : z ≤ 2000
  ·have hz2 : min (z : Int) 2001 ≤ 2000 := by omega
   have HZZ := Lib.hid (decide_eq_true hz)
   clear hz
   generalize min (z : Int) 2001 = zz at HC2 hz2
   go_wp2_with fail
   refine HC2.out.mono ?_
   rintro e w3 ⟨rfl, hb3⟩
   have hb4 := hbb.trans (hb3.mono hbb.size)
   clear hb3 HC2
   go_wp2_with fail
   go_ret
   exact ⟨by rw [HD.out, HZZ.out]; rfl, hb4⟩
  ·have hz2 : ¬ min (z : Int) 2001 ≤ 2000 := by omega
   have HZZ := Lib.hid (decide_eq_false hz)
   clear hz
   generalize min (z : Int) 2001 = zz at HC2 hz2
   have HZD := Lib.hid (decide_eq_false hz2)
   go_wp2_with fail
   refine HC2.out.mono ?_
   rintro e w3 ⟨rfl, hb3⟩
   have hb4 := hbb.trans (hb3.mono hbb.size)
   clear hb3 HC2
   go_wp2_with fail
   go_ret
   exact ⟨by rw [HD.out, HZZ.out]; show Ending.returned (Value.bool (decide (zz ≤ 2000))) = _; rw [HZD.out]; rfl, hb4⟩
 ·have hd2 : ¬ min (d : Int) 31 ≤ 30 := by omega
  have HD := Lib.hid (decide_eq_false hd)
  clear hd
  generalize min (d : Int) 31 = dd at HC hd2
  go_enter Tryz.func37, Tryz.ntmps37
  go_wp2_with fail
  refine HC.out.mono ?_
  rintro e w2 ⟨rfl, hb2⟩
  have hbb := box_then hb2
  clear hb2 HC
  go_wp2_with fail
  go_ret
  exact ⟨by rw [HD.out]; rfl, hbb⟩
end Go.Proofs.YtmpcmpeloebnhaaGreatDoor
namespace Go.Proofs.YtmpcmpeloebnhaaGreatDoor
open Go.RowKit
def Dc.ok (d : Dc) : Bool := nameB d.name && decide (0 ≤ d.order) && decide (d.order ≤ 2)
def Pd.ok (p : Pd) : Bool := nameB p.name && decide ((p.params.length : Int) ≤ 6) && p.params.all Dc.ok && p.body.okF
structure PdFine (w : World) (p : Pd) : Prop where
 params : DcsIn w p.pa p.params
 body : p.body.In w
 sized : p.body.sized
 name : p.name.size ≤ 140737488351232
 deep : p.body.deep ≤ 30
 size : p.body.size ≤ 2000
theorem PdFine.below {w w' : World} (hb : Below w.heap.size w w') {p : Pd} (h : PdFine w p) : PdFine w' p := ⟨h.params.below hb, h.body.below hb, h.sized, h.name, h.deep, h.size⟩
def PdsIn (w : World) (a : Option Addr) (l : List Pd) : Prop := (l = [] ∨ ∃ b o, a = some ⟨b, o, none⟩ ∧ l.length ≤ 140737488351232 ∧ ∀ i p, l[i]? = some p → PdAt w b (o + i * 8) p) ∧ ∀ p ∈ l, PdFine w p
end Go.Proofs.YtmpcmpeloebnhaaGreatDoor
namespace Go.Proofs.YtmpcmpeloebnhaaGreatDoor
open Go.RowKit
set_option maxHeartbeats 1000000 in
theorem class_any (r : Int) (w : World) :
  Calls Tryz.prog 97 #[.int .i32 r] w fun e w' => e = .returned (.int .i64 (cls r)) ∧ w = w' := by
 go_enter Tryz.func97, Tryz.ntmps97
 go_wp2
 all_goals go_ret
 all_goals (refine ⟨ret_int ?_, rfl⟩; go_light)
 all_goals (try simp only [beq_iff_eq, beq_eq_false_iff_ne, ne_eq] at *)
 all_goals first | exact cls1 (by unfold isLet; omega) | exact cls2 (by omega) | exact cls3 (by omega) | exact cls4 (by unfold isSig; omega) | exact cls0 (by unfold isLet; omega) (by omega) (by omega) (by unfold isSig; omega)
set_option maxHeartbeats 400000 in
theorem isSpace_any (r : Int) (w : World) : Calls Tryz.prog 99 #[.int .i32 r] w fun e w' => e = .returned (.bool (spB r)) ∧ w = w' := by
 go_enter Tryz.func99, Tryz.ntmps99
 go_wp2_with (go_at_call 97; refine (class_any _ _).mono ?_; rintro e w' ⟨rfl, rfl⟩)
 go_ret
 exact ⟨rfl, rfl⟩
set_option maxHeartbeats 400000 in
theorem isDigit_any (r : Int) (w : World) : Calls Tryz.prog 102 #[.int .i32 r] w fun e w' => e = .returned (.bool (dgB r)) ∧ w = w' := by
 go_enter Tryz.func102, Tryz.ntmps102
 go_wp2_with (go_at_call 97; refine (class_any _ _).mono ?_; rintro e w' ⟨rfl, rfl⟩)
 go_ret
 exact ⟨rfl, rfl⟩
set_option maxHeartbeats 400000 in
theorem isLinePart_any (r : Int) (w : World) : Calls Tryz.prog 104 #[.int .i32 r] w fun e w' => e = .returned (.bool (lnB r)) ∧ w = w' := by
 go_enter Tryz.func104, Tryz.ntmps104
 go_wp2
 go_ret
 exact ⟨rfl, rfl⟩
set_option maxHeartbeats 400000 in
theorem isNamePart_any (r : Int) (w : World) : Calls Tryz.prog 100 #[.int .i32 r] w fun e w' => e = .returned (.bool (nmB r)) ∧ w = w' := by
 by_cases h1 : (cls r == 1) = true
 ·have hn := Lib.hid (show nmB r = true by unfold nmB; rw [h1]; rfl)
  go_enter Tryz.func100, Tryz.ntmps100
  go_wp2_with (go_at_call 97; refine (class_any _ _).mono ?_; rintro e w' ⟨rfl, rfl⟩)
  go_ret
  exact ⟨ret_bool hn.out.symm, rfl⟩
 ·simp only [Bool.not_eq_true] at h1
  by_cases h2 : dgB r = true
  ·have hn := Lib.hid (show nmB r = true by unfold nmB; unfold dgB at h2; rw [h2]; simp)
   go_enter Tryz.func100, Tryz.ntmps100
   go_wp2_with (first | (go_at_call 97; refine (class_any _ _).mono ?_; rintro e w' ⟨rfl, rfl⟩) | (go_at_call 102; refine (isDigit_any _ _).mono ?_; rintro e w' ⟨rfl, rfl⟩))
   go_ret
   exact ⟨ret_bool hn.out.symm, rfl⟩
  ·simp only [Bool.not_eq_true] at h2
   have hn := Lib.hid (show nmB r = (r == 39) by unfold nmB; unfold dgB at h2; rw [h1, h2]; simp)
   go_enter Tryz.func100, Tryz.ntmps100
   go_wp2_with (first | (go_at_call 97; refine (class_any _ _).mono ?_; rintro e w' ⟨rfl, rfl⟩) | (go_at_call 102; refine (isDigit_any _ _).mono ?_; rintro e w' ⟨rfl, rfl⟩))
   go_ret
   exact ⟨ret_bool hn.out.symm, rfl⟩
set_option maxHeartbeats 400000 in
theorem written_any (s : ByteArray) (w : World) (hs : s.size ≤ 1000000) :
  Calls Tryz.prog 130 #[.string s] w fun e w' => e = .returned (.bool (fffd s)) ∧ w = w' := by
 go_enter Tryz.func130, Tryz.ntmps130
 by_cases h3 : 3 ≤ s.size
 ·go_wp2
  go_ret
  exact ⟨rfl, rfl⟩
 ·have HF := Lib.hid (fffd_short s (by omega))
  go_wp2
  go_ret
  rw [HF.out]
  exact ⟨rfl, rfl⟩
set_option maxRecDepth 1000000 in
set_option maxHeartbeats 2000000 in
theorem each_any (s : ByteArray) (w : World) (hs : s.size ≤ 1000000) :
  Calls Tryz.prog 96 #[.string s] w (EachPost s w) := by
 obtain ⟨i0, hi, hz0, hz1, hz2⟩ := info_parts Tryz.infoRune
 go_enter Tryz.func96, Tryz.ntmps96
 go_wp2
 go_loopw [2] (fun v wr => ∃ (pos b : Nat) (acc : List (Int × Int)), wr.heap[w.heap.size]? = some (.stringIter s pos) ∧ wr.ownsRow (w.heap.size + 1) 131 2 v acc.length (flat acc) ∧ Below w.heap.size w wr ∧ Hid (soFar s acc b pos) ∧ s.size ≤ pos + b ∧ acc.length ≤ pos) (fun _ wr => s.size - wr.iterPos w.heap.size)
 case atStart => exact ⟨0, s.size, [], World.iter_heap w s 0, World.ownsRow_nil _ _ _ _, (Below.refl _ _).alloc (Nat.le_refl _) _, soFar_start s, by omega, by simp⟩
 case round =>
  obtain ⟨pos, b, acc, hit, hown, hbw, HS, hb, hlen⟩ := hrel
  have hpos0 := iterPos_of hit
  by_cases hp : pos < s.size
  ·have hnx : ∀ ty, (Instr.next (.pointer (some ⟨w.heap.size, 0, none⟩)) true ty).run Tryz.prog wr = _ := fun ty => Lib.run_next_any_at wr w.heap.size s pos ty hit hp
   have hwd := width_pos s pos hp
   obtain ⟨b, rfl⟩ : ∃ f', b = f' + 1 := ⟨b - 1, by omega⟩
   have hit2 := Lib.iterAt_heap wr w.heap.size s pos (pos + (Utf8.decode s pos).2) hit
   have hbw2 := Lib.below_iterAt hbw (k := w.heap.size) (Nat.le_refl _) s (pos + (Utf8.decode s pos).2)
   have hown2 := ownsRow_iterAt hown (k := w.heap.size) (by omega) s (pos + (Utf8.decode s pos).2)
   obtain ⟨W1, hW1⟩ : ∃ W1, W1 = wr.iterAt w.heap.size s (pos + (Utf8.decode s pos).2) := ⟨_, rfl⟩
   rw [← hW1] at hnx hit2 hbw2 hown2
   have hBlt := lt_of_block hit2
   clear hW1 hit hown hbw
   by_cases hbad : badAt s pos
   ·have hr1 : (((Utf8.decode s pos).1 : Int) == 65533) = true := by rw [beq_iff_eq]; have := hbad.1; omega
    have hf : fffd (s.extract pos s.size) = false := fffd_bad s pos hbad
    have hX := soFar_bad s acc b pos hp hbad HS.out
    have H1 := Lib.hid hX.1
    have H2 := Lib.hid hX.2
    clear hX HS hbad
    go_wp2_with (go_at_call 130; refine (written_any _ _ (by simp; omega)).mono ?_; rintro e w' ⟨rfl, rfl⟩)
    go_ret2
    exact ⟨u2, ret_v H2.out, by rw [← H1.out]; exact ownsRow_base hown2 (by omega), hbw2⟩
   ·have R := soFar_one s acc b pos hp hbad HS.out
    have HS' := Lib.hid R
    clear R
    by_cases hr : (Utf8.decode s pos).1 = 65533
    ·have hr1 : (((Utf8.decode s pos).1 : Int) == 65533) = true := by rw [beq_iff_eq]; omega
     have hf : fffd (s.extract pos s.size) = true := fffd_good s pos hr hbad
     clear hr hbad
     go_wp2_with (first | (go_at_call 130; refine (written_any _ _ (by simp; omega)).mono ?_; rintro e w' ⟨rfl, rfl⟩) | (at_builtin; refine wpList_append_own _ rfl _ _ 99 rfl (w.heap.size + 1) 131 i0 (.agg #[.int .i32 0, .int .i64 0]) 2 16 Tryz.underlying99 hi hz0 hz1 hz2 rfl (by decide) _ _ _ rfl (hown2.alloc _) ⟨W1.heap.size, 0, none⟩ 1 1 [.int .i32 ((Utf8.decode s pos).1 : Int), .int .i64 (pos : Int)] rfl rfl (cell_two_new _ _ _ _) (fun x hx => by simp at hx; rcases hx with rfl | rfl <;> rfl) (by unfold maxLen; omega) (by omega) (by simp; omega) ?_; intro v' w3 hown' hgrow3 hnil3))
     have hit3 : w3.heap[w.heap.size]? = some (.stringIter s (pos + (Utf8.decode s pos).2)) := by
      rw [hgrow3.block w.heap.size (by simp; omega) (fun h => by have := (hown2.lt _ h.symm).1; omega), Below.heap_alloc _ _ _ hBlt]; exact hit2
     have hbw3 : Below w.heap.size w w3 := Below.grown (hbw2.alloc (by omega) _) hgrow3 (by simp; omega) (fun j hj => by have := (hown2.lt _ hj).1; omega)
     rw [← flat_snoc acc ((((Utf8.decode s pos).1 : Int), (pos : Int)))] at hown'
     go_wp2
     go_roundw
     case rel => exact ⟨_, b, acc ++ [((((Utf8.decode s pos).1 : Int), (pos : Int)))], hit3, by simpa using hown', hbw3, HS'.out, by omega, by simp; omega⟩
     case measure => rw [iterPos_of hit3, hpos0]; omega
    ·have hrb : (((Utf8.decode s pos).1 : Int) == 65533) = false := by rw [beq_eq_false_iff_ne]; omega
     clear hr hbad
     go_wp2_with (at_builtin; refine wpList_append_own _ rfl _ _ 99 rfl (w.heap.size + 1) 131 i0 (.agg #[.int .i32 0, .int .i64 0]) 2 16 Tryz.underlying99 hi hz0 hz1 hz2 rfl (by decide) _ _ _ rfl (hown2.alloc _) ⟨W1.heap.size, 0, none⟩ 1 1 [.int .i32 ((Utf8.decode s pos).1 : Int), .int .i64 (pos : Int)] rfl rfl (cell_two_new _ _ _ _) (fun x hx => by simp at hx; rcases hx with rfl | rfl <;> rfl) (by unfold maxLen; omega) (by omega) (by simp; omega) ?_; intro v' w3 hown' hgrow3 hnil3)
     have hit3 : w3.heap[w.heap.size]? = some (.stringIter s (pos + (Utf8.decode s pos).2)) := by
      rw [hgrow3.block w.heap.size (by simp; omega) (fun h => by have := (hown2.lt _ h.symm).1; omega), Below.heap_alloc _ _ _ hBlt]; exact hit2
     have hbw3 : Below w.heap.size w w3 := Below.grown (hbw2.alloc (by omega) _) hgrow3 (by simp; omega) (fun j hj => by have := (hown2.lt _ hj).1; omega)
     rw [← flat_snoc acc ((((Utf8.decode s pos).1 : Int), (pos : Int)))] at hown'
     go_wp2
     go_roundw
     case rel => exact ⟨_, b, acc ++ [((((Utf8.decode s pos).1 : Int), (pos : Int)))], hit3, by simpa using hown', hbw3, HS'.out, by omega, by simp; omega⟩
     case measure => rw [iterPos_of hit3, hpos0]; omega
  ·have hnx : ∀ ty, (Instr.next (.pointer (some ⟨w.heap.size, 0, none⟩)) true ty).run Tryz.prog wr = _ := fun ty => Lib.run_next_end_at wr w.heap.size s pos ty hit hp
   have hX := soFar_end s acc b pos hp HS.out
   have H1 := Lib.hid hX.1
   have H2 := Lib.hid hX.2
   clear hX HS
   go_wp2
   go_ret2
   exact ⟨u2, ret_v H2.out, by rw [← H1.out]; exact ownsRow_base hown (by omega), hbw⟩
theorem wrds_fields : Lib.fields ({ data := #[116, 114, 117, 101, 32, 102, 97, 108, 115, 101, 32, 101, 120, 48, 32, 101, 120, 49, 32, 101, 120, 50, 32, 97, 108, 108, 48, 32, 97, 108, 108, 49, 32, 97, 108, 108, 50, 32, 118, 97, 114, 48, 32, 118, 97, 114, 49, 32, 118, 97, 114, 50, 32, 112, 114, 101, 100, 32, 105, 110, 32, 110, 111, 116, 105, 110, 32, 115, 117, 98, 32, 117, 110, 105, 111, 110, 32, 105, 110, 116, 101, 114] } : ByteArray).data.toList = wrds.map fun x => x.data.toList := by decide +kernel
theorem tab_below {w w' : World} (h : Lib.TabIs Tryz.prog w "strings.asciiSpace" .u8 Lib.asciiSpaceTab) (hb : Below w.heap.size w w') : Lib.TabIs Tryz.prog w' "strings.asciiSpace" .u8 Lib.asciiSpaceTab := var_below h hb
structure LTabs (w : World) : Prop where
 sp : Lib.TabIs Tryz.prog w "strings.asciiSpace" .u8 Lib.asciiSpaceTab
 sg : w.var? Tryz.prog "sibyl/lex.signs" = some (sigs.map Value.string).toArray
theorem LTabs.below {w w' : World} (h : LTabs w) (hb : Below w.heap.size w w') : LTabs w' := ⟨tab_below h.sp hb, var_below h.sg hb⟩
theorem LTabs.at {w : World} (h : LTabs w) : ∃ t f, w.heap[0]? = some (.cells (sigs.map Value.string).toArray t f) := by
 have hg : Tryz.prog.globalNamed "sibyl/lex.signs" = some 0 := by kernel_rfl
 have := h.sg
 unfold World.var? at this
 rw [hg] at this
 simp only [Option.bind_some] at this
 split at this
 ·rename_i cs t f he
  obtain rfl := Option.some.inj this
  exact ⟨t, f, he⟩
 ·cases this
set_option maxRecDepth 100000 in
set_option maxHeartbeats 1000000 in
theorem words_any (w : World) (hT : Lib.TabIs Tryz.prog w "strings.asciiSpace" .u8 Lib.asciiSpaceTab) :
  Calls Tryz.prog 133 #[] w fun e w' => e = .returned (wrdsV w.heap.size) ∧ w' = w.alloc (.cells wrdsCells 9) := by
 have hf := wrds_fields
 have c := Tryz.strings_Fields ⟨#[116, 114, 117, 101, 32, 102, 97, 108, 115, 101, 32, 101, 120, 48, 32, 101, 120, 49, 32, 101, 120, 50, 32, 97, 108, 108, 48, 32, 97, 108, 108, 49, 32, 97, 108, 108, 50, 32, 118, 97, 114, 48, 32, 118, 97, 114, 49, 32, 118, 97, 114, 50, 32, 112, 114, 101, 100, 32, 105, 110, 32, 110, 111, 116, 105, 110, 32, 115, 117, 98, 32, 117, 110, 105, 111, 110, 32, 105, 110, 116, 101, 114]⟩ w (by decide) (by
  intro j b hb
  have : ∀ b ∈ (#[116, 114, 117, 101, 32, 102, 97, 108, 115, 101, 32, 101, 120, 48, 32, 101, 120, 49, 32, 101, 120, 50, 32, 97, 108, 108, 48, 32, 97, 108, 108, 49, 32, 97, 108, 108, 50, 32, 118, 97, 114, 48, 32, 118, 97, 114, 49, 32, 118, 97, 114, 50, 32, 112, 114, 101, 100, 32, 105, 110, 32, 110, 111, 116, 105, 110, 32, 115, 117, 98, 32, 117, 110, 105, 111, 110, 32, 105, 110, 116, 101, 114] : Array UInt8).toList, b.toNat < 128 := by decide +kernel
  exact this b (List.mem_of_getElem? hb)) hT
 rw [hf] at c
 have e1 : ((wrds.map fun x => x.data.toList).map fun l => Value.string ⟨l.toArray⟩).toArray = wrdsCells := by
  simp [wrdsCells, Function.comp_def]
 have e2 : (wrds.map fun x => x.data.toList).length = 17 := by rfl
 rw [e1, e2] at c
 clear hf e1 e2
 go_enter Tryz.func133, Tryz.ntmps133
 go_wp2_with fail
 refine c.mono ?_
 rintro e w1 ⟨rfl, rfl⟩
 go_wp2
 go_ret
 exact ⟨rfl, rfl⟩
theorem count_any (s : ByteArray) (n : Nat) (w : World) (hs : s.size ≤ 1000000) (h : (each s).2 = -1) (hn : (each s).1.length = n) :
  Calls Tryz.prog 131 #[.string s] w fun e w' => e = .returned (.int .i64 n) ∧ Below w.heap.size w w' := by
 refine (Tryz.utf8_RuneCountInString s w (by omega)).mono ?_
 rintro e w' ⟨rfl, pos, rfl⟩
 refine ⟨?_, (Below.refl _ _).alloc (Nat.le_refl _) _⟩
 rw [show Lib.runeCount s = n by rw [← hn]; exact runeCount_each s s.size 0 (by omega) h]
set_option maxHeartbeats 400000 in
theorem clone_any (s : ByteArray) (w : World) (hs : s.size ≤ 1000000) :
  Calls Tryz.prog 134 #[.string s] w fun e w' => e = .returned (.string s) ∧ Below w.heap.size w w' := by
 go_enter Tryz.func134, Tryz.ntmps134
 go_wp2_with (go_at_call 148; refine (Tryz.stringslite_Clone _ _ (by omega)).mono ?_; rintro e w' ⟨rfl, hb⟩)
 go_ret
 exact ⟨rfl, by assumption⟩
theorem words_has (t : ByteArray) : Lib.containsS wrds t = isWrd t := by
 rw [Bool.eq_iff_iff, Lib.containsS_iff]
 unfold isWrd
 rw [List.any_eq_true]
 constructor
 ·intro h; exact ⟨t, h, by simp⟩
 ·rintro ⟨x, hx, he⟩
  rw [beq_iff_eq] at he
  obtain rfl : x = t := ByteArray.ext (Array.ext' he)
  exact hx
theorem has_any (t : ByteArray) (b : Nat) (w : World) (hc : ∀ j, j < 17 → w.cell? ⟨b, j, none⟩ = some (.string (wrds.getD j ByteArray.empty))) :
  Calls Tryz.prog 132 #[wrdsV b, .string t] w fun e w' => e = .returned (.bool (isWrd t)) ∧ w = w' := by
 have c := Tryz.slices_Contains_string b 0 17 17 wrds t w (by decide) (by decide) (fun j hj => by rw [Nat.zero_add]; exact hc j hj)
 rw [show wrds.take 17 = wrds from rfl, words_has] at c
 refine c.mono ?_
 rintro e w' ⟨rfl, rfl⟩
 exact ⟨rfl, rfl⟩
set_option maxHeartbeats 1000000 in
theorem name_big (s : ByteArray) (n : Nat) (w : World) (hs : s.size ≤ 1000000) (h : (each s).2 = -1) (hn : (each s).1.length = n) (h12 : 12 < n) :
  Calls Tryz.prog 101 #[.string s] w fun e w' => e = .returned (.tuple #[.agg #[.int .i64 0, .string ⟨#[]⟩, .int .i64 0, .int .i64 0], .bool false]) ∧ Below w.heap.size w w' := by
 have HE := Lib.hid h
 have HN := Lib.hid hn
 clear h hn
 go_enter Tryz.func101, Tryz.ntmps101
 go_wp2_with fail
 refine (count_any _ n _ hs HE.out HN.out).mono ?_
 rintro e w1 ⟨rfl, hb⟩
 obtain ⟨hc, hf⟩ := bcell hb
 have hz : w.heap.size < w1.heap.size := by have := hb.size; simp at this; omega
 have h12' : (12 : Int) < (n : Int) := by omega
 go_wp2
 exact bodyPost_ret (v := .tuple #[.agg #[.int .i64 0, .string ⟨#[]⟩, .int .i64 0, .int .i64 0], .bool false]) (by simp [results, Tryz.results101, go_sem, hc]) rfl
  ⟨rfl, ((((((Below.refl _ _).alloc (Nat.le_refl _) _).trans (hb.mono (by simp))).setCell (by simp) _).setCell (by simp) _).setCell (by simp) _).setCell (by simp) _⟩
set_option maxHeartbeats 2000000 in
theorem name_ok (s : ByteArray) (n : Nat) (w : World) (hT : LTabs w) (hs : s.size ≤ 1000000) (h : (each s).2 = -1) (hn : (each s).1.length = n) (h12 : n ≤ 12) :
  Calls Tryz.prog 101 #[.string s] w fun e w' => e = .returned (.tuple #[.agg #[.int .i64 (if isWrd s then 3 else 1), .string s, .int .i64 0, .int .i64 0], .bool true]) ∧ Below w.heap.size w w' := by
 have HE := Lib.hid h
 have HN := Lib.hid hn
 clear h hn
 have hq : (isWrd s = true ∧ (if isWrd s then (3 : Int) else 1) = 3) ∨ (isWrd s = false ∧ (if isWrd s then (3 : Int) else 1) = 1) := by cases isWrd s <;> simp
 rcases hq with ⟨hq, hv⟩ | ⟨hq, hv⟩
 all_goals
  rw [hv]
  clear hv
  go_enter Tryz.func101, Tryz.ntmps101
  go_wp2_with fail
  refine (count_any _ n _ hs HE.out HN.out).mono ?_
  rintro e w1 ⟨rfl, hb⟩
  have hb0 : Below w.heap.size w w1 := ((Below.refl _ _).alloc (Nat.le_refl _) _).trans (hb.mono (by simp))
  obtain ⟨hc, hf⟩ := bcell hb
  have hz : w.heap.size < w1.heap.size := by have := hb.size; simp at this; omega
  have h12' : (n : Int) ≤ (12 : Int) := by omega
  have hT1 := hT.below hb0
  go_wp2_with fail
  refine (words_any _ hT1.sp).mono ?_
  rintro e w2 ⟨rfl, rfl⟩
  go_wp2_with fail
  refine (has_any _ _ _ (wrds_cells w1)).mono ?_
  rintro e w' ⟨rfl, rfl⟩
  go_wp2_with fail
  refine (clone_any _ _ hs).mono ?_
  rintro e w3 ⟨rfl, hb3⟩
  obtain ⟨hc3, hf3⟩ := bcell hb3
  have hz3 : w1.heap.size + 1 ≤ w3.heap.size := by have := hb3.size; simp at this; omega
  have hz4 : w.heap.size < w3.heap.size := by omega
  have hz5 : w.heap.size < w1.heap.size + 1 := by omega
  go_wp2
  exact bodyPost_ret (v := .tuple #[.agg #[_, .string s, .int .i64 0, .int .i64 0], .bool true]) (by simp [results, Tryz.results101, go_sem, hc, hz, hc3, hz5]) rfl
   ⟨rfl, (((((hb0.alloc (by omega) _).trans (hb3.mono (by simp; omega))).setCell (by simp) _).setCell (by simp) _).setCell (by simp) _).setCell (by simp) _⟩
set_option maxHeartbeats 2000000 in
theorem number_any (s : ByteArray) (w : World) (hs : s.size ≤ 1000000) (h1 : 1 ≤ s.size) (h : (each s).2 = -1) (hd : ∀ q ∈ (each s).1, dgB q.1 = true) :
  Calls Tryz.prog 103 #[.string s] w (NumPost s w) := by
 have HA := Lib.hid (numAt_start s h hd)
 clear h hd
 by_cases hn : s.get! 0 = 48 ∧ 1 < s.size
 ·have HO := Lib.hid (numOut_no hn)
  have h2 : 1 < s.size := hn.2
  have hg : s[0]'h1 = 48 := by
   have : s.data.toList.getD 0 0 = 48 := by rw [Lib.getD_get!']; exact hn.1
   rw [List.getD_eq_getElem?_getD, List.getElem?_eq_getElem (by rw [← Lib.size_eq]; omega)] at this
   exact this
  have hg1 : ((s[0]'h1).toNat : Int) = 48 := by rw [hg]; rfl
  clear hn hg
  go_enter Tryz.func103, Tryz.ntmps103
  go_wp2
  exact bodyPost_ret (by simp [results, Tryz.results103, go_sem]) rfl
   (NumPost.mk HO.out ((Below.refl _ _).alloc (Nat.le_refl _) _))
 ·have HNN := Lib.hid hn
  have key : ∀ (b : Bool), (decide (1 < (s.size : Int)) = b) → (b = true → ((s[0]'h1).toNat : Int) ≠ 48) → True := fun _ _ _ => trivial
  have hcase : ¬ (1 : Int) < (s.size : Int) ∨ ((1 : Int) < (s.size : Int) ∧ (((s[0]'h1).toNat : Int) == 48) = false) := by
   by_cases h2 : 1 < s.size
   ·right
    refine ⟨by omega, ?_⟩
    rw [beq_eq_false_iff_ne]
    intro h48
    refine hn ⟨?_, h2⟩
    rw [← Lib.getD_get!', List.getD_eq_getElem?_getD, List.getElem?_eq_getElem (by rw [← Lib.size_eq]; omega)]
    exact UInt8.toNat_inj.1 (show (s[0]'h1).toNat = 48 by omega)
   ·left; omega
  clear hn key
  rcases hcase with h2 | ⟨h2, h48⟩
  all_goals
   go_enter Tryz.func103, Tryz.ntmps103
   go_wp2
   go_loopw [4] (fun v wr => ∃ (pos b : Nat) (a : Int), v = .int .i64 a ∧ 0 ≤ a ∧ a ≤ 99 ∧ wr.heap[w.heap.size + 1]? = some (.stringIter s pos) ∧ Blk4 wr w.heap.size (.int .i64 0) (.string ⟨#[]⟩) (.int .i64 0) (.int .i64 0) ∧ Below w.heap.size w wr ∧ Hid (numAt s b pos a) ∧ s.size ≤ pos + b) (fun _ wr => s.size - wr.iterPos (w.heap.size + 1))
   case atStart => exact ⟨0, s.size, 0, rfl, by omega, by omega, iter_heap1 w _ s 0, (blk4_new w _ _ _ _).iter s 0, ((Below.refl _ _).alloc (Nat.le_refl _) _).alloc (by simp) _, HA.out, by omega⟩
   case round =>
    obtain ⟨pos, b, a, rfl, ha0, ha9, hit, hcl, hbw, HS, hb⟩ := hrel
    have hpos0 := iterPos_of hit
    clear HA
    by_cases hp : pos < s.size
    ·have hnx : ∀ ty, (Instr.next (.pointer (some ⟨w.heap.size + 1, 0, none⟩)) true ty).run Tryz.prog wr = _ := fun ty => Lib.run_next_any_at wr (w.heap.size + 1) s pos ty hit hp
     have hwd := width_pos s pos hp
     have hwl := width_le s pos hp
     obtain ⟨b, rfl⟩ : ∃ f', b = f' + 1 := ⟨b - 1, by omega⟩
     have hit2 := Lib.iterAt_heap wr (w.heap.size + 1) s pos (pos + (Utf8.decode s pos).2) hit
     have hcl2 := hcl.iterAt (w.heap.size + 1) (by omega) s (pos + (Utf8.decode s pos).2)
     have hbw2 := Lib.below_iterAt hbw (k := w.heap.size + 1) (by omega) s (pos + (Utf8.decode s pos).2)
     obtain ⟨W1, hW1⟩ : ∃ W1, W1 = wr.iterAt (w.heap.size + 1) s (pos + (Utf8.decode s pos).2) := ⟨_, rfl⟩
     rw [← hW1] at hnx hit2 hbw2 hcl2
     have hst := numAt_one hp HS.out ha0 ha9
     obtain ⟨hr0, hr9⟩ := hst.1
     have HN := Lib.hid hst.2
     clear hW1 hit hbw HS hst hcl
     obtain ⟨⟨k0, k1, k2, k3⟩, f0, f1, f2, f3⟩ := blk4 hcl2
     have hlt2 := hcl2.lt
     by_cases h99 : 99 < 10 * a + (((Utf8.decode s pos).1 : Int) - 48)
     ·have HO := Lib.hid (numOut_big (numAt_big HN.out h99))
      clear HN
      go_wp2
      exact bodyPost_ret (by simp [results, Tryz.results103, go_sem, k0, k1, k2, k3]) rfl
       (NumPost.mk HO.out ((((hbw2.setCell (by simp) _).setCell (by simp) _).setCell (by simp) _).setCell (by simp) _))
     ·go_wp2
      go_roundw
      case rel => exact ⟨_, b, _, rfl, by omega, by omega, hit2, hcl2, hbw2, HN.out, by omega⟩
      case measure => rw [iterPos_of hit2, hpos0]; omega
    ·have hnx : ∀ ty, (Instr.next (.pointer (some ⟨w.heap.size + 1, 0, none⟩)) true ty).run Tryz.prog wr = _ := fun ty => Lib.run_next_end_at wr (w.heap.size + 1) s pos ty hit hp
     have HO := Lib.hid (numOut_ok (numAt_end hp HS.out) ha9 HNN.out)
     obtain ⟨⟨k0, k1, k2, k3⟩, f0, f1, f2, f3⟩ := blk4 hcl
     have hlt2 := hcl.lt
     clear HS
     go_wp2
     exact bodyPost_ret (by simp [results, Tryz.results103, go_sem, k0, k1, k2, k3]) rfl
      (NumPost.mk HO.out ((((hbw.setCell (by simp) _).setCell (by simp) _).setCell (by simp) _).setCell (by simp) _))
end Go.Proofs.YtmpcmpeloebnhaaGreatDoor
namespace Go.Proofs.YtmpcmpeloebnhaaGreatDoor
open Go.RowKit
def signOf (s : ByteArray) : ByteArray := (sigL (each s).1).getD ⟨#[]⟩
def noSig (s : ByteArray) (k : Nat) : Prop := sigF (sigs.drop k) (each s).1 = sigL (each s).1
theorem noSig_start (s : ByteArray) : noSig s 0 := rfl
theorem noSig_step (s : ByteArray) (k : Nat) (hk : k < 18) (h : noSig s k) : (rpre (sigs[k]'hk).data.toList (each s).1 = true → signOf s = sigs[k]'hk) ∧ (rpre (sigs[k]'hk).data.toList (each s).1 = false → noSig s (k + 1)) := by
 unfold noSig at h ⊢
 have hd : sigs.drop k = sigs[k]'hk :: sigs.drop (k + 1) := List.drop_eq_getElem_cons hk
 rw [hd] at h
 unfold sigF at h
 constructor
 ·intro h1
  rw [if_pos h1] at h
  unfold signOf
  rw [← h]; rfl
 ·intro h1
  rw [if_neg (by rw [h1]; decide)] at h
  exact h
theorem noSig_end (s : ByteArray) (k : Nat) (hk : ¬ k < 18) (h : noSig s k) : signOf s = ⟨#[]⟩ := by
 unfold noSig at h
 rw [List.drop_of_length_le (by show sigs.length ≤ k; exact Nat.not_lt.1 hk)] at h
 unfold signOf
 rw [← h]; rfl
theorem run_index_sig (w : World) (cs : Array Value) (k : Nat) (v : Value) (hk : k < 18) (h : cs[k]? = some v) : (Instr.index 139 (.agg cs) (.int .i64 k)).run Tryz.prog w = .ok v w := by
 have h1 : (0 : Int) ≤ (k : Int) ∧ (k : Int) < (18 : Int) := by omega
 have h2 : (k : Int).toNat = k := by omega
 simp [Instr.index, asIntOf, run_underlying Tryz.underlying139, Tryz.sizeOf9, Tryz.isAgg9, part, h1, h2, h, go_sem]
 intro h18
 omega
theorem str_is {a b : ByteArray} (h : a = b) : Ending.returned (.string b) = .returned (.string a) := by rw [h]
set_option maxRecDepth 100000 in
set_option maxHeartbeats 1000000 in
theorem sign_any (s : ByteArray) (w : World) (hT : LTabs w) (h : (each s).2 = -1) :
  Calls Tryz.prog 105 #[.string s] w fun e w' => e = .returned (.string (signOf s)) ∧ w = w' := by
 obtain ⟨t, f, hl⟩ := hT.at
 have HP := Lib.hid (fun (k : Nat) (hk : k < 18) => hasPrefix_rpre s (sigs[k]'hk).data.toList (sigs_ascii _ (List.getElem_mem _)) s.size 0 (by omega) h)
 have c0 := (cell_of_row w 0 0 _ t f hl).trans (show _ = some (Value.string ⟨#[60, 61, 62]⟩) from rfl)
 have c1 := (cell_of_row w 0 1 _ t f hl).trans (show _ = some (Value.string ⟨#[61, 62]⟩) from rfl)
 have c2 := (cell_of_row w 0 2 _ t f hl).trans (show _ = some (Value.string ⟨#[60, 61]⟩) from rfl)
 have c3 := (cell_of_row w 0 3 _ t f hl).trans (show _ = some (Value.string ⟨#[126, 61]⟩) from rfl)
 have c4 := (cell_of_row w 0 4 _ t f hl).trans (show _ = some (Value.string ⟨#[61]⟩) from rfl)
 have c5 := (cell_of_row w 0 5 _ t f hl).trans (show _ = some (Value.string ⟨#[126]⟩) from rfl)
 have c6 := (cell_of_row w 0 6 _ t f hl).trans (show _ = some (Value.string ⟨#[60]⟩) from rfl)
 have c7 := (cell_of_row w 0 7 _ t f hl).trans (show _ = some (Value.string ⟨#[38]⟩) from rfl)
 have c8 := (cell_of_row w 0 8 _ t f hl).trans (show _ = some (Value.string ⟨#[124]⟩) from rfl)
 have c9 := (cell_of_row w 0 9 _ t f hl).trans (show _ = some (Value.string ⟨#[40]⟩) from rfl)
 have c10 := (cell_of_row w 0 10 _ t f hl).trans (show _ = some (Value.string ⟨#[41]⟩) from rfl)
 have c11 := (cell_of_row w 0 11 _ t f hl).trans (show _ = some (Value.string ⟨#[123]⟩) from rfl)
 have c12 := (cell_of_row w 0 12 _ t f hl).trans (show _ = some (Value.string ⟨#[125]⟩) from rfl)
 have c13 := (cell_of_row w 0 13 _ t f hl).trans (show _ = some (Value.string ⟨#[44]⟩) from rfl)
 have c14 := (cell_of_row w 0 14 _ t f hl).trans (show _ = some (Value.string ⟨#[59]⟩) from rfl)
 have c15 := (cell_of_row w 0 15 _ t f hl).trans (show _ = some (Value.string ⟨#[58]⟩) from rfl)
 have c16 := (cell_of_row w 0 16 _ t f hl).trans (show _ = some (Value.string ⟨#[43]⟩) from rfl)
 have c17 := (cell_of_row w 0 17 _ t f hl).trans (show _ = some (Value.string ⟨#[92]⟩) from rfl)
 have hat : ∀ k (hk : k < 18), (#[.string ⟨#[60, 61, 62]⟩, .string ⟨#[61, 62]⟩, .string ⟨#[60, 61]⟩, .string ⟨#[126, 61]⟩, .string ⟨#[61]⟩, .string ⟨#[126]⟩, .string ⟨#[60]⟩, .string ⟨#[38]⟩, .string ⟨#[124]⟩, .string ⟨#[40]⟩, .string ⟨#[41]⟩, .string ⟨#[123]⟩, .string ⟨#[125]⟩, .string ⟨#[44]⟩, .string ⟨#[59]⟩, .string ⟨#[58]⟩, .string ⟨#[43]⟩, .string ⟨#[92]⟩] : Array Value)[k]? = some (.string (sigs[k]'hk)) := by
  intro k hk
  have e : (#[.string ⟨#[60, 61, 62]⟩, .string ⟨#[61, 62]⟩, .string ⟨#[60, 61]⟩, .string ⟨#[126, 61]⟩, .string ⟨#[61]⟩, .string ⟨#[126]⟩, .string ⟨#[60]⟩, .string ⟨#[38]⟩, .string ⟨#[124]⟩, .string ⟨#[40]⟩, .string ⟨#[41]⟩, .string ⟨#[123]⟩, .string ⟨#[125]⟩, .string ⟨#[44]⟩, .string ⟨#[59]⟩, .string ⟨#[58]⟩, .string ⟨#[43]⟩, .string ⟨#[92]⟩] : Array Value) = (sigs.map Value.string).toArray := rfl
  rw [e, List.getElem?_toArray, List.getElem?_map, List.getElem?_eq_getElem hk]; rfl
 have HAt := Lib.hid hat
 clear h hT hl hat
 go_enter Tryz.func105, Tryz.ntmps105
 go_wp2
 go_loop [6] (fun i => ∃ k : Nat, i = .int .i64 k ∧ k ≤ 18 ∧ Hid (noSig s k)) (fun i => 18 - (intOf i).toNat)
 case atStart => exact ⟨0, rfl, by omega, noSig_start s⟩
 case round =>
  obtain ⟨k, rfl, hk, HN⟩ := hrel
  clear c0 c1 c2 c3 c4 c5 c6 c7 c8 c9 c10 c11 c12 c13 c14 c15 c16 c17
  by_cases hlt : k < 18
  ·have hx : ∀ wr, (Instr.index 139 _ (.int .i64 k)).run Tryz.prog wr = _ := fun wr => run_index_sig wr _ k _ hlt (HAt.out k hlt)
   have hst := noSig_step s k hlt HN.out
   have hpk : Lib.hasPrefix s.data.toList (sigs[k]'hlt).data.toList = rpre (sigs[k]'hlt).data.toList (each s).1 := HP.out k hlt
   clear HN
   generalize (sigs[k]'hlt) = x at hx hst hpk
   by_cases hr : rpre x.data.toList (each s).1 = true
   ·rw [hr] at hpk
    have HE := Lib.hid (hst.1 hr)
    clear hst hr
    go_wp2_with (go_at_call 135; refine (Tryz.strings_HasPrefix _ _ _).mono ?_; rintro e w' ⟨rfl, rfl⟩)
    go_ret
    exact ⟨str_is HE.out, rfl⟩
   ·simp only [Bool.not_eq_true] at hr
    rw [hr] at hpk
    have HE := Lib.hid (hst.2 hr)
    clear hst hr
    go_wp2_with (go_at_call 135; refine (Tryz.strings_HasPrefix _ _ _).mono ?_; rintro e w' ⟨rfl, rfl⟩)
    go_round
    case rel => exact ⟨k + 1, by go_num, by omega, HE.out⟩
    case measure => simp [intOf]; omega
  ·have HE := Lib.hid (noSig_end s k hlt HN.out)
   clear HN
   go_wp2
   go_ret
   exact ⟨str_is HE.out, rfl⟩
end Go.Proofs.YtmpcmpeloebnhaaGreatDoor
namespace Go.Proofs.YtmpcmpeloebnhaaGreatDoor
open Go.RowKit
theorem str_ext {s : ByteArray} {a b : Nat} (h : a = b) : Ending.returned (.string (s.extract 0 a)) = .returned (.string (s.extract 0 b)) := by rw [h]
theorem str_all {s t : ByteArray} (h : s = t) : Ending.returned (.string s) = .returned (.string t) := by rw [h]
def leadN (p : Int → Bool) (s : ByteArray) : Nat := (posOf (s.size : Int) ((each s).1.drop (cnt p (each s).1))).toNat
def leadAt (p : Int → Bool) (s : ByteArray) (b pos : Nat) : Prop := (eachF s b pos).2 = -1 ∧ leadN p s = (posOf (s.size : Int) ((eachF s b pos).1.drop (cnt p (eachF s b pos).1))).toNat
theorem leadAt_start (p : Int → Bool) (s : ByteArray) (h : (each s).2 = -1) : leadAt p s s.size 0 := ⟨h, rfl⟩
theorem leadAt_good {p : Int → Bool} {s : ByteArray} {b pos : Nat} (hp : pos < s.size) (h : leadAt p s b pos) : ¬ badAt s pos ∨ b = 0 := by
 cases b with
 | zero => right; rfl
 | succ b =>
  left
  intro hb
  have := h.1
  rw [eachF_bad _ _ _ hp hb] at this; simp only [] at this; omega
theorem leadAt_one {p : Int → Bool} {s : ByteArray} {b pos : Nat} (hp : pos < s.size) (h : leadAt p s (b + 1) pos) (hq : p (Utf8.decode s pos).1 = true) : leadAt p s b (pos + (Utf8.decode s pos).2) := by
 have hb : ¬ badAt s pos := by rcases leadAt_good hp h with h | h; exact h; omega
 unfold leadAt at h ⊢
 rw [eachF_one _ _ _ hp hb] at h
 refine ⟨h.1, ?_⟩
 rw [h.2, cnt_pos hq]
 rfl
theorem leadAt_stop {p : Int → Bool} {s : ByteArray} {b pos : Nat} (hp : pos < s.size) (h : leadAt p s (b + 1) pos) (hq : p (Utf8.decode s pos).1 = false) : pos = leadN p s := by
 have hb : ¬ badAt s pos := by rcases leadAt_good hp h with h | h; exact h; omega
 unfold leadAt at h
 rw [eachF_one _ _ _ hp hb] at h
 rw [h.2, cnt_zero hq]
 simp [posOf]
theorem leadAt_end {p : Int → Bool} {s : ByteArray} {b pos : Nat} (hp : ¬ pos < s.size) (h : leadAt p s b pos) : s = s.extract 0 (leadN p s) := by
 unfold leadAt at h
 rw [eachF_end _ _ _ hp] at h
 rw [h.2]
 simp [posOf]
set_option maxHeartbeats 1000000 in
theorem lead_sp (s : ByteArray) (w : World) (h : (each s).2 = -1) :
  Calls Tryz.prog 98 #[.string s, .func (.func 99) #[] #[]] w fun e w' => e = .returned (.string (s.extract 0 (leadN spB s))) ∧ Below w.heap.size w w' := by
 have HA := Lib.hid (leadAt_start spB s h)
 clear h
 go_enter Tryz.func98, Tryz.ntmps98
 go_wp2
 go_loopw [] (fun wr => ∃ (pos b : Nat), wr.heap[w.heap.size]? = some (.stringIter s pos) ∧ Below w.heap.size w wr ∧ Hid (leadAt spB s b pos) ∧ s.size ≤ pos + b) (fun wr => s.size - wr.iterPos w.heap.size)
 case atStart => exact ⟨0, s.size, World.iter_heap w s 0, (Below.refl _ _).alloc (Nat.le_refl _) _, HA.out, by omega⟩
 case round =>
  obtain ⟨pos, b, hit, hbw, HS, hb⟩ := hrel
  have hpos0 := iterPos_of hit
  clear HA
  by_cases hp : pos < s.size
  ·have hnx : ∀ ty, (Instr.next (.pointer (some ⟨w.heap.size, 0, none⟩)) true ty).run Tryz.prog wr = _ := fun ty => Lib.run_next_any_at wr w.heap.size s pos ty hit hp
   have hwd := width_pos s pos hp
   have hwl := width_le s pos hp
   obtain ⟨b, rfl⟩ : ∃ f', b = f' + 1 := ⟨b - 1, by omega⟩
   have hit2 := Lib.iterAt_heap wr w.heap.size s pos (pos + (Utf8.decode s pos).2) hit
   have hbw2 := Lib.below_iterAt hbw (k := w.heap.size) (Nat.le_refl _) s (pos + (Utf8.decode s pos).2)
   obtain ⟨W1, hW1⟩ : ∃ W1, W1 = wr.iterAt w.heap.size s (pos + (Utf8.decode s pos).2) := ⟨_, rfl⟩
   rw [← hW1] at hnx hit2 hbw2
   clear hW1 hit hbw
   by_cases hq : spB (Utf8.decode s pos).1 = true
   ·have HN := Lib.hid (leadAt_one hp HS.out hq)
    clear HS
    go_wp2_with (go_at_call 99; refine (isSpace_any _ _).mono ?_; rintro e w' ⟨rfl, rfl⟩)
    go_roundw
    case rel => exact ⟨_, b, hit2, hbw2, HN.out, by omega⟩
    case measure => rw [iterPos_of hit2, hpos0]; omega
   ·simp only [Bool.not_eq_true] at hq
    have HN := Lib.hid (leadAt_stop hp HS.out hq)
    clear HS
    go_wp2_with (go_at_call 99; refine (isSpace_any _ _).mono ?_; rintro e w' ⟨rfl, rfl⟩)
    go_ret
    exact ⟨str_ext HN.out, hbw2⟩
  ·have hnx : ∀ ty, (Instr.next (.pointer (some ⟨w.heap.size, 0, none⟩)) true ty).run Tryz.prog wr = _ := fun ty => Lib.run_next_end_at wr w.heap.size s pos ty hit hp
   have HN := Lib.hid (leadAt_end hp HS.out)
   clear HS
   go_wp2
   go_ret
   exact ⟨str_all HN.out, hbw⟩
set_option maxHeartbeats 1000000 in
theorem lead_nm (s : ByteArray) (w : World) (h : (each s).2 = -1) :
  Calls Tryz.prog 98 #[.string s, .func (.func 100) #[] #[]] w fun e w' => e = .returned (.string (s.extract 0 (leadN nmB s))) ∧ Below w.heap.size w w' := by
 have HA := Lib.hid (leadAt_start nmB s h)
 clear h
 go_enter Tryz.func98, Tryz.ntmps98
 go_wp2
 go_loopw [] (fun wr => ∃ (pos b : Nat), wr.heap[w.heap.size]? = some (.stringIter s pos) ∧ Below w.heap.size w wr ∧ Hid (leadAt nmB s b pos) ∧ s.size ≤ pos + b) (fun wr => s.size - wr.iterPos w.heap.size)
 case atStart => exact ⟨0, s.size, World.iter_heap w s 0, (Below.refl _ _).alloc (Nat.le_refl _) _, HA.out, by omega⟩
 case round =>
  obtain ⟨pos, b, hit, hbw, HS, hb⟩ := hrel
  have hpos0 := iterPos_of hit
  clear HA
  by_cases hp : pos < s.size
  ·have hnx : ∀ ty, (Instr.next (.pointer (some ⟨w.heap.size, 0, none⟩)) true ty).run Tryz.prog wr = _ := fun ty => Lib.run_next_any_at wr w.heap.size s pos ty hit hp
   have hwd := width_pos s pos hp
   have hwl := width_le s pos hp
   obtain ⟨b, rfl⟩ : ∃ f', b = f' + 1 := ⟨b - 1, by omega⟩
   have hit2 := Lib.iterAt_heap wr w.heap.size s pos (pos + (Utf8.decode s pos).2) hit
   have hbw2 := Lib.below_iterAt hbw (k := w.heap.size) (Nat.le_refl _) s (pos + (Utf8.decode s pos).2)
   obtain ⟨W1, hW1⟩ : ∃ W1, W1 = wr.iterAt w.heap.size s (pos + (Utf8.decode s pos).2) := ⟨_, rfl⟩
   rw [← hW1] at hnx hit2 hbw2
   clear hW1 hit hbw
   by_cases hq : nmB (Utf8.decode s pos).1 = true
   ·have HN := Lib.hid (leadAt_one hp HS.out hq)
    clear HS
    go_wp2_with (go_at_call 100; refine (isNamePart_any _ _).mono ?_; rintro e w' ⟨rfl, rfl⟩)
    go_roundw
    case rel => exact ⟨_, b, hit2, hbw2, HN.out, by omega⟩
    case measure => rw [iterPos_of hit2, hpos0]; omega
   ·simp only [Bool.not_eq_true] at hq
    have HN := Lib.hid (leadAt_stop hp HS.out hq)
    clear HS
    go_wp2_with (go_at_call 100; refine (isNamePart_any _ _).mono ?_; rintro e w' ⟨rfl, rfl⟩)
    go_ret
    exact ⟨str_ext HN.out, hbw2⟩
  ·have hnx : ∀ ty, (Instr.next (.pointer (some ⟨w.heap.size, 0, none⟩)) true ty).run Tryz.prog wr = _ := fun ty => Lib.run_next_end_at wr w.heap.size s pos ty hit hp
   have HN := Lib.hid (leadAt_end hp HS.out)
   clear HS
   go_wp2
   go_ret
   exact ⟨str_all HN.out, hbw⟩
set_option maxHeartbeats 1000000 in
theorem lead_dg (s : ByteArray) (w : World) (h : (each s).2 = -1) :
  Calls Tryz.prog 98 #[.string s, .func (.func 102) #[] #[]] w fun e w' => e = .returned (.string (s.extract 0 (leadN dgB s))) ∧ Below w.heap.size w w' := by
 have HA := Lib.hid (leadAt_start dgB s h)
 clear h
 go_enter Tryz.func98, Tryz.ntmps98
 go_wp2
 go_loopw [] (fun wr => ∃ (pos b : Nat), wr.heap[w.heap.size]? = some (.stringIter s pos) ∧ Below w.heap.size w wr ∧ Hid (leadAt dgB s b pos) ∧ s.size ≤ pos + b) (fun wr => s.size - wr.iterPos w.heap.size)
 case atStart => exact ⟨0, s.size, World.iter_heap w s 0, (Below.refl _ _).alloc (Nat.le_refl _) _, HA.out, by omega⟩
 case round =>
  obtain ⟨pos, b, hit, hbw, HS, hb⟩ := hrel
  have hpos0 := iterPos_of hit
  clear HA
  by_cases hp : pos < s.size
  ·have hnx : ∀ ty, (Instr.next (.pointer (some ⟨w.heap.size, 0, none⟩)) true ty).run Tryz.prog wr = _ := fun ty => Lib.run_next_any_at wr w.heap.size s pos ty hit hp
   have hwd := width_pos s pos hp
   have hwl := width_le s pos hp
   obtain ⟨b, rfl⟩ : ∃ f', b = f' + 1 := ⟨b - 1, by omega⟩
   have hit2 := Lib.iterAt_heap wr w.heap.size s pos (pos + (Utf8.decode s pos).2) hit
   have hbw2 := Lib.below_iterAt hbw (k := w.heap.size) (Nat.le_refl _) s (pos + (Utf8.decode s pos).2)
   obtain ⟨W1, hW1⟩ : ∃ W1, W1 = wr.iterAt w.heap.size s (pos + (Utf8.decode s pos).2) := ⟨_, rfl⟩
   rw [← hW1] at hnx hit2 hbw2
   clear hW1 hit hbw
   by_cases hq : dgB (Utf8.decode s pos).1 = true
   ·have HN := Lib.hid (leadAt_one hp HS.out hq)
    clear HS
    go_wp2_with (go_at_call 102; refine (isDigit_any _ _).mono ?_; rintro e w' ⟨rfl, rfl⟩)
    go_roundw
    case rel => exact ⟨_, b, hit2, hbw2, HN.out, by omega⟩
    case measure => rw [iterPos_of hit2, hpos0]; omega
   ·simp only [Bool.not_eq_true] at hq
    have HN := Lib.hid (leadAt_stop hp HS.out hq)
    clear HS
    go_wp2_with (go_at_call 102; refine (isDigit_any _ _).mono ?_; rintro e w' ⟨rfl, rfl⟩)
    go_ret
    exact ⟨str_ext HN.out, hbw2⟩
  ·have hnx : ∀ ty, (Instr.next (.pointer (some ⟨w.heap.size, 0, none⟩)) true ty).run Tryz.prog wr = _ := fun ty => Lib.run_next_end_at wr w.heap.size s pos ty hit hp
   have HN := Lib.hid (leadAt_end hp HS.out)
   clear HS
   go_wp2
   go_ret
   exact ⟨str_all HN.out, hbw⟩
set_option maxHeartbeats 1000000 in
theorem lead_ln (s : ByteArray) (w : World) (h : (each s).2 = -1) :
  Calls Tryz.prog 98 #[.string s, .func (.func 104) #[] #[]] w fun e w' => e = .returned (.string (s.extract 0 (leadN lnB s))) ∧ Below w.heap.size w w' := by
 have HA := Lib.hid (leadAt_start lnB s h)
 clear h
 go_enter Tryz.func98, Tryz.ntmps98
 go_wp2
 go_loopw [] (fun wr => ∃ (pos b : Nat), wr.heap[w.heap.size]? = some (.stringIter s pos) ∧ Below w.heap.size w wr ∧ Hid (leadAt lnB s b pos) ∧ s.size ≤ pos + b) (fun wr => s.size - wr.iterPos w.heap.size)
 case atStart => exact ⟨0, s.size, World.iter_heap w s 0, (Below.refl _ _).alloc (Nat.le_refl _) _, HA.out, by omega⟩
 case round =>
  obtain ⟨pos, b, hit, hbw, HS, hb⟩ := hrel
  have hpos0 := iterPos_of hit
  clear HA
  by_cases hp : pos < s.size
  ·have hnx : ∀ ty, (Instr.next (.pointer (some ⟨w.heap.size, 0, none⟩)) true ty).run Tryz.prog wr = _ := fun ty => Lib.run_next_any_at wr w.heap.size s pos ty hit hp
   have hwd := width_pos s pos hp
   have hwl := width_le s pos hp
   obtain ⟨b, rfl⟩ : ∃ f', b = f' + 1 := ⟨b - 1, by omega⟩
   have hit2 := Lib.iterAt_heap wr w.heap.size s pos (pos + (Utf8.decode s pos).2) hit
   have hbw2 := Lib.below_iterAt hbw (k := w.heap.size) (Nat.le_refl _) s (pos + (Utf8.decode s pos).2)
   obtain ⟨W1, hW1⟩ : ∃ W1, W1 = wr.iterAt w.heap.size s (pos + (Utf8.decode s pos).2) := ⟨_, rfl⟩
   rw [← hW1] at hnx hit2 hbw2
   clear hW1 hit hbw
   by_cases hq : lnB (Utf8.decode s pos).1 = true
   ·have HN := Lib.hid (leadAt_one hp HS.out hq)
    clear HS
    go_wp2_with (go_at_call 104; refine (isLinePart_any _ _).mono ?_; rintro e w' ⟨rfl, rfl⟩)
    go_roundw
    case rel => exact ⟨_, b, hit2, hbw2, HN.out, by omega⟩
    case measure => rw [iterPos_of hit2, hpos0]; omega
   ·simp only [Bool.not_eq_true] at hq
    have HN := Lib.hid (leadAt_stop hp HS.out hq)
    clear HS
    go_wp2_with (go_at_call 104; refine (isLinePart_any _ _).mono ?_; rintro e w' ⟨rfl, rfl⟩)
    go_ret
    exact ⟨str_ext HN.out, hbw2⟩
  ·have hnx : ∀ ty, (Instr.next (.pointer (some ⟨w.heap.size, 0, none⟩)) true ty).run Tryz.prog wr = _ := fun ty => Lib.run_next_end_at wr w.heap.size s pos ty hit hp
   have HN := Lib.hid (leadAt_end hp HS.out)
   clear HS
   go_wp2
   go_ret
   exact ⟨str_all HN.out, hbw⟩
end Go.Proofs.YtmpcmpeloebnhaaGreatDoor
