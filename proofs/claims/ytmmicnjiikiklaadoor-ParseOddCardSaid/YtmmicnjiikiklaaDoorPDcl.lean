/- order, decl, decls, params of a reader that stands well, and of one behind a fault. -/
import Derived.Test.YtmmicnjiikiklaaDoorPForms
import Derived.Test.YtmmicnjiikiklaaDoorLexA
import Derived.Test.YtmmicnjiikiklaaDoorRows
import Derived.WalkKit
import Derived.WalkLawsBesides
import Derived.WalkSpells
import Derived.ProofKit
import Derived.Outline
import Derived.Deep.QuietTactic
import Derived.BigQuiet
import Derived.Deep.Light
import Derived.Deep.CutBlock
import Derived.Deep.DeepCutAuto
import Derived.Deep.DeepFit
import Derived.Deep.LoopGhost
import Derived.Lib.Hide
import Derived.Lib.OthersKept
import Derived.IntWalk
import Derived.StillTailTactics
namespace Go.Proofs.YtmmicnjiikiklaaDoor
open Go.RowKit
/-! A Decl in memory; order, decl, decls, params, pred. -/
abbrev dclBox (t : ByteArray) (o p : Int) : Obj := .cells #[.string t, .int .i64 o, .int .i64 p] 55
theorem dcl_cells {w : World} {B : Nat} {t : ByteArray} {o p : Int} (h : w.heap[B]? = some (dclBox t o p)) : (w.cell? ⟨B, 0, none⟩ = some (.string t) ∧ w.cell? ⟨B, 1, none⟩ = some (.int .i64 o) ∧ w.cell? ⟨B, 2, none⟩ = some (.int .i64 p)) ∧ w.frozen? ⟨B, 0, none⟩ = false ∧ w.frozen? ⟨B, 1, none⟩ = false ∧ w.frozen? ⟨B, 2, none⟩ = false := by
  refine ⟨⟨?_, ?_, ?_⟩, ?_, ?_, ?_⟩ <;> simp [World.cell?, World.frozen?, h]
theorem dcl_set {w : World} {B : Nat} {o p : Int} {t : ByteArray} (h : w.heap[B]? = some (dclBox t o p)) (t' : ByteArray) (o' p' : Int) : (((w.setCell ⟨B, 0, none⟩ (.string t')).setCell ⟨B, 1, none⟩ (.int .i64 o')).setCell ⟨B, 2, none⟩ (.int .i64 p')).heap[B]? = some (dclBox t' o' p') := by
  have h0 := heap_setCell_same w B 0 _ _ (.string t') h
  have h1 := heap_setCell_same _ B 1 _ _ (.int .i64 o') h0
  have h2 := heap_setCell_same _ B 2 _ _ (.int .i64 p') h1
  exact h2
theorem cellsDcl : Tryd.prog.cellsOf 55 = 3 := by kernel_rfl
theorem ret_dcl {f : Func} {i : Tmp} {R : Ending → World → Prop} {a : Act} {w : World} {B : Nat} {t : ByteArray} {o p : Int} (hf : f.results = #[.cell i 55]) (hs : a.tmps.getD i undef = .pointer (some ⟨B, 0, none⟩)) (hd : a.defers = []) (h : w.heap[B]? = some (dclBox t o p)) (hR : R (.returned (.agg #[.string t, .int .i64 o, .int .i64 p])) w) : bodyPost Tryd.prog f R .ret a w := by
  obtain ⟨⟨c0, c1, c2⟩, _⟩ := dcl_cells h
  refine bodyPost_ret (v := .agg #[.string t, .int .i64 o, .int .i64 p]) ?_ hd hR
  simp at hs
  simp [results, hf, go_sem, hs, c0, c1, c2]
theorem infoDecl : (Tryd.prog.info? 55).map (·.size) = some 3 := by kernel_rfl
-- order, decl: of a reader that stands well, and of one behind a fault
set_option maxRecDepth 100000 in
set_option maxHeartbeats 4000000 in
theorem ord_var1 (l : List Tok) (w : World) (B : Nat) (d : Int) (hx : ((wrd l).toList == [118, 97, 114, 49]) = true) (hS : RdS w B d (.good l)) : Calls Tryd.prog 68 #[.pointer (some ⟨B, 0, none⟩)] w fun e w' => e = .returned (.int .i64 1) ∧ Kp B w w' ∧ RdS w' B d (.good l.tail) := by
  have HC := Lib.hid (word_l l ⟨#[118, 97, 114, 49]⟩ (bytes_of hx) w B d hS)
  have HS := Lib.hid hS
  clear hS hx
  go_enter Tryd.func68, Tryd.ntmps68
  go_wp2_with fail
  refine HC.out.mono ?_
  rintro e w1 ⟨rfl, hb1⟩
  have HC2 := Lib.hid (take_g l w1 B d (HS.out.below hb1))
  have HK1 := Lib.hid ((Kp.refl B w).below hb1)
  clear hb1 HC HS
  go_wp2_with fail
  refine HC2.out.mono ?_
  rintro e w2 ⟨rfl, hk2, hr2⟩
  have HK2 := Lib.hid (HK1.out.trans hk2)
  have HR2 := Lib.hid hr2
  have HC3 := Lib.hid (order_var1 w2)
  clear hk2 hr2 HC2 HK1
  go_wp2_with fail
  refine HC3.out.mono ?_
  rintro e w3 ⟨rfl, rfl⟩
  go_wp2_with fail
  go_ret
  exact ⟨rfl, HK2.out, HR2.out⟩
set_option maxRecDepth 100000 in
set_option maxHeartbeats 4000000 in
theorem ord_any (s : St) (w : World) (B : Nat) (d : Int) (h0 : ((wrd s.l).toList == [118, 97, 114, 48]) = false) (h1 : ((wrd s.l).toList == [118, 97, 114, 49]) = false) (h2 : ((wrd s.l).toList == [118, 97, 114, 50]) = false) (hS : RdS w B d s) : Calls Tryd.prog 68 #[.pointer (some ⟨B, 0, none⟩)] w fun e w' => e = .returned (.int .i64 0) ∧ Kp B w w' ∧ RdS w' B d (s.fail (hd s.l).pos 2) := by
  have HC := Lib.hid (word_any s w B d hS)
  have HS := Lib.hid hS
  clear hS
  go_enter Tryd.func68, Tryd.ntmps68
  go_wp2_with fail
  refine HC.out.mono ?_
  rintro e w1 ⟨rfl, hb1⟩
  have HC2 := Lib.hid (unfit_any s w1 B d (HS.out.below hb1))
  have HK1 := Lib.hid ((Kp.refl B w).below hb1)
  clear hb1 HC HS
  go_wp2_with fail
  refine HC2.out.mono ?_
  rintro e w2 ⟨rfl, hk2, hr2⟩
  have HK2 := Lib.hid (HK1.out.trans hk2)
  have HR2 := Lib.hid hr2
  clear hk2 hr2 HC2 HK1
  go_wp2_with fail
  go_ret
  exact ⟨rfl, HK2.out, HR2.out⟩
set_option maxRecDepth 100000 in
set_option maxHeartbeats 4000000 in
theorem decl_of (o : Int) (k n p : Int) (t : ByteArray) (s s' : St) (w : World) (B : Nat) (d : Int) (hS : RdS w B d s) (hk : ∀ W, RdS W B d s → Calls Tryd.prog 44 #[.pointer (some ⟨B, 0, none⟩), .int .i64 1] W fun e w' => e = .returned (.agg #[.int .i64 k, .string t, .int .i64 n, .int .i64 p]) ∧ Kp B W w' ∧ RdS w' B d s') : Calls Tryd.prog 69 #[.pointer (some ⟨B, 0, none⟩), .int .i64 o] w fun e w' => e = .returned (.agg #[.string t, .int .i64 o, .int .i64 p]) ∧ Kp B w w' ∧ RdS w' B d s' := by
  have hB := hS.lt
  have HC := Lib.hid (hk (w.alloc (dclBox ⟨#[]⟩ 0 0)) (hS.alloc _))
  have HK0 := Lib.hid ((Kp.refl B w).alloc (dclBox ⟨#[]⟩ 0 0))
  have HN := Lib.hid (new_at w (dclBox ⟨#[]⟩ 0 0))
  clear hS hk
  go_enter Tryd.func69, Tryd.ntmps69
  go_wp2_with fail
  refine HC.out.mono ?_
  rintro e w1 ⟨rfl, hk1, hr1⟩
  have HN1 := Lib.hid (hk1.blk HN.out (by omega))
  have HK1 := Lib.hid (HK0.out.trans hk1)
  have HR1 := Lib.hid hr1
  have hz1 := lt_heap HN1.out
  clear hk1 hr1 HC HK0 HN
  obtain ⟨⟨b0, b1, b2⟩, f0, f1, f2⟩ := dcl_cells HN1.out
  go_wp2_with fail
  refine ret_dcl (B := w.heap.size) (t := t) (o := o) (p := p) Tryd.results69 rfl rfl ((Below.heap_alloc _ _ _ (by simp; omega)).trans (dcl_set HN1.out t o p)) ⟨rfl, (by repeat (with_reducible first | exact HK1.out | refine Kp.alloc ?_ _ | refine Kp.set ?_ (Nat.le_refl _) _)), (by repeat (with_reducible first | exact HR1.out | refine RdS.alloc ?_ _ | refine RdS.set ?_ hB _))⟩
theorem decl_g (o : Int) (l : List Tok) (w : World) (B : Nat) (d : Int) (hk : ((hd l).kind == 1) = true) (hS : RdS w B d (.good l)) : Calls Tryd.prog 69 #[.pointer (some ⟨B, 0, none⟩), .int .i64 o] w fun e w' => e = .returned (.agg #[.string (hd l).text, .int .i64 o, .int .i64 (hd l).pos]) ∧ Kp B w w' ∧ RdS w' B d (.good l.tail) := decl_of o _ _ _ _ _ _ w B d hS fun W h => kind_g l 1 W B d hk h
theorem decl_n (o : Int) (l : List Tok) (w : World) (B : Nat) (d : Int) (hk : ((hd l).kind == 1) = false) (hS : RdS w B d (.good l)) : Calls Tryd.prog 69 #[.pointer (some ⟨B, 0, none⟩), .int .i64 o] w fun e w' => e = .returned (.agg #[.string ⟨#[]⟩, .int .i64 o, .int .i64 0]) ∧ Kp B w w' ∧ RdS w' B d (.bad (hd l).pos 2) := decl_of o _ _ _ _ _ _ w B d hS fun W h => kind_n l 1 W B d hk h
theorem decl_b (o : Int) (a e : Int) (w : World) (B : Nat) (d : Int) (hS : RdS w B d (.bad a e)) : Calls Tryd.prog 69 #[.pointer (some ⟨B, 0, none⟩), .int .i64 o] w fun x w' => x = .returned (.agg #[.string ⟨#[]⟩, .int .i64 o, .int .i64 0]) ∧ Kp B w w' ∧ RdS w' B d (.bad a e) := decl_of o _ _ _ _ _ _ w B d hS fun W h => kind_b 1 W B d a e (by decide) h
set_option maxRecDepth 100000 in
set_option maxHeartbeats 4000000 in
theorem decls_odd (l : List Tok) (w : World) (B : Nat) (d : Int) (hx : ((wrd l).toList == [118, 97, 114, 49]) = true) (hk : ((hd l.tail).kind == 1) = true) (hc : ((wrd l.tail.tail).toList == (⟨#[44]⟩ : ByteArray).toList) = false) (hs : ((wrd l.tail.tail).toList == (⟨#[59]⟩ : ByteArray).toList) = false) (hS : RdS w B d (.good l)) : Calls Tryd.prog 40 #[.pointer (some ⟨B, 0, none⟩)] w fun e w' => (∃ b n p t, e = .returned (.slice (some ⟨b, 0, none⟩) 1 1) ∧ b < w'.heap.size ∧ w.heap.size ≤ b ∧ w'.heap[b]? = some (dclBox t n p)) ∧ Kp B w w' ∧ RdS w' B d (.bad (hd l.tail.tail).pos 2) := by
  have hB := hS.lt
  have HC := Lib.hid (ord_var1 l w B d hx hS)
  clear hS hx
  go_enter Tryd.func40, Tryd.ntmps40
  go_wp2_with fail
  refine HC.out.mono ?_
  rintro e1 w1 ⟨rfl, hk1, hr1⟩
  have HC2 := Lib.hid (decl_g 1 l.tail w1 B d hk hr1)
  have HK1 := Lib.hid hk1
  clear hk1 hr1 HC hk
  go_wp2_with fail
  refine HC2.out.mono ?_
  rintro e2 w2 ⟨rfl, hk2, hr2⟩
  have HN2 := Lib.hid (new_at w2 (dclBox (hd l.tail).text 1 (hd l.tail).pos))
  have HK2 := Lib.hid ((HK1.out.trans hk2).alloc (dclBox (hd l.tail).text 1 (hd l.tail).pos))
  have HR2 := Lib.hid (hr2.alloc (dclBox (hd l.tail).text 1 (hd l.tail).pos))
  have hz2 : w.heap.size ≤ w2.heap.size := (HK1.out.trans hk2).size
  clear hk2 hr2 HC2 HK1
  go_wp2_with fail
  go_loopw [4] (fun v wx => v = .slice (some ⟨w2.heap.size, 0, none⟩) 1 1 ∧ RowKit.Hid (wx.heap[w2.heap.size]? = some (dclBox (hd l.tail).text 1 (hd l.tail).pos)) ∧ RowKit.Hid (Kp B w wx) ∧ RowKit.Hid (RdS wx B d (.good l.tail.tail))) (fun _ _ => 0)
  case atStart => exact ⟨rfl, HN2, HK2, HR2⟩
  case round =>
    clear HN2 HK2 HR2
    obtain ⟨rfl, HN, HK, HR⟩ := hrel
    have HC3 := Lib.hid (may_no l.tail.tail ⟨#[44]⟩ wr B d hc HR.out)
    go_wp2_with fail
    refine HC3.out.mono ?_
    rintro e3 w3 ⟨rfl, hk3, hr3⟩
    have HN3 := Lib.hid (hk3.blk HN.out (by omega))
    have HK3 := Lib.hid (HK.out.trans hk3)
    have HC4 := Lib.hid (must_no l.tail.tail ⟨#[59]⟩ w3 B d hs hr3)
    clear hk3 hr3 HC3 HN HK HR
    go_wp2_with fail
    refine HC4.out.mono ?_
    rintro e4 w4 ⟨rfl, hk4, hr4⟩
    have HN4 := hk4.blk HN3.out (by omega)
    have HK4 := HK3.out.trans hk4
    clear HN3 HK3 HC4 hk4
    go_wp2_with fail
    go_ret
    exact ⟨⟨w2.heap.size, _, _, _, rfl, lt_heap HN4, hz2, HN4⟩, HK4, hr4⟩
set_option maxRecDepth 100000 in
set_option maxHeartbeats 4000000 in
theorem params_odd (s : St) (a e : Int) (hf : s.fail (hd s.l).pos 2 = .bad a e) (w : World) (B : Nat) (d : Int) (hp : ((wrd s.l).toList == (⟨#[41]⟩ : ByteArray).toList) = false) (h0 : ((wrd s.l).toList == [118, 97, 114, 48]) = false) (h1 : ((wrd s.l).toList == [118, 97, 114, 49]) = false) (h2 : ((wrd s.l).toList == [118, 97, 114, 50]) = false) (hS : RdS w B d s) : Calls Tryd.prog 71 #[.pointer (some ⟨B, 0, none⟩)] w fun x w' => (∃ b, x = .returned (.slice (some ⟨b, 0, none⟩) 1 1)) ∧ Kp B w w' ∧ RdS w' B d (.bad a e) := by
  have hB := hS.lt
  have HC := may_any s ⟨#[41]⟩ w B d hS
  rw [St.may_no hp, hp] at HC
  replace HC := Lib.hid HC
  clear hS hp
  go_enter Tryd.func71, Tryd.ntmps71
  go_wp2_with fail
  refine HC.out.mono ?_
  rintro x1 w1 ⟨rfl, hk1, hr1⟩
  have hc := ord_any s w1 B d h0 h1 h2 hr1
  rw [hf] at hc
  have HC2 := Lib.hid hc
  have HK1 := Lib.hid hk1
  clear hk1 hr1 HC hc h0 h1 h2 hf
  go_wp2_with fail
  refine HC2.out.mono ?_
  rintro x2 w2 ⟨rfl, hk2, hr2⟩
  have HC3 := Lib.hid (decl_b 0 a e w2 B d hr2)
  have HK2 := Lib.hid (HK1.out.trans hk2)
  clear hk2 hr2 HC2 HK1
  go_wp2_with fail
  refine HC3.out.mono ?_
  rintro x3 w3 ⟨rfl, hk3, hr3⟩
  have HK3 := Lib.hid ((HK2.out.trans hk3).alloc (dclBox ⟨#[]⟩ 0 0))
  have HR3 := Lib.hid (hr3.alloc (dclBox ⟨#[]⟩ 0 0))
  clear hk3 hr3 HC3 HK2
  go_wp2_with fail
  go_loopw [3] (fun v wx => v = .slice (some ⟨w3.heap.size, 0, none⟩) 1 1 ∧ RowKit.Hid (Kp B w wx) ∧ RowKit.Hid (RdS wx B d (.bad a e))) (fun _ _ => 0)
  case atStart => exact ⟨rfl, HK3, HR3⟩
  case round =>
    clear HK3 HR3
    obtain ⟨rfl, HK, HR⟩ := hrel
    have HC4 := Lib.hid (may_b ⟨#[44]⟩ wr B d a e (by decide +kernel) HR.out)
    go_wp2_with fail
    refine HC4.out.mono ?_
    rintro x4 w4 ⟨rfl, hk4, hr4⟩
    have HK4 := Lib.hid (HK.out.trans hk4)
    have HC5 := Lib.hid (must_b ⟨#[41]⟩ w4 B d a e (by decide +kernel) hr4)
    clear hk4 hr4 HC4 HK HR
    go_wp2_with fail
    refine HC5.out.mono ?_
    rintro x5 w5 ⟨rfl, hk5, hr5⟩
    have HK5 := HK4.out.trans hk5
    clear HK4 HC5 hk5
    go_wp2_with fail
    go_ret
    exact ⟨⟨w3.heap.size, rfl⟩, HK5, hr5⟩
end Go.Proofs.YtmmicnjiikiklaaDoor
